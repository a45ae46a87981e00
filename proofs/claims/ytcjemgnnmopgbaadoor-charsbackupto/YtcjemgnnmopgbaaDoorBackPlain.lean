/- Plain facts: a number's text is read as it, in both bases; what is small, or trimmed, stays as it is; a list's elements have neither commas nor blanks at their ends. -/
import Derived.Test.YtcjemgnnmopgbaaDoorTexts
import Derived.Test.YtcjemgnnmopgbaaDoorSame
import Derived.Test.YtcjemgnnmopgbaaDoorRList
namespace Go.Proofs.YtcjemgnnmopgbaaDoor

def val (base : Int) : List UInt8 → Int → Int
  | [], n => n
  | b :: r, n => val base r (n * base + hexV (b.toNat : Int))
theorem val_ge {base : Int} (hb : 1 ≤ base) : ∀ (l : List UInt8) (n : Int), 0 ≤ n → n ≤ val base l n
  | [], n, _ => Int.le_refl n
  | b :: r, n, h => by
    have hv := hexV_bd (b.toNat : Int)
    have h1 : n ≤ n * base := by
      have := Int.mul_le_mul_of_nonneg_left hb h
      omega
    have h2 := val_ge hb r (n * base + hexV (b.toNat : Int)) (by omega)
    rw [val]; omega
theorem numL_val {base most : Int} (hb : 1 ≤ base) : ∀ (l : List UInt8) (n : Int), 0 ≤ n → val base l n ≤ most → numL base most l n = some (val base l n)
  | [], n, _, _ => rfl
  | b :: r, n, h, hle => by
    have hv := hexV_bd (b.toNat : Int)
    have h0 : 0 ≤ n * base := Int.mul_nonneg h (by omega)
    rw [val] at hle ⊢
    have hg := val_ge hb r (n * base + hexV (b.toNat : Int)) (by omega)
    have h3 : n ≤ (most - hexV (b.toNat : Int)) / base := by
      rw [Int.le_ediv_iff_mul_le (by omega)]; omega
    rw [numL, if_neg (by omega)]
    exact numL_val hb r _ (by omega) hle
theorem hexV_digC : ∀ d : Fin 16, hexV ((digC d.1).toNat : Int) = d.1 := by decide +kernel
theorem hexB_digC : ∀ d : Fin 16, hexB ((digC d.1).toNat : Int) = true := by decide +kernel
theorem hexV_dig (d : Nat) (h : d < 16) : hexV ((digC d).toNat : Int) = d := hexV_digC ⟨d, h⟩
theorem val_toldL (base : Nat) (h2 : 1 < base) (h16 : base ≤ 16) : ∀ (f x : Nat) (l : List UInt8), x < base ^ (f + 1) → val base (toldL base (f + 1) x l) 0 = val base l x
  | 0, x, l, h => by
    have hx : x < base := by simpa using h
    rw [toldL, if_pos (Nat.div_eq_of_lt hx), val, Nat.mod_eq_of_lt hx, hexV_dig x (by omega)]
    simp
  | f + 1, x, l, h => by
    rw [toldL]
    by_cases hx : x < base
    · rw [if_pos (Nat.div_eq_of_lt hx), val, Nat.mod_eq_of_lt hx, hexV_dig x (by omega)]
      simp
    · obtain ⟨_, h3⟩ := told_room base h2 hx h
      have hm : x % base < base := Nat.mod_lt _ (by omega)
      rw [if_neg (by rw [Nat.div_eq_zero_iff]; omega), val_toldL base h2 h16 f _ _ (by simpa using h3), val, hexV_dig _ (by omega)]
      congr 1
      have := Nat.div_add_mod x base
      have e : (x : Int) = ((base * (x / base) + x % base : Nat) : Int) := by rw [this]
      rw [e]
      push_cast
      rw [Int.mul_comm]
theorem toldL_all (base : Nat) (h2 : 1 < base) (h16 : base ≤ 16) : ∀ (f x : Nat) (l : List UInt8), (∀ b ∈ l, okD base (b.toNat : Int) = true) → ∀ b ∈ toldL base f x l, okD base (b.toNat : Int) = true
  | 0, _, _, h => h
  | f + 1, x, l, h => by
    have hm : x % base < base := Nat.mod_lt _ (by omega)
    have hd : okD base ((digC (x % base)).toNat : Int) = true := by
      unfold okD
      rw [hexV_dig _ (by omega), hexB_digC ⟨x % base, by omega⟩]
      simp; omega
    have hc : ∀ b ∈ digC (x % base) :: l, okD base (b.toNat : Int) = true := by
      intro b hb
      rcases List.mem_cons.1 hb with rfl | hb
      · exact hd
      · exact h b hb
    rw [toldL]
    split
    · exact hc
    · exact toldL_all base h2 h16 f _ _ hc
theorem toldL_ne (base : Nat) : ∀ (f x : Nat) (l : List UInt8), toldL base (f + 1) x l ≠ []
  | 0, x, l => by rw [toldL]; split <;> simp [toldL]
  | f + 1, x, l => by
    rw [toldL]; split
    · simp
    · exact toldL_ne base f _ _
theorem digAll_of {base : Int} {l : List UInt8} (hne : l ≠ []) (h : ∀ b ∈ l, okD base (b.toNat : Int) = true) : digAll base (asB l) = true := by
  have hl : l.length ≠ 0 := fun e => hne (List.eq_nil_of_length_eq_zero e)
  unfold digAll digTo asB
  rw [Bool.and_eq_true]
  constructor
  · simp [ByteArray.size, hne]
  · rw [List.all_eq_true]
    intro b hb
    exact h b (by simpa using List.mem_of_mem_take hb)
theorem back_of {base : Int} {n : Nat} {l : List UInt8} (hb : 1 ≤ base) (hne : l ≠ []) (h : ∀ b ∈ l, okD base (b.toNat : Int) = true) (hv : val base l 0 = n) : numN base n (asB l) = n ∧ numE base n (asB l) = 0 :=
  way_ok (by omega) (digAll_of hne h) (by
    have := numL_val (most := (n : Int)) hb l 0 (by omega) (by omega)
    rw [hv] at this
    exact this)
theorem back16 (n : Nat) (h : n < 18446744073709551616) : numN 16 n (asB (told 16 n)) = n ∧ numE 16 n (asB (told 16 n)) = 0 :=
  back_of (by omega) (toldL_ne 16 63 n []) (toldL_all 16 (by omega) (by omega) 64 n [] (by intro b hb; simp at hb)) (by
    have := val_toldL 16 (by omega) (by omega) 63 n [] (Nat.lt_trans h (by decide))
    simpa [told, val] using this)
theorem back10 (n : Nat) (h : n < 18446744073709551616) : numN 10 n (asB (48 :: 48 :: told 10 n)) = n ∧ numE 10 n (asB (48 :: 48 :: told 10 n)) = 0 :=
  back_of (by omega) (by simp) (by
    intro b hb
    rcases List.mem_cons.1 hb with rfl | hb
    · decide
    · rcases List.mem_cons.1 hb with rfl | hb
      · decide
      · exact toldL_all 10 (by omega) (by omega) 64 n [] (by intro b hb; simp at hb) b hb) (by
    have := val_toldL 10 (by omega) (by omega) 63 n [] (Nat.lt_trans h (by decide))
    rw [val, val]
    simpa [told, val, show hexV 48 = 0 by decide] using this)

theorem dw_head : ∀ (l : List UInt8) (h : l.dropWhile bl ≠ []), bl ((l.dropWhile bl).head h) = false
  | [], h => absurd rfl h
  | b :: l, h => by
    cases hb : bl b
    · simp [hb]
    · have e : (b :: l).dropWhile bl = l.dropWhile bl := List.dropWhile_cons_of_pos hb
      have h' : l.dropWhile bl ≠ [] := by rw [← e]; exact h
      simp only [e]
      exact dw_head l h'
theorem trimL_pre (q : List UInt8) : q.dropWhile bl = trimL q ++ ((q.dropWhile bl).reverse.takeWhile bl).reverse := by
  unfold trimL
  rw [← List.reverse_append, List.takeWhile_append_dropWhile, List.reverse_reverse]
theorem trimL_ends (q : List UInt8) : trimL q = [] ∨ (∃ h, bl ((trimL q).head h) = false) ∧ ∃ h, bl ((trimL q).getLast h) = false := by
  by_cases he : trimL q = []
  · exact .inl he
  · right
    refine ⟨⟨he, ?_⟩, he, ?_⟩
    · have e := trimL_pre q
      have hd : q.dropWhile bl ≠ [] := by rw [e]; simp [he]
      have h1 := dw_head q hd
      have h2 : (q.dropWhile bl).head hd = (trimL q).head he := by
        have : (trimL q ++ ((q.dropWhile bl).reverse.takeWhile bl).reverse).head (by simp [he]) = (trimL q).head he := List.head_append_of_ne_nil he
        rw [← this]; congr 1
      rw [← h2]; exact h1
    · have hd : (q.dropWhile bl).reverse.dropWhile bl ≠ [] := by
        intro h; apply he; unfold trimL; rw [h]; rfl
      have h1 := dw_head _ hd
      have h2 : (trimL q).getLast he = ((q.dropWhile bl).reverse.dropWhile bl).head hd := by
        simp [trimL]
      rw [h2]; exact h1
theorem trimL_idem (q : List UInt8) : trimL (trimL q) = trimL q :=
  trim_of (A := []) (B := []) (by simp) (by intro x hx; simp at hx) (by intro x hx; simp at hx) (trimL_ends q)
theorem trimL_mem {q : List UInt8} {x : UInt8} (h : x ∈ trimL q) : x ∈ q := by
  have h1 : x ∈ q.dropWhile bl := by rw [trimL_pre q]; exact List.mem_append_left _ h
  exact (List.dropWhile_suffix bl).subset h1
theorem trimL_len (q : List UInt8) : (trimL q).length ≤ q.length := by
  have h1 : (trimL q).length ≤ (q.dropWhile bl).length := by
    have := congrArg List.length (trimL_pre q); rw [List.length_append] at this; omega
  exact Nat.le_trans h1 (List.dropWhile_suffix bl).length_le
theorem cutL_no : ∀ (l q : List UInt8), q ∈ cutL l → ∀ x ∈ q, x ≠ 44
  | [], q, h, x, hx => by simp [cutL] at h; subst h; simp at hx
  | b :: l, q, h, x, hx => by
    unfold cutL at h
    split at h
    · rcases List.mem_cons.1 h with rfl | h
      · simp at hx
      · exact cutL_no l q h x hx
    · rename_i hb
      split at h
      · rename_i e; exact absurd e (cutL_ne l)
      · rename_i p r e
        rcases List.mem_cons.1 h with rfl | h
        · rcases List.mem_cons.1 hx with rfl | hx
          · exact hb
          · exact cutL_no l p (by rw [e]; simp) x hx
        · exact cutL_no l q (by rw [e]; simp [h]) x hx
theorem elem_of {s e : ByteArray} (h : e ∈ listS s) : e.size ≠ 0 ∧ trimS e = e ∧ (listS e).length = 1 ∧ e.size ≤ s.size := by
  unfold listS at h
  obtain ⟨p, hp, rfl⟩ := List.mem_map.1 h
  unfold listL at hp
  obtain ⟨hp1, hp2⟩ := List.mem_filter.1 hp
  obtain ⟨q, hq, rfl⟩ := List.mem_map.1 hp1
  have hne : trimL q ≠ [] := by
    intro e; rw [e] at hp2; simp at hp2
  have hl : (trimL q).length ≠ 0 := fun e => hne (List.eq_nil_of_length_eq_zero e)
  have hlen : (asB (trimL q)).size = (trimL q).length := by simp [asB, ByteArray.size]
  have hdl : (asB (trimL q)).data.toList = trimL q := by simp [asB]
  refine ⟨by omega, ?_, ?_, ?_⟩
  · unfold trimS; rw [hdl, trimL_idem]; rfl
  · unfold listS
    rw [hdl, List.length_map]
    unfold listL
    rw [cutL_none _ (fun x hx => cutL_no _ q hq x (trimL_mem hx)), List.map_cons, List.map_nil, trimL_idem]
    rw [List.filter_cons_of_pos (by simpa using hp2)]
    rfl
  · have h1 := trimL_len q
    have h2 := cutL_len _ q hq
    have h3 : s.data.toList.length = s.size := by simp
    omega
theorem smallU_idem (b : UInt8) : smallU (smallU b) = smallU b := by
  apply UInt8.toNat_inj.1
  have h1 := smallU_val (smallU b)
  have h2 := smallU_val b
  rw [h2] at h1
  have hlt := b.toNat_lt
  unfold smallV at h1 h2
  split at h2
  · rw [if_neg (by omega)] at h1; omega
  · rename_i hh; rw [if_neg hh] at h1; omega
theorem lowS_list (s : ByteArray) : (lowS s).data.toList = lowL s := by simp [lowS]
theorem lowS_idem (s : ByteArray) : lowS (lowS s) = lowS s := by
  rw [lowS_inj]
  conv => lhs; unfold lowL
  rw [lowS_list]
  unfold lowL
  rw [List.map_map]
  congr 1
  funext b
  exact smallU_idem b
theorem lowS_size (s : ByteArray) : (lowS s).size = s.size := by
  have := congrArg List.length (lowS_list s)
  rw [lowL_len] at this
  simpa using this
theorem same_low (s : ByteArray) : sameB s (lowS s) = true := by
  unfold sameB; rw [lowS_idem]; simp
theorem trimS_idem (s : ByteArray) : trimS (trimS s) = trimS s := by
  unfold trimS
  have : (⟨(trimL s.data.toList).toArray⟩ : ByteArray).data.toList = trimL s.data.toList := by simp
  rw [this, trimL_idem]
theorem trimS_size (s : ByteArray) : (trimS s).size ≤ s.size := by
  have h1 : (trimS s).size = (trimL s.data.toList).length := by simp [trimS, ByteArray.size]
  have h2 := trimL_len s.data.toList
  have h3 : s.data.toList.length = s.size := by simp
  omega
end Go.Proofs.YtcjemgnnmopgbaaDoor
