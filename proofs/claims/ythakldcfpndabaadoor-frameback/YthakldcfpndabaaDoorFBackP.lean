/- Plain facts: a number's text is read as it; what is framed so is read as framed so; both framings at once, or two lengths that part, are refused. -/
import Derived.Test.YthakldcfpndabaaDoorFFlds
import Derived.Test.YthakldcfpndabaaDoorFMsg
namespace Go.Proofs.YthakldcfpndabaaDoor

def val (base : Int) : List UInt8 → Int → Int
  | [], n => n
  | b :: r, n => val base r (n * base + hexV (b.toNat : Int))
theorem val_ge {base : Int} (hb : 1 ≤ base) : ∀ (l : List UInt8) (n : Int), 0 ≤ n → n ≤ val base l n
  | [], n, _ => Int.le_refl n
  | b :: r, n, h => by
    have hv := hexV_bd (b.toNat : Int)
    have h1 : n ≤ n * base := by
      have := Int.mul_le_mul_of_nonneg_left hb h
      omega
    have h2 := val_ge hb r (n * base + hexV (b.toNat : Int)) (by omega)
    rw [val]; omega
theorem numL_val {base most : Int} (hb : 1 ≤ base) : ∀ (l : List UInt8) (n : Int), 0 ≤ n → val base l n ≤ most → numL base most l n = some (val base l n)
  | [], n, _, _ => rfl
  | b :: r, n, h, hle => by
    have hv := hexV_bd (b.toNat : Int)
    have h0 : 0 ≤ n * base := Int.mul_nonneg h (by omega)
    rw [val] at hle ⊢
    have hg := val_ge hb r (n * base + hexV (b.toNat : Int)) (by omega)
    have h3 : n ≤ (most - hexV (b.toNat : Int)) / base := by
      rw [Int.le_ediv_iff_mul_le (by omega)]; omega
    rw [numL, if_neg (by omega)]
    exact numL_val hb r _ (by omega) hle
theorem hexV_digC : ∀ d : Fin 16, hexV ((digC d.1).toNat : Int) = d.1 := by decide +kernel
theorem hexB_digC : ∀ d : Fin 16, hexB ((digC d.1).toNat : Int) = true := by decide +kernel
theorem hexV_dig (d : Nat) (h : d < 16) : hexV ((digC d).toNat : Int) = d := hexV_digC ⟨d, h⟩
theorem val_toldL (base : Nat) (h2 : 1 < base) (h16 : base ≤ 16) : ∀ (f x : Nat) (l : List UInt8), x < base ^ (f + 1) → val base (toldL base (f + 1) x l) 0 = val base l x
  | 0, x, l, h => by
    have hx : x < base := by simpa using h
    rw [toldL, if_pos (Nat.div_eq_of_lt hx), val, Nat.mod_eq_of_lt hx, hexV_dig x (by omega)]
    simp
  | f + 1, x, l, h => by
    rw [toldL]
    by_cases hx : x < base
    · rw [if_pos (Nat.div_eq_of_lt hx), val, Nat.mod_eq_of_lt hx, hexV_dig x (by omega)]
      simp
    · obtain ⟨_, h3⟩ := told_room base h2 hx h
      have hm : x % base < base := Nat.mod_lt _ (by omega)
      rw [if_neg (by rw [Nat.div_eq_zero_iff]; omega), val_toldL base h2 h16 f _ _ (by simpa using h3), val, hexV_dig _ (by omega)]
      congr 1
      have := Nat.div_add_mod x base
      have e : (x : Int) = ((base * (x / base) + x % base : Nat) : Int) := by rw [this]
      rw [e]
      push_cast
      rw [Int.mul_comm]
theorem toldL_all (base : Nat) (h2 : 1 < base) (h16 : base ≤ 16) : ∀ (f x : Nat) (l : List UInt8), (∀ b ∈ l, okDg base (b.toNat : Int) = true) → ∀ b ∈ toldL base f x l, okDg base (b.toNat : Int) = true
  | 0, _, _, h => h
  | f + 1, x, l, h => by
    have hm : x % base < base := Nat.mod_lt _ (by omega)
    have hd : okDg base ((digC (x % base)).toNat : Int) = true := by
      unfold okDg
      rw [hexV_dig _ (by omega), hexB_digC ⟨x % base, by omega⟩]
      simp; omega
    have hc : ∀ b ∈ digC (x % base) :: l, okDg base (b.toNat : Int) = true := by
      intro b hb
      rcases List.mem_cons.1 hb with rfl | hb
      · exact hd
      · exact h b hb
    rw [toldL]
    split
    · exact hc
    · exact toldL_all base h2 h16 f _ _ hc
theorem toldL_ne (base : Nat) : ∀ (f x : Nat) (l : List UInt8), toldL base (f + 1) x l ≠ []
  | 0, x, l => by rw [toldL]; split <;> simp [toldL]
  | f + 1, x, l => by
    rw [toldL]; split
    · simp
    · exact toldL_ne base f _ _
theorem digAll_of {base : Int} {l : List UInt8} (hne : l ≠ []) (h : ∀ b ∈ l, okDg base (b.toNat : Int) = true) : digAll base (asB l) = true := by
  unfold digAll digTo asB
  rw [Bool.and_eq_true]
  constructor
  · simp [ByteArray.size, hne]
  · rw [List.all_eq_true]
    intro b hb
    exact h b (by simpa using List.mem_of_mem_take hb)
theorem told_ok (n : Nat) : ∀ b ∈ told 10 n, okDg 10 (b.toNat : Int) = true := toldL_all 10 (by omega) (by omega) 64 n [] (by intro b hb; simp at hb)
theorem told_ne (n : Nat) : told 10 n ≠ [] := toldL_ne 10 63 n []
theorem told_val (n : Nat) (h : n < 18446744073709551616) : val 10 (told 10 n) 0 = n := by
  have := val_toldL 10 (by omega) (by omega) 63 n [] (Nat.lt_trans h (by decide))
  simpa [told, val] using this
theorem elB_told (n : Nat) (h : n ≤ 1099511627776) : elB (str (told 10 n)) = some (n : Int) := by
  have h1 := told_val n (by omega)
  have h2 := numL_val (base := 10) (most := 1099511627776) (by omega) (told 10 n) 0 (by omega) (by omega)
  rw [h1] at h2
  obtain ⟨e1, e2⟩ := way_ok (base := 10) (most := 1099511627776) (s := asB (told 10 n)) (by decide) (digAll_of (told_ne n) (told_ok n)) h2
  exact elB_yes e2 e1
theorem ok_plain : ∀ b : UInt8, okDg 10 (b.toNat : Int) = true → b ≠ 44 ∧ bl b = false := all256 (by decide +kernel)
theorem dropWhile_no {p : UInt8 → Bool} : ∀ l : List UInt8, (∀ b ∈ l, p b = false) → l.dropWhile p = l
  | [], _ => rfl
  | b :: l, h => by rw [List.dropWhile_cons, if_neg (by rw [h b (by simp)]; decide)]
theorem trimL_no (l : List UInt8) (h : ∀ b ∈ l, bl b = false) : trimL l = l := by
  unfold trimL
  rw [dropWhile_no l h, dropWhile_no l.reverse (fun b hb => h b (by simpa using hb)), List.reverse_reverse]
theorem listS_told (n : Nat) : listS (str (told 10 n)) = [str (told 10 n)] := by
  have h := fun b hb => ok_plain b (told_ok n b hb)
  have e : listL (told 10 n) = [told 10 n] := by
    unfold listL
    rw [cutL_none _ (fun x hx => (h x hx).1), List.map_singleton, trimL_no _ (fun x hx => (h x hx).2)]
    have := told_ne n
    simp [this]
  show (listL (told 10 n)).map asB = _
  rw [e]
  rfl
theorem oneN_told (n : Nat) (h : n ≤ 1099511627776) : oneN (str (told 10 n)) = some (n : Int) := by
  unfold oneN
  rw [listS_told, run, elB_told n h]
  rfl
theorem vals_app (a b : List (B × B)) (nm : ByteArray) : valsB (a ++ b) nm = valsB a nm ++ valsB b nm := by
  unfold valsB
  rw [List.filter_append, List.map_append]
theorem vals_unf (fs : List (B × B)) : valsB (unfF fs) clN = [] ∧ valsB (unfF fs) teN = [] := by
  unfold valsB unfF
  rw [List.filter_filter, List.filter_filter]
  have e1 : (fs.filter fun f => sameB (str f.1) clN && !frB (str f.1)) = [] := by
    rw [List.filter_eq_nil_iff]
    intro f _
    unfold frB
    cases sameB (str f.1) clN <;> simp
  have e2 : (fs.filter fun f => sameB (str f.1) teN && !frB (str f.1)) = [] := by
    rw [List.filter_eq_nil_iff]
    intro f _
    unfold frB
    cases sameB (str f.1) teN <;> simp
  rw [e1, e2]
  exact ⟨rfl, rfl⟩
theorem same_names : sameB (str clB) clN = true ∧ sameB (str clB) teN = false ∧ sameB (str teB) clN = false ∧ sameB (str teB) teN = true := by decide +kernel
theorem chk_ch : chkB [str chB] = true := by decide +kernel
theorem vals_one (f : B × B) (nm : ByteArray) : valsB [f] nm = if sameB (str f.1) nm = true then [str f.2] else [] := by
  unfold valsB
  cases h : sameB (str f.1) nm <;> simp [h]
/-- What is framed so is read as framed so. -/
theorem back_frm (fs : List (B × B)) (K N o : Int) (hok : okFr K N = true) (ho : K ≠ 1 → K ≠ 2 → o = K) : frmF 1 (unfF fs ++ addF K N) o = ((K, N), 0) := by
  have hk := of_decide_eq_true hok
  obtain ⟨u1, u2⟩ := vals_unf fs
  obtain ⟨s1, s2, s3, s4⟩ := same_names
  unfold frmF lenF chkF
  rw [vals_app, vals_app, u1, u2, List.nil_append, List.nil_append]
  unfold addF
  by_cases k1 : K = 1
  · subst k1
    have v1 : valsB [(clB, told 10 N.toNat)] clN = [str (told 10 N.toNat)] := by rw [vals_one]; exact if_pos s1
    have v2 : valsB [(clB, told 10 N.toNat)] teN = [] := by rw [vals_one]; exact if_neg (by rw [s2]; decide)
    have e1 : lenT (runV none [str (told 10 N.toNat)]) = (N, true, 0) := by
      rw [runV, oneN_told N.toNat (by omega)]
      show ((N.toNat : Int), true, 0) = _
      rw [Int.toNat_of_nonneg (by omega)]
    have e2 : chkT [] = (false, 0) := rfl
    rw [if_pos rfl, v1, v2, e1, e2]
    simp
  · rw [if_neg k1]
    have hN : N = 0 := by omega
    subst hN
    have e1 : lenT (runV none []) = (0, false, 0) := rfl
    by_cases k2 : K = 2
    · subst k2
      have v1 : valsB [(teB, chB)] clN = [] := by rw [vals_one]; exact if_neg (by rw [s3]; decide)
      have v2 : valsB [(teB, chB)] teN = [str chB] := by rw [vals_one]; exact if_pos s4
      have e2 : chkT [str chB] = (true, 0) := by unfold chkT; rw [if_neg (by simp), if_pos chk_ch]
      rw [if_pos rfl, v1, v2, e1, e2]
      simp
    · have e2 : chkT [] = (false, 0) := rfl
      rw [if_neg k2, ho k1 k2, show valsB [] clN = [] from rfl, show valsB [] teN = [] from rfl, e1, e2]
      simp
theorem runV_all : ∀ {l : List ByteArray} {st r : Option Int}, runV st l = some r → ∀ x ∈ l, oneN x = r
  | [], _, _, _, x, hx => by simp at hx
  | v :: l, st, r, h, x, hx => by
    unfold runV at h
    cases e : oneN v with
    | none => rw [e] at h; cases h
    | some m =>
      rw [e] at h
      simp only at h
      split at h
      · have hr := runV_keep h
        rcases List.mem_cons.1 hx with rfl | hx
        · rw [e, hr]
        · exact runV_all h x hx
      · cases h
theorem len_some {fs : List (B × B)} (h : valsB fs clN ≠ []) : (lenT (lenF fs)).2.2 ≠ 0 ∨ (lenT (lenF fs)).2.1 = true := by
  unfold lenF
  cases hV : valsB fs clN with
  | nil => exact absurd hV h
  | cons v l =>
    cases hr : runV none (v :: l) with
    | none => exact .inl (by decide)
    | some r =>
      have h1 := runV_all hr v (by simp)
      unfold runV at hr
      rw [h1] at hr
      cases r with
      | none => cases hr
      | some n => exact .inr rfl
theorem chk_some {fs : List (B × B)} (h : valsB fs teN ≠ []) : (chkF fs).2 ≠ 0 ∨ (chkF fs).1 = true := by
  unfold chkF chkT
  rw [if_neg h]
  split
  · exact .inr rfl
  · exact .inl (by decide)
/-- Both framings at once. -/
theorem both_frm {fs : List (B × B)} (k o : Int) (h1 : valsB fs clN ≠ []) (h2 : valsB fs teN ≠ []) : (frmF k fs o).2 = 30 := by
  have e1 := len_some h1
  have e2 := chk_some h2
  unfold frmF
  rw [if_pos]
  rcases e1 with e1 | e1
  · exact .inl e1
  · rcases e2 with e2 | e2
    · exact .inr (.inl e2)
    · exact .inr (.inr ⟨e2, .inl e1⟩)
/-- Two lengths that part. -/
theorem part_frm {fs : List (B × B)} (k o : Int) {x y : ByteArray} {n m : Int} (hx : x ∈ valsB fs clN) (hy : y ∈ valsB fs clN) (en : oneN x = some n) (em : oneN y = some m) (hne : n ≠ m) : (frmF k fs o).2 = 30 := by
  have hL : lenF fs = none := by
    unfold lenF
    cases hr : runV none (valsB fs clN) with
    | none => rfl
    | some r =>
      have h1 := runV_all hr x hx
      have h2 := runV_all hr y hy
      rw [en] at h1
      rw [em, ← h1] at h2
      simp at h2
      exact absurd h2.symm hne
  unfold frmF
  rw [hL, if_pos (.inl (by decide))]
end Go.Proofs.YthakldcfpndabaaDoor
