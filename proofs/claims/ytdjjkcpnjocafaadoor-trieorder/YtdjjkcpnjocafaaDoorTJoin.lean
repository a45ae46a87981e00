/- A segment's kind, and segments with slashes between, by the document. -/
import Derived.Test.YtdjjkcpnjocafaaDoorTSplit
namespace Go.Proofs.YtdjjkcpnjocafaaDoor
open Go.RowKit

/-- A row of texts in memory. -/
def TxAt (w : World) (p : Option Addr) (l : List B) : Prop := ∀ (j : Nat) (t : B), l[j]? = some t → ∃ g o, p = some ⟨g, o, none⟩ ∧ w.cell? ⟨g, o + j, none⟩ = some (.string (str t))
theorem OwnS.tx {w : World} {base n c : Nat} {p : Option Addr} {l : List B} (h : OwnS w base (.slice p n c) l) : TxAt w p l := fun _ _ hj => h.at hj
theorem TxAt.next {w w' : World} {p : Option Addr} {l : List B} (h : TxAt w p l) (hb : Below w.heap.size w w') : TxAt w' p l := by
  intro j t hj
  obtain ⟨g, o, e, hc⟩ := h j t hj
  exact ⟨g, o, e, cell_keep hb hc⟩
theorem joinT_snoc : ∀ {l : List B} (x : B), l ≠ [] → joinT (l ++ [x]) = joinT l ++ 47 :: x
  | [], _, h => absurd rfl h
  | [y], x, _ => rfl
  | y :: z :: l, x, _ => by
    show y ++ 47 :: joinT (z :: l ++ [x]) = (y ++ 47 :: joinT (z :: l)) ++ 47 :: x
    rw [joinT_snoc x (by simp)]
    simp
theorem joinT_take : ∀ (l : List B) (i : Nat), (joinT (l.take i)).length ≤ (joinT l).length
  | [], i => by simp
  | [x], 0 => Nat.zero_le _
  | [x], i + 1 => by simp
  | x :: y :: l, 0 => Nat.zero_le _
  | x :: y :: l, 1 => by
    show x.length ≤ (x ++ 47 :: joinT (y :: l)).length
    rw [List.length_append]
    omega
  | x :: y :: l, i + 2 => by
    have ih := joinT_take (y :: l) (i + 1)
    show (x ++ 47 :: joinT ((y :: l).take (i + 1))).length ≤ (x ++ 47 :: joinT (y :: l)).length
    simp only [List.length_append, List.length_cons]
    omega
theorem joinT_mem : ∀ {l : List B} {x : B}, x ∈ l → x.length ≤ (joinT l).length
  | [], _, h => by cases h
  | [y], x, h => by
    simp at h
    subst h
    exact Nat.le_refl _
  | y :: z :: l, x, h => by
    show x.length ≤ (y ++ 47 :: joinT (z :: l)).length
    simp only [List.length_append, List.length_cons]
    rcases List.mem_cons.1 h with h1 | h1
    · subst h1; omega
    · have := joinT_mem h1
      omega
set_option maxRecDepth 20000 in
set_option maxHeartbeats 4000000 in
theorem rkind_any (s : B) (hs : s.length ≤ 4398046511104) (w : World) : Calls Tryd.prog 31 #[.string (str s)] w fun e w' => e = .returned (.int .i64 (kindT s : Int)) ∧ w' = w := by
  cases s with
  | nil =>
    show Calls Tryd.prog 31 #[.string ⟨#[]⟩] w _
    go_enter Tryd.func31, Tryd.ntmps31
    go_wp2
    go_ret
    exact ⟨rfl, rfl⟩
  | cons b t =>
    obtain ⟨S, hS⟩ : ∃ S, str (b :: t) = S := ⟨_, rfl⟩
    obtain ⟨m, hm⟩ : ∃ m, t.length = m := ⟨_, rfl⟩
    have hSn : S.size = m + 1 := by rw [← hS, str_size, ← hm]; rfl
    have hs : m ≤ 4398046511104 := by rw [List.length_cons, hm] at hs; omega
    have hm0 : (m : Int) + 1 > 0 := by omega
    obtain ⟨Y, hY⟩ : ∃ Y : Nat, b.toNat = Y := ⟨_, rfl⟩
    have hY256 : Y < 256 := by rw [← hY]; exact b.toNat_lt
    have hbyte : ∀ h : 0 < S.size, (S[0]'h).toNat = Y := fun h => by subst hS; exact hY
    rw [hS]
    clear hS hm
    by_cases h1 : b = 58
    · obtain rfl : Y = 58 := by rw [← hY, h1]; rfl
      have HK := hid (show kindT (b :: t) = 1 from by show (if b = 58 then 1 else if b = 42 then 2 else 0) = 1; rw [if_pos h1])
      rw [HK.out]
      clear h1 hY
      go_enter Tryd.func31, Tryd.ntmps31
      go_wp2
      go_ret
      exact ⟨rfl, rfl⟩
    · have z1 : ¬ (Y : Int) = 58 := fun e => h1 (UInt8.toNat_inj.1 (by rw [hY]; show Y = 58; omega))
      have z2 : ((Y : Int) == 58) = false := by simpa using z1
      by_cases h2 : b = 42
      · obtain rfl : Y = 42 := by rw [← hY, h2]; rfl
        have HK := hid (show kindT (b :: t) = 2 from by show (if b = 58 then 1 else if b = 42 then 2 else 0) = 2; rw [if_neg h1, if_pos h2])
        rw [HK.out]
        clear h1 h2 hY z1 z2
        go_enter Tryd.func31, Tryd.ntmps31
        go_wp2
        go_ret
        exact ⟨rfl, rfl⟩
      · have y1 : ¬ (Y : Int) = 42 := fun e => h2 (UInt8.toNat_inj.1 (by rw [hY]; show Y = 42; omega))
        have y2 : ((Y : Int) == 42) = false := by simpa using y1
        have HK := hid (show kindT (b :: t) = 0 from by show (if b = 58 then 1 else if b = 42 then 2 else 0) = 0; rw [if_neg h1, if_neg h2])
        rw [HK.out]
        clear h1 h2 hY
        go_enter Tryd.func31, Tryd.ntmps31
        go_wp2
        go_ret
        exact ⟨rfl, rfl⟩
set_option maxRecDepth 20000 in
set_option maxHeartbeats 4000000 in
theorem rjoin_any (l : List B) (p : Option Addr) (n c : Nat) (hn : l.length = n) (hnn : n ≤ 4398046511104) (hjl : (joinT l).length ≤ 4398046511104) (w : World) (hT : TxAt w p l) : Calls Tryd.prog 54 #[.slice p n c] w fun e w' => e = .returned (.string (str (joinT l))) ∧ w' = w := by
  have HN := hid hn
  have HT := hid hT
  have HJl := hid (show ∀ i, (joinT (l.take i)).length ≤ 4398046511104 from fun i => Nat.le_trans (joinT_take l i) hjl)
  have HXl := hid (show ∀ x ∈ l, x.length ≤ 4398046511104 from fun x hx => Nat.le_trans (joinT_mem hx) hjl)
  clear hT hn hjl
  go_enter Tryd.func54, Tryd.ntmps54
  go_wp2
  go_loopg [3, 4] (n + 1) (fun gk s3 s4 wr => ∃ i : Nat, i ≤ n ∧ gk = n - i + 1 ∧ s4 = .int .i64 (i : Int) ∧ s3 = .string (str (joinT (l.take i))) ∧ wr = w)
  case atStart => exact ⟨0, by omega, rfl, rfl, rfl, rfl⟩
  case round =>
    obtain ⟨i, hi, rfl, rfl, rfl, rfl⟩ := hrel
    by_cases hin : i < n
    · have hi1 : i < l.length := by rw [HN.out]; exact hin
      obtain ⟨x, hx⟩ : ∃ x, l[i]? = some x := ⟨_, List.getElem?_eq_getElem hi1⟩
      obtain ⟨g, o, rfl, hc⟩ := HT.out i x hx
      by_cases h0 : i = 0
      · subst h0
        have HJ := hid (show str (joinT (l.take 0)) ++ str x = str (joinT (l.take 1)) from by
          cases l with
          | nil => simp at hx
          | cons y m =>
            simp at hx
            subst hx
            show _ = str y
            rw [str_app]
            rfl)
        have hc0 : wr.cell? ⟨g, o, none⟩ = some (.string (str x)) := hc
        obtain ⟨X, hX⟩ : ∃ X, str x = X := ⟨_, rfl⟩
        obtain ⟨J, hJ⟩ : ∃ J, str (joinT (l.take 0)) = J := ⟨_, rfl⟩
        have hXs : X.size ≤ 4398046511104 := by rw [← hX, str_size]; exact HXl.out x (List.mem_of_getElem? hx)
        have hJs : J.size ≤ 4398046511104 := by rw [← hJ, str_size]; exact HJl.out 0
        rw [hX] at hc hc0 HJ
        rw [hJ] at HJ ⊢
        clear hx hX hJ
        go_wp2
        go_roundg (n - (0 + 1) + 1)
        case measure => omega
        case rel => exact ⟨1, by omega, rfl, rfl, congrArg Value.string HJ.out, rfl⟩
      · have HJ := hid (show (str (joinT (l.take i)) ++ (⟨#[47]⟩ : ByteArray)) ++ str x = str (joinT (l.take (i + 1))) from by
          rw [List.take_add_one, hx]
          show _ = str (joinT (l.take i ++ [x]))
          rw [joinT_snoc x (fun e => by
            have h9 := congrArg List.length e
            rw [List.length_take] at h9
            simp at h9
            rcases h9 with h9 | h9
            · exact h0 h9
            · rw [h9] at hi1; simp at hi1), show (⟨#[47]⟩ : ByteArray) = str [47] from rfl, str_app, str_app]
          simp)
        have hip : (i : Int) > 0 := by omega
        obtain ⟨X, hX⟩ : ∃ X, str x = X := ⟨_, rfl⟩
        obtain ⟨J, hJ⟩ : ∃ J, str (joinT (l.take i)) = J := ⟨_, rfl⟩
        have hXs : X.size ≤ 4398046511104 := by rw [← hX, str_size]; exact HXl.out x (List.mem_of_getElem? hx)
        have hJs : J.size ≤ 4398046511104 := by rw [← hJ, str_size]; exact HJl.out i
        rw [hX] at hc HJ
        rw [hJ] at HJ ⊢
        clear hx hX hJ
        go_wp2
        go_roundg (n - (i + 1) + 1)
        case measure => omega
        case rel => exact ⟨i + 1, by omega, rfl, by push_cast; go_num, congrArg Value.string HJ.out, rfl⟩
    · obtain rfl : n = i := by omega
      have HV := hid (show l.take n = l from List.take_of_length_le (by rw [HN.out]; exact Nat.le_refl _))
      go_wp2
      go_ret
      rw [HV.out]
      exact ⟨rfl, rfl⟩
end Go.Proofs.YtdjjkcpnjocafaaDoor
