/- The checked numbers of package chars, and the document's: each call returns the plain function's number and error and leaves the world as it was; for every text and bound, in both bases. -/
import Derived.Test.YtkjgdfihhhdjaaaDoorCBytes
namespace Go.Proofs.YtkjgdfihhhdjaaaDoor
open Go.RowKit

def okDg (base c : Int) : Bool := hexB c && decide (hexV c < base)
def digTo (base : Int) (s : ByteArray) (k : Nat) : Bool := (s.data.toList.take k).all fun b => okDg base (b.toNat : Int)
def digAll (base : Int) (s : ByteArray) : Bool := decide (s.size ≠ 0) && digTo base s s.size
def numL (base most : Int) : List UInt8 → Int → Option Int
  | [], n => some n
  | b :: r, n => if hexV (b.toNat : Int) > most ∨ n > (most - hexV (b.toNat : Int)) / base then .none else numL base most r (n * base + hexV (b.toNat : Int))
def numN (base most : Int) (s : ByteArray) : Int :=
  if most < 0 then 0 else if digAll base s = false then 0 else (numL base most s.data.toList 0).getD 0
def numE (base most : Int) (s : ByteArray) : Int :=
  if most < 0 then 1 else if digAll base s = false then 3 else if (numL base most s.data.toList 0).isNone then 4 else 0
def errV (k : Int) : Value := if k = 0 then .nilIface else .iface 72 (.int .i64 k)

theorem digTo_snoc (base : Int) (s : ByteArray) (k : Nat) (h : k < s.size) : digTo base s (k + 1) = (digTo base s k && okDg base (s[k].toNat : Int)) := by
  unfold digTo; rw [take_snoc s k h]; simp
theorem digTo_stop (base : Int) (s : ByteArray) (k : Nat) (h : k < s.size) (ht : okDg base (s[k].toNat : Int) = false) : digAll base s = false := by
  unfold digAll digTo
  have : ((s.data.toList.take s.size).all fun b => okDg base (b.toNat : Int)) = false := by
    rw [List.all_eq_false]
    refine ⟨s[k], ?_, by simp [ht]⟩
    rw [List.take_of_length_le (by simp)]
    exact List.getElem_mem (by simpa using h)
  rw [this]; simp
theorem hexV_bd (c : Int) : 0 ≤ hexV c ∧ hexV c ≤ 15 := by
  unfold hexV; (repeat' split) <;> omega
theorem drop_cons (s : ByteArray) (k : Nat) (h : k < s.size) : s.data.toList.drop k = s[k] :: s.data.toList.drop (k + 1) := by
  rw [List.drop_eq_getElem_cons (by simpa using h)]; rfl
theorem numL_stop {base most n : Int} {s : ByteArray} {k : Nat} (h : k < s.size) (hl : numL base most (s.data.toList.drop k) n = numL base most s.data.toList 0)
    (hb : hexV (s[k].toNat : Int) > most ∨ n > (most - hexV (s[k].toNat : Int)) / base) : numL base most s.data.toList 0 = .none := by
  rw [← hl, drop_cons s k h, numL, if_pos hb]
theorem numL_step {base most n : Int} {s : ByteArray} {k : Nat} (h : k < s.size) (hl : numL base most (s.data.toList.drop k) n = numL base most s.data.toList 0)
    (hb : ¬ (hexV (s[k].toNat : Int) > most ∨ n > (most - hexV (s[k].toNat : Int)) / base)) : numL base most (s.data.toList.drop (k + 1)) (n * base + hexV (s[k].toNat : Int)) = numL base most s.data.toList 0 := by
  rw [← hl, drop_cons s k h, numL, if_neg hb]
theorem numL_end {base most n : Int} {s : ByteArray} {k : Nat} (h : ¬ k < s.size) (hl : numL base most (s.data.toList.drop k) n = numL base most s.data.toList 0) : numL base most s.data.toList 0 = some n := by
  rw [← hl, List.drop_eq_nil_of_le (by simp; omega), numL]

theorem way_neg {base most : Int} (s : ByteArray) (h : most < 0) : numN base most s = 0 ∧ numE base most s = 1 := by simp [numN, numE, h]
theorem way_form {base most : Int} {s : ByteArray} (h : 0 ≤ most) (hd : digAll base s = false) : numN base most s = 0 ∧ numE base most s = 3 := by simp [numN, numE, Int.not_lt.2 h, hd]
theorem way_range {base most : Int} {s : ByteArray} (h : 0 ≤ most) (hd : digAll base s = true) (hl : numL base most s.data.toList 0 = .none) : numN base most s = 0 ∧ numE base most s = 4 := by simp [numN, numE, Int.not_lt.2 h, hd, hl]
theorem way_ok {base most n : Int} {s : ByteArray} (h : 0 ≤ most) (hd : digAll base s = true) (hl : numL base most s.data.toList 0 = some n) : numN base most s = n ∧ numE base most s = 0 := by simp [numN, numE, Int.not_lt.2 h, hd, hl]
theorem end_iv {base most n k : Int} {s : ByteArray} {v : Value} {w w' : World} (hv : v = errV k) (hw : w' = w) (h : numN base most s = n ∧ numE base most s = k) :
    Ending.returned (.tuple #[.int .i64 n, v]) = .returned (.tuple #[.int .i64 (numN base most s), errV (numE base most s)]) ∧ w' = w := by rw [h.1, h.2, hv]; exact ⟨rfl, hw⟩
theorem end_ii {base most n k : Int} {s : ByteArray} {w w' : World} (hw : w' = w) (h : numN base most s = n ∧ numE base most s = k) :
    Ending.returned (.tuple #[.int .i64 n, .int .i64 k]) = .returned (.tuple #[.int .i64 (numN base most s), .int .i64 (numE base most s)]) ∧ w' = w := by rw [h.1, h.2]; exact ⟨rfl, hw⟩
theorem ret_iv {a b : Int} {x y : Value} (h : a = b) (g : x = y) : Ending.returned (.tuple #[.int .i64 a, x]) = .returned (.tuple #[.int .i64 b, y]) := by rw [h, g]
theorem ret_ii {a b x y : Int} (h : a = b) (g : x = y) : Ending.returned (.tuple #[.int .i64 a, .int .i64 x]) = .returned (.tuple #[.int .i64 b, .int .i64 y]) := by rw [h, g]

set_option maxHeartbeats 400000 in
theorem digits10_any (s : ByteArray) (w : World) (hs : s.size ≤ maxLen) :
    Calls Tryd.prog 77 #[.string s, .int .i64 10] w fun e w' => e = .returned (.bool (digAll 10 s)) ∧ w' = w := by
  unfold maxLen at hs
  go_enter Tryd.func77, Tryd.ntmps77
  go_wp2
  go_loop [10] (fun i => ∃ k : Nat, k ≤ s.size ∧ i = .int .i64 k ∧ digTo 10 s k = true) (fun i => s.size - (intOf i).toNat)
  case atStart => exact ⟨0, Nat.zero_le _, rfl, rfl⟩
  case round =>
    obtain ⟨k, hk, rfl, hall⟩ := hrel
    by_cases hlt : k < s.size
    · have hb := s[k].toNat_lt
      have hv := hexV_bd (s[k].toNat : Int)
      by_cases hx : hexB (s[k].toNat : Int) = true
      · by_cases hd : hexV (s[k].toNat : Int) < 10
        · go_wp2_with (go_at_call 78; refine (hex_any _ _ (by omega) (by omega)).mono ?_; rintro e w' ⟨rfl, rfl⟩)
          go_round
          case rel => exact ⟨k + 1, by omega, by go_num, by rw [digTo_snoc 10 s k hlt, hall]; simp [okDg, hx, hd]⟩
          case measure => simp [intOf]; omega
        · go_wp2_with (go_at_call 78; refine (hex_any _ _ (by omega) (by omega)).mono ?_; rintro e w' ⟨rfl, rfl⟩)
          go_ret
          exact ⟨ret_bool (digTo_stop 10 s k hlt (by simp [okDg, hx]; omega)).symm, rfl⟩
      · go_wp2_with (go_at_call 78; refine (hex_any _ _ (by omega) (by omega)).mono ?_; rintro e w' ⟨rfl, rfl⟩)
        go_ret
        exact ⟨ret_bool (digTo_stop 10 s k hlt (by simp [okDg, hx])).symm, rfl⟩
    · go_wp2
      go_ret
      have hk' : k = s.size := by omega
      exact ⟨ret_bool (by unfold digAll; rw [← hk', hall, empty_size, ← hk']; simp), rfl⟩

set_option maxHeartbeats 400000 in
theorem digits16_any (s : ByteArray) (w : World) (hs : s.size ≤ maxLen) :
    Calls Tryd.prog 77 #[.string s, .int .i64 16] w fun e w' => e = .returned (.bool (digAll 16 s)) ∧ w' = w := by
  unfold maxLen at hs
  go_enter Tryd.func77, Tryd.ntmps77
  go_wp2
  go_loop [10] (fun i => ∃ k : Nat, k ≤ s.size ∧ i = .int .i64 k ∧ digTo 16 s k = true) (fun i => s.size - (intOf i).toNat)
  case atStart => exact ⟨0, Nat.zero_le _, rfl, rfl⟩
  case round =>
    obtain ⟨k, hk, rfl, hall⟩ := hrel
    by_cases hlt : k < s.size
    · have hb := s[k].toNat_lt
      have hv := hexV_bd (s[k].toNat : Int)
      by_cases hx : hexB (s[k].toNat : Int) = true
      · by_cases hd : hexV (s[k].toNat : Int) < 16
        · go_wp2_with (go_at_call 78; refine (hex_any _ _ (by omega) (by omega)).mono ?_; rintro e w' ⟨rfl, rfl⟩)
          go_round
          case rel => exact ⟨k + 1, by omega, by go_num, by rw [digTo_snoc 16 s k hlt, hall]; simp [okDg, hx, hd]⟩
          case measure => simp [intOf]; omega
        · go_wp2_with (go_at_call 78; refine (hex_any _ _ (by omega) (by omega)).mono ?_; rintro e w' ⟨rfl, rfl⟩)
          go_ret
          exact ⟨ret_bool (digTo_stop 16 s k hlt (by simp [okDg, hx]; omega)).symm, rfl⟩
      · go_wp2_with (go_at_call 78; refine (hex_any _ _ (by omega) (by omega)).mono ?_; rintro e w' ⟨rfl, rfl⟩)
        go_ret
        exact ⟨ret_bool (digTo_stop 16 s k hlt (by simp [okDg, hx])).symm, rfl⟩
    · go_wp2
      go_ret
      have hk' : k = s.size := by omega
      exact ⟨ret_bool (by unfold digAll; rw [← hk', hall, empty_size, ← hk']; simp), rfl⟩

set_option maxHeartbeats 1000000 in
theorem number10_any (s : ByteArray) (most : Int) (w : World) (hs : s.size ≤ maxLen) (hm : most ≤ 9223372036854775807) (hm0 : -9223372036854775808 ≤ most) :
    Calls Tryd.prog 62 #[.string s, .int .i64 10, .int .i64 most] w fun e w' => e = .returned (.tuple #[.int .i64 (numN 10 most s), errV (numE 10 most s)]) ∧ w' = w := by
  have hs2 := hs
  unfold maxLen at hs
  by_cases hneg : most < 0
  · have hW : Hid (numN 10 most s = 0 ∧ numE 10 most s = 1) := way_neg s hneg
    go_enter Tryd.func62, Tryd.ntmps62
    go_wp2
    go_ret2
    exact end_iv rfl rfl hW.out
  have hH : Hid (0 ≤ most) := Int.not_lt.1 hneg
  by_cases hdig : digAll 10 s = false
  · have hW : Hid (numN 10 most s = 0 ∧ numE 10 most s = 3) := way_form hH.out hdig
    go_enter Tryd.func62, Tryd.ntmps62
    go_wp2_with (go_at_call 77; refine (digits10_any _ _ hs2).mono ?_; rintro e w' ⟨rfl, rfl⟩)
    go_ret2
    exact end_iv rfl rfl hW.out
  have hdig' : digAll 10 s = true := by simpa using hdig
  have hD : Hid (digAll 10 s = true) := hdig'
  go_enter Tryd.func62, Tryd.ntmps62
  go_wp2_with (go_at_call 77; refine (digits10_any _ _ hs2).mono ?_; rintro e w' ⟨rfl, rfl⟩)
  go_loop [8, 22] (fun t i => ∃ (k : Nat) (n : Int), k ≤ s.size ∧ i = .int .i64 k ∧ t = .int .i64 n ∧ 0 ≤ n ∧ n ≤ most ∧ Hid (numL 10 most (s.data.toList.drop k) n = numL 10 most s.data.toList 0)) (fun _ i => s.size - (intOf i).toNat)
  case atStart => exact ⟨0, 0, Nat.zero_le _, rfl, rfl, by omega, by omega, rfl⟩
  case round =>
    obtain ⟨k, n, hk, rfl, rfl, hn0, hn1, hl⟩ := hrel
    by_cases hlt : k < s.size
    · have hb := s[k].toNat_lt
      have hv := hexV_bd (s[k].toNat : Int)
      by_cases hx : hexV (s[k].toNat : Int) > most
      · have hW : Hid (numN 10 most s = 0 ∧ numE 10 most s = 4) := way_range hH.out hD.out (numL_stop hlt hl.out (.inl hx))
        go_wp2_with (go_at_call 78; refine (hex_any _ _ (by omega) (by omega)).mono ?_; rintro e w' ⟨rfl, rfl⟩)
        go_ret2
        exact end_iv rfl rfl hW.out
      · by_cases hd : n > (most - hexV (s[k].toNat : Int)) / 10
        · have hW : Hid (numN 10 most s = 0 ∧ numE 10 most s = 4) := way_range hH.out hD.out (numL_stop hlt hl.out (.inr hd))
          go_wp2_with (go_at_call 78; refine (hex_any _ _ (by omega) (by omega)).mono ?_; rintro e w' ⟨rfl, rfl⟩)
          go_ret2
          exact end_iv rfl rfl hW.out
        · have hle : n * 10 + hexV (s[k].toNat : Int) ≤ most := by omega
          have hst : Hid (numL 10 most (s.data.toList.drop (k + 1)) (n * 10 + hexV (s[k].toNat : Int)) = numL 10 most s.data.toList 0) := numL_step hlt hl.out (by omega)
          go_wp2_with (go_at_call 78; refine (hex_any _ _ (by omega) (by omega)).mono ?_; rintro e w' ⟨rfl, rfl⟩)
          go_round
          case rel => exact ⟨k + 1, n * 10 + hexV (s[k].toNat : Int), by omega, by go_num, rfl, by omega, by omega, hst⟩
          case measure => simp [intOf]; omega
    · have hW : Hid (numN 10 most s = n ∧ numE 10 most s = 0) := way_ok hH.out hD.out (numL_end hlt hl.out)
      go_wp2
      go_ret2
      exact end_iv rfl rfl hW.out

set_option maxHeartbeats 1000000 in
theorem number16_any (s : ByteArray) (most : Int) (w : World) (hs : s.size ≤ maxLen) (hm : most ≤ 9223372036854775807) (hm0 : -9223372036854775808 ≤ most) :
    Calls Tryd.prog 62 #[.string s, .int .i64 16, .int .i64 most] w fun e w' => e = .returned (.tuple #[.int .i64 (numN 16 most s), errV (numE 16 most s)]) ∧ w' = w := by
  have hs2 := hs
  unfold maxLen at hs
  by_cases hneg : most < 0
  · have hW : Hid (numN 16 most s = 0 ∧ numE 16 most s = 1) := way_neg s hneg
    go_enter Tryd.func62, Tryd.ntmps62
    go_wp2
    go_ret2
    exact end_iv rfl rfl hW.out
  have hH : Hid (0 ≤ most) := Int.not_lt.1 hneg
  by_cases hdig : digAll 16 s = false
  · have hW : Hid (numN 16 most s = 0 ∧ numE 16 most s = 3) := way_form hH.out hdig
    go_enter Tryd.func62, Tryd.ntmps62
    go_wp2_with (go_at_call 77; refine (digits16_any _ _ hs2).mono ?_; rintro e w' ⟨rfl, rfl⟩)
    go_ret2
    exact end_iv rfl rfl hW.out
  have hdig' : digAll 16 s = true := by simpa using hdig
  have hD : Hid (digAll 16 s = true) := hdig'
  go_enter Tryd.func62, Tryd.ntmps62
  go_wp2_with (go_at_call 77; refine (digits16_any _ _ hs2).mono ?_; rintro e w' ⟨rfl, rfl⟩)
  go_loop [8, 22] (fun t i => ∃ (k : Nat) (n : Int), k ≤ s.size ∧ i = .int .i64 k ∧ t = .int .i64 n ∧ 0 ≤ n ∧ n ≤ most ∧ Hid (numL 16 most (s.data.toList.drop k) n = numL 16 most s.data.toList 0)) (fun _ i => s.size - (intOf i).toNat)
  case atStart => exact ⟨0, 0, Nat.zero_le _, rfl, rfl, by omega, by omega, rfl⟩
  case round =>
    obtain ⟨k, n, hk, rfl, rfl, hn0, hn1, hl⟩ := hrel
    by_cases hlt : k < s.size
    · have hb := s[k].toNat_lt
      have hv := hexV_bd (s[k].toNat : Int)
      by_cases hx : hexV (s[k].toNat : Int) > most
      · have hW : Hid (numN 16 most s = 0 ∧ numE 16 most s = 4) := way_range hH.out hD.out (numL_stop hlt hl.out (.inl hx))
        go_wp2_with (go_at_call 78; refine (hex_any _ _ (by omega) (by omega)).mono ?_; rintro e w' ⟨rfl, rfl⟩)
        go_ret2
        exact end_iv rfl rfl hW.out
      · by_cases hd : n > (most - hexV (s[k].toNat : Int)) / 16
        · have hW : Hid (numN 16 most s = 0 ∧ numE 16 most s = 4) := way_range hH.out hD.out (numL_stop hlt hl.out (.inr hd))
          go_wp2_with (go_at_call 78; refine (hex_any _ _ (by omega) (by omega)).mono ?_; rintro e w' ⟨rfl, rfl⟩)
          go_ret2
          exact end_iv rfl rfl hW.out
        · have hle : n * 16 + hexV (s[k].toNat : Int) ≤ most := by omega
          have hst : Hid (numL 16 most (s.data.toList.drop (k + 1)) (n * 16 + hexV (s[k].toNat : Int)) = numL 16 most s.data.toList 0) := numL_step hlt hl.out (by omega)
          go_wp2_with (go_at_call 78; refine (hex_any _ _ (by omega) (by omega)).mono ?_; rintro e w' ⟨rfl, rfl⟩)
          go_round
          case rel => exact ⟨k + 1, n * 16 + hexV (s[k].toNat : Int), by omega, by go_num, rfl, by omega, by omega, hst⟩
          case measure => simp [intOf]; omega
    · have hW : Hid (numN 16 most s = n ∧ numE 16 most s = 0) := way_ok hH.out hD.out (numL_end hlt hl.out)
      go_wp2
      go_ret2
      exact end_iv rfl rfl hW.out

set_option maxHeartbeats 1000000 in
theorem rnumber10_any (s : ByteArray) (most : Int) (w : World) (hs : s.size ≤ maxLen) (hm : most ≤ 9223372036854775807) (hm0 : -9223372036854775808 ≤ most) :
    Calls Tryd.prog 51 #[.string s, .int .i64 10, .int .i64 most] w fun e w' => e = .returned (.tuple #[.int .i64 (numN 10 most s), .int .i64 (numE 10 most s)]) ∧ w' = w := by
  have hs2 := hs
  unfold maxLen at hs
  by_cases hneg : most < 0
  · have hW : Hid (numN 10 most s = 0 ∧ numE 10 most s = 1) := way_neg s hneg
    go_enter Tryd.func51, Tryd.ntmps51
    go_wp2
    go_ret2
    exact end_ii rfl hW.out
  have hH : Hid (0 ≤ most) := Int.not_lt.1 hneg
  go_enter Tryd.func51, Tryd.ntmps51
  go_wp2
  go_loop [8] (fun i => ∃ k : Nat, k ≤ s.size ∧ i = .int .i64 k ∧ Hid (digTo 10 s k = true)) (fun i => s.size - (intOf i).toNat)
  case atStart => exact ⟨0, Nat.zero_le _, rfl, rfl⟩
  case round =>
    obtain ⟨k0, hk0, rfl, hall⟩ := hrel
    by_cases hlt0 : k0 < s.size
    · have hb := s[k0].toNat_lt
      have hv := hexV_bd (s[k0].toNat : Int)
      by_cases hx : hexB (s[k0].toNat : Int) = true
      · by_cases hd : hexV (s[k0].toNat : Int) < 10
        · have hst : Hid (digTo 10 s (k0 + 1) = true) := (show digTo 10 s (k0 + 1) = true by rw [digTo_snoc 10 s k0 hlt0, hall.out]; simp [okDg, hx, hd])
          go_wp2_with (go_at_call 63; refine (rhex_any _ _ (by omega) (by omega)).mono ?_; rintro e w' ⟨rfl, rfl⟩)
          go_round
          case rel => exact ⟨k0 + 1, by omega, by go_num, hst⟩
          case measure => simp [intOf]; omega
        · have hW : Hid (numN 10 most s = 0 ∧ numE 10 most s = 3) := way_form hH.out (digTo_stop 10 s k0 hlt0 (by simp [okDg, hx]; omega))
          go_wp2_with (go_at_call 63; refine (rhex_any _ _ (by omega) (by omega)).mono ?_; rintro e w' ⟨rfl, rfl⟩)
          go_ret2
          exact end_ii rfl hW.out
      · have hW : Hid (numN 10 most s = 0 ∧ numE 10 most s = 3) := way_form hH.out (digTo_stop 10 s k0 hlt0 (by simp [okDg, hx]))
        go_wp2_with (go_at_call 63; refine (rhex_any _ _ (by omega) (by omega)).mono ?_; rintro e w' ⟨rfl, rfl⟩)
        go_ret2
        exact end_ii rfl hW.out
    · have hk' : k0 = s.size := by omega
      by_cases hz : s.size = 0
      · have hW : Hid (numN 10 most s = 0 ∧ numE 10 most s = 3) := way_form hH.out (by simp [digAll, hz])
        go_wp2
        go_ret2
        exact end_ii rfl hW.out
      · have hD : Hid (digAll 10 s = true) := (show digAll 10 s = true by unfold digAll; rw [← hk', hall.out, hk']; simp [hz])
        clear hk' 
        go_wp2
        go_loop [11, 12] (fun t i => ∃ (k : Nat) (n : Int), k ≤ s.size ∧ i = .int .i64 k ∧ t = .int .i64 n ∧ 0 ≤ n ∧ n ≤ most ∧ Hid (numL 10 most (s.data.toList.drop k) n = numL 10 most s.data.toList 0)) (fun _ i => s.size - (intOf i).toNat)
        case atStart => exact ⟨0, 0, Nat.zero_le _, rfl, rfl, by omega, by omega, rfl⟩
        case round =>
          obtain ⟨k, n, hk, rfl, rfl, hn0, hn1, hl⟩ := hrel
          by_cases hlt : k < s.size
          · have hb := s[k].toNat_lt
            have hv := hexV_bd (s[k].toNat : Int)
            by_cases hx : hexV (s[k].toNat : Int) > most
            · have hW : Hid (numN 10 most s = 0 ∧ numE 10 most s = 4) := way_range hH.out hD.out (numL_stop hlt hl.out (.inl hx))
              go_wp2_with (go_at_call 63; refine (rhex_any _ _ (by omega) (by omega)).mono ?_; rintro e w' ⟨rfl, rfl⟩)
              go_ret2
              exact end_ii rfl hW.out
            · by_cases hd : n > (most - hexV (s[k].toNat : Int)) / 10
              · have hW : Hid (numN 10 most s = 0 ∧ numE 10 most s = 4) := way_range hH.out hD.out (numL_stop hlt hl.out (.inr hd))
                go_wp2_with (go_at_call 63; refine (rhex_any _ _ (by omega) (by omega)).mono ?_; rintro e w' ⟨rfl, rfl⟩)
                go_ret2
                exact end_ii rfl hW.out
              · have hle : n * 10 + hexV (s[k].toNat : Int) ≤ most := by omega
                have hst : Hid (numL 10 most (s.data.toList.drop (k + 1)) (n * 10 + hexV (s[k].toNat : Int)) = numL 10 most s.data.toList 0) := numL_step hlt hl.out (by omega)
                go_wp2_with (go_at_call 63; refine (rhex_any _ _ (by omega) (by omega)).mono ?_; rintro e w' ⟨rfl, rfl⟩)
                go_round
                case rel => exact ⟨k + 1, n * 10 + hexV (s[k].toNat : Int), by omega, by go_num, rfl, by omega, by omega, hst⟩
                case measure => simp [intOf]; omega
          · have hW : Hid (numN 10 most s = n ∧ numE 10 most s = 0) := way_ok hH.out hD.out (numL_end hlt hl.out)
            go_wp2
            go_ret2
            exact end_ii rfl hW.out

set_option maxHeartbeats 1000000 in
theorem rnumber16_any (s : ByteArray) (most : Int) (w : World) (hs : s.size ≤ maxLen) (hm : most ≤ 9223372036854775807) (hm0 : -9223372036854775808 ≤ most) :
    Calls Tryd.prog 51 #[.string s, .int .i64 16, .int .i64 most] w fun e w' => e = .returned (.tuple #[.int .i64 (numN 16 most s), .int .i64 (numE 16 most s)]) ∧ w' = w := by
  have hs2 := hs
  unfold maxLen at hs
  by_cases hneg : most < 0
  · have hW : Hid (numN 16 most s = 0 ∧ numE 16 most s = 1) := way_neg s hneg
    go_enter Tryd.func51, Tryd.ntmps51
    go_wp2
    go_ret2
    exact end_ii rfl hW.out
  have hH : Hid (0 ≤ most) := Int.not_lt.1 hneg
  go_enter Tryd.func51, Tryd.ntmps51
  go_wp2
  go_loop [8] (fun i => ∃ k : Nat, k ≤ s.size ∧ i = .int .i64 k ∧ Hid (digTo 16 s k = true)) (fun i => s.size - (intOf i).toNat)
  case atStart => exact ⟨0, Nat.zero_le _, rfl, rfl⟩
  case round =>
    obtain ⟨k0, hk0, rfl, hall⟩ := hrel
    by_cases hlt0 : k0 < s.size
    · have hb := s[k0].toNat_lt
      have hv := hexV_bd (s[k0].toNat : Int)
      by_cases hx : hexB (s[k0].toNat : Int) = true
      · by_cases hd : hexV (s[k0].toNat : Int) < 16
        · have hst : Hid (digTo 16 s (k0 + 1) = true) := (show digTo 16 s (k0 + 1) = true by rw [digTo_snoc 16 s k0 hlt0, hall.out]; simp [okDg, hx, hd])
          go_wp2_with (go_at_call 63; refine (rhex_any _ _ (by omega) (by omega)).mono ?_; rintro e w' ⟨rfl, rfl⟩)
          go_round
          case rel => exact ⟨k0 + 1, by omega, by go_num, hst⟩
          case measure => simp [intOf]; omega
        · have hW : Hid (numN 16 most s = 0 ∧ numE 16 most s = 3) := way_form hH.out (digTo_stop 16 s k0 hlt0 (by simp [okDg, hx]; omega))
          go_wp2_with (go_at_call 63; refine (rhex_any _ _ (by omega) (by omega)).mono ?_; rintro e w' ⟨rfl, rfl⟩)
          go_ret2
          exact end_ii rfl hW.out
      · have hW : Hid (numN 16 most s = 0 ∧ numE 16 most s = 3) := way_form hH.out (digTo_stop 16 s k0 hlt0 (by simp [okDg, hx]))
        go_wp2_with (go_at_call 63; refine (rhex_any _ _ (by omega) (by omega)).mono ?_; rintro e w' ⟨rfl, rfl⟩)
        go_ret2
        exact end_ii rfl hW.out
    · have hk' : k0 = s.size := by omega
      by_cases hz : s.size = 0
      · have hW : Hid (numN 16 most s = 0 ∧ numE 16 most s = 3) := way_form hH.out (by simp [digAll, hz])
        go_wp2
        go_ret2
        exact end_ii rfl hW.out
      · have hD : Hid (digAll 16 s = true) := (show digAll 16 s = true by unfold digAll; rw [← hk', hall.out, hk']; simp [hz])
        clear hk' 
        go_wp2
        go_loop [11, 12] (fun t i => ∃ (k : Nat) (n : Int), k ≤ s.size ∧ i = .int .i64 k ∧ t = .int .i64 n ∧ 0 ≤ n ∧ n ≤ most ∧ Hid (numL 16 most (s.data.toList.drop k) n = numL 16 most s.data.toList 0)) (fun _ i => s.size - (intOf i).toNat)
        case atStart => exact ⟨0, 0, Nat.zero_le _, rfl, rfl, by omega, by omega, rfl⟩
        case round =>
          obtain ⟨k, n, hk, rfl, rfl, hn0, hn1, hl⟩ := hrel
          by_cases hlt : k < s.size
          · have hb := s[k].toNat_lt
            have hv := hexV_bd (s[k].toNat : Int)
            by_cases hx : hexV (s[k].toNat : Int) > most
            · have hW : Hid (numN 16 most s = 0 ∧ numE 16 most s = 4) := way_range hH.out hD.out (numL_stop hlt hl.out (.inl hx))
              go_wp2_with (go_at_call 63; refine (rhex_any _ _ (by omega) (by omega)).mono ?_; rintro e w' ⟨rfl, rfl⟩)
              go_ret2
              exact end_ii rfl hW.out
            · by_cases hd : n > (most - hexV (s[k].toNat : Int)) / 16
              · have hW : Hid (numN 16 most s = 0 ∧ numE 16 most s = 4) := way_range hH.out hD.out (numL_stop hlt hl.out (.inr hd))
                go_wp2_with (go_at_call 63; refine (rhex_any _ _ (by omega) (by omega)).mono ?_; rintro e w' ⟨rfl, rfl⟩)
                go_ret2
                exact end_ii rfl hW.out
              · have hle : n * 16 + hexV (s[k].toNat : Int) ≤ most := by omega
                have hst : Hid (numL 16 most (s.data.toList.drop (k + 1)) (n * 16 + hexV (s[k].toNat : Int)) = numL 16 most s.data.toList 0) := numL_step hlt hl.out (by omega)
                go_wp2_with (go_at_call 63; refine (rhex_any _ _ (by omega) (by omega)).mono ?_; rintro e w' ⟨rfl, rfl⟩)
                go_round
                case rel => exact ⟨k + 1, n * 16 + hexV (s[k].toNat : Int), by omega, by go_num, rfl, by omega, by omega, hst⟩
                case measure => simp [intOf]; omega
          · have hW : Hid (numN 16 most s = n ∧ numE 16 most s = 0) := way_ok hH.out hD.out (numL_end hlt hl.out)
            go_wp2
            go_ret2
            exact end_ii rfl hW.out

set_option maxHeartbeats 400000 in
theorem decimal_any (s : ByteArray) (most : Int) (w : World) (hs : s.size ≤ maxLen) (hm : most ≤ 9223372036854775807) (hm0 : -9223372036854775808 ≤ most) :
    Calls Tryd.prog 50 #[.string s, .int .i64 most] w fun e w' => e = .returned (.tuple #[.int .i64 (numN 10 most s), errV (numE 10 most s)]) ∧ w' = w := by
  go_enter Tryd.func50, Tryd.ntmps50
  go_wp2_with (go_at_call 62; refine (number10_any _ _ _ hs hm hm0).mono ?_; rintro e w' ⟨rfl, rfl⟩)
  go_ret2
  exact ⟨rfl, rfl⟩

set_option maxHeartbeats 400000 in
theorem rdecimal_any (s : ByteArray) (most : Int) (w : World) (hs : s.size ≤ maxLen) (hm : most ≤ 9223372036854775807) (hm0 : -9223372036854775808 ≤ most) :
    Calls Tryd.prog 35 #[.string s, .int .i64 most] w fun e w' => e = .returned (.tuple #[.int .i64 (numN 10 most s), .int .i64 (numE 10 most s)]) ∧ w' = w := by
  go_enter Tryd.func35, Tryd.ntmps35
  go_wp2_with (go_at_call 51; refine (rnumber10_any _ _ _ hs hm hm0).mono ?_; rintro e w' ⟨rfl, rfl⟩)
  go_ret2
  exact ⟨rfl, rfl⟩

end Go.Proofs.YtkjgdfihhhdjaaaDoor
