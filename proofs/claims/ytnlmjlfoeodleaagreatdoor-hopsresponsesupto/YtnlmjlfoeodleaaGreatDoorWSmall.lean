/- Small functions of package write: minors, statuses, classes of bytes, targets, values. -/
import Derived.Test.YtnlmjlfoeodleaaGreatDoorHFine
import Derived.Test.YtnlmjlfoeodleaaGreatDoorCTold
import Derived.Lib.ItoaLen
namespace Go.Proofs.YtnlmjlfoeodleaaGreatDoor
open Go.RowKit

def minB (k : Int) : Bool := decide (k = 0 ∨ k = 1)
theorem isminor_any (k : Int) (w : World) : Calls Tryz.prog 85 #[.int .i64 k] w fun e w' => e = .returned (.bool (minB k)) ∧ w' = w := by
  by_cases h0 : k = 0
  · subst h0
    go_enter Tryz.func85, Tryz.ntmps85
    go_wp2
    go_ret
    exact ⟨rfl, rfl⟩
  by_cases h1 : k = 1
  · subst h1
    go_enter Tryz.func85, Tryz.ntmps85
    go_wp2
    go_ret
    exact ⟨rfl, rfl⟩
  · have HV := hid (show minB k = false from by unfold minB; rw [decide_eq_false]; simp [h0, h1])
    have e0 : (k == 0) = false := by simpa using h0
    have e1 : (k == 1) = false := by simpa using h1
    go_enter Tryz.func85, Tryz.ntmps85
    go_wp2
    go_ret
    exact ⟨ret_bool HV.out.symm, rfl⟩
def staB (k : Int) : Bool := decide (100 ≤ k ∧ k ≤ 999)
theorem isstatus_any (k : Int) (w : World) : Calls Tryz.prog 99 #[.int .i64 k] w fun e w' => e = .returned (.bool (staB k)) ∧ w' = w := by
  by_cases h0 : 100 ≤ k
  · by_cases h1 : k ≤ 999
    · have HV := hid (show staB k = true from decide_eq_true ⟨h0, h1⟩)
      go_enter Tryz.func99, Tryz.ntmps99
      go_wp2
      go_ret
      exact ⟨ret_bool HV.out.symm, rfl⟩
    · have HV := hid (show staB k = false from decide_eq_false (fun h => h1 h.2))
      go_enter Tryz.func99, Tryz.ntmps99
      go_wp2
      go_ret
      exact ⟨ret_bool HV.out.symm, rfl⟩
  · have HV := hid (show staB k = false from decide_eq_false (fun h => h0 h.1))
    go_enter Tryz.func99, Tryz.ntmps99
    go_wp2
    go_ret
    exact ⟨ret_bool HV.out.symm, rfl⟩
set_option maxRecDepth 20000 in
set_option maxHeartbeats 8000000 in
theorem made_vis (s : B) (hs : s.length ≤ 140737488355328) (w : World) : Calls Tryz.prog 100 #[.string (str s), .func (.func 121) #[] #[]] w fun e w' => e = .returned (.bool (allB 1 s)) ∧ w' = w := by
  obtain ⟨n, hn⟩ : ∃ n, s.length = n := ⟨_, rfl⟩
  have HN := hid hn
  obtain ⟨S, hS⟩ : ∃ S, str s = S := ⟨_, rfl⟩
  have hSn : S.size = n := by rw [← hS, str_size, hn]
  have HByte := hid (show ∀ (k : Nat) (h : k < s.length) (h2 : k < S.size), S[k]'h2 = s[k]'h from fun k h h2 => by subst hS; rfl)
  obtain ⟨R, hR⟩ : ∃ R, allB 1 s = R := ⟨_, rfl⟩
  have HRf := hid (show ∀ y ∈ s, clsB 1 y = false → R = false from fun y hy h => by
    rw [← hR]
    unfold allB
    rw [List.all_eq_false]
    exact ⟨y, hy, by rw [h]; simp⟩)
  have HRt := hid (show (∀ y ∈ s, clsB 1 y = true) → R = true from fun h => by rw [← hR]; unfold allB; rw [List.all_eq_true]; exact h)
  rw [hn] at hs
  rw [hS, hR]
  clear hn hS hR
  go_enter Tryz.func100, Tryz.ntmps100
  go_wp2
  go_loopg [8] (n + 1) (fun gk s8 wr => ∃ i : Nat, i ≤ n ∧ gk = n - i + 1 ∧ s8 = .int .i64 (i : Int) ∧ (∀ y ∈ s.take i, clsB 1 y = true) ∧ wr = w)
  case atStart => exact ⟨0, by omega, rfl, rfl, fun y hy => by simp at hy, rfl⟩
  case round =>
      obtain ⟨i, hi, rfl, rfl, hno, rfl⟩ := hrel
      have HNo := hid hno
      clear hno
      by_cases hin : i < n
      · have hi1 : i < s.length := by rw [HN.out]; exact hin
        obtain ⟨y, hy⟩ : ∃ y, s[i] = y := ⟨_, rfl⟩
        have hbyte : ∀ h : i < S.size, (S[i]'h).toNat = y.toNat := fun h => by rw [HByte.out i hi1 h, hy]
        have HI := hid (show s[i]? = some y from by rw [List.getElem?_eq_getElem hi1, hy])
        have HMe := hid (show y ∈ s from by rw [← hy]; exact List.getElem_mem hi1)
        have HT := hid (show ∀ z ∈ s.take (i + 1), z ∈ s.take i ∨ z = y from fun z hz => by
          rw [List.take_add_one, HI.out] at hz
          rcases List.mem_append.1 hz with h | h
          · exact .inl h
          · exact .inr (by simpa using h))
        have hy0 : (0 : Int) ≤ (y.toNat : Int) := by omega
        have hy1 : (y.toNat : Int) ≤ 255 := by have := y.toNat_lt; omega
        have HRy := hid (HRf.out y HMe.out)
        have HNy := hid (show clsB 1 y = true → ∀ z ∈ s.take (i + 1), clsB 1 z = true from fun h z hz => by
          rcases HT.out z hz with q | q
          · exact HNo.out z q
          · rw [q]; exact h)
        have HKi := hid (show ∀ w, _ from fun w => visible_any (y.toNat : Int) w hy0 hy1)
        have HCl := hid (show clsB 1 y = visB (y.toNat : Int) from rfl)
        obtain ⟨b, hb⟩ : ∃ b, visB (y.toNat : Int) = b := ⟨_, rfl⟩
        rw [hb] at HKi HCl
        clear hb
        clear hy hi1
        cases b with
        | true =>
          have HNx := hid (HNy.out HCl.out)
          go_wp2_with (go_at_call 121; (with_reducible refine (HKi.out _).mono ?_); rintro e w1 ⟨rfl, hw1⟩; subst w1)
          go_roundg (n - (i + 1) + 1)
          case measure => omega
          case rel => exact ⟨i + 1, by omega, rfl, by push_cast; rfl, HNx.out, rfl⟩
        | false =>
          have HV := hid (HRy.out HCl.out)
          go_wp2_with (go_at_call 121; (with_reducible refine (HKi.out _).mono ?_); rintro e w1 ⟨rfl, hw1⟩; subst w1)
          go_ret
          exact ⟨by rw [HV.out]; rfl, rfl⟩
      · obtain rfl : n = i := by omega
        have HV := hid (HRt.out (by have h9 := HNo.out; rw [List.take_of_length_le (by rw [HN.out]; exact Nat.le_refl _)] at h9; exact h9))
        go_wp2
        go_ret
        exact ⟨by rw [HV.out]; rfl, rfl⟩
set_option maxRecDepth 20000 in
set_option maxHeartbeats 8000000 in
theorem made_val (s : B) (hs : s.length ≤ 140737488355328) (w : World) : Calls Tryz.prog 100 #[.string (str s), .func (.func 101) #[] #[]] w fun e w' => e = .returned (.bool (allB 2 s)) ∧ w' = w := by
  obtain ⟨n, hn⟩ : ∃ n, s.length = n := ⟨_, rfl⟩
  have HN := hid hn
  obtain ⟨S, hS⟩ : ∃ S, str s = S := ⟨_, rfl⟩
  have hSn : S.size = n := by rw [← hS, str_size, hn]
  have HByte := hid (show ∀ (k : Nat) (h : k < s.length) (h2 : k < S.size), S[k]'h2 = s[k]'h from fun k h h2 => by subst hS; rfl)
  obtain ⟨R, hR⟩ : ∃ R, allB 2 s = R := ⟨_, rfl⟩
  have HRf := hid (show ∀ y ∈ s, clsB 2 y = false → R = false from fun y hy h => by
    rw [← hR]
    unfold allB
    rw [List.all_eq_false]
    exact ⟨y, hy, by rw [h]; simp⟩)
  have HRt := hid (show (∀ y ∈ s, clsB 2 y = true) → R = true from fun h => by rw [← hR]; unfold allB; rw [List.all_eq_true]; exact h)
  rw [hn] at hs
  rw [hS, hR]
  clear hn hS hR
  go_enter Tryz.func100, Tryz.ntmps100
  go_wp2
  go_loopg [8] (n + 1) (fun gk s8 wr => ∃ i : Nat, i ≤ n ∧ gk = n - i + 1 ∧ s8 = .int .i64 (i : Int) ∧ (∀ y ∈ s.take i, clsB 2 y = true) ∧ wr = w)
  case atStart => exact ⟨0, by omega, rfl, rfl, fun y hy => by simp at hy, rfl⟩
  case round =>
      obtain ⟨i, hi, rfl, rfl, hno, rfl⟩ := hrel
      have HNo := hid hno
      clear hno
      by_cases hin : i < n
      · have hi1 : i < s.length := by rw [HN.out]; exact hin
        obtain ⟨y, hy⟩ : ∃ y, s[i] = y := ⟨_, rfl⟩
        have hbyte : ∀ h : i < S.size, (S[i]'h).toNat = y.toNat := fun h => by rw [HByte.out i hi1 h, hy]
        have HI := hid (show s[i]? = some y from by rw [List.getElem?_eq_getElem hi1, hy])
        have HMe := hid (show y ∈ s from by rw [← hy]; exact List.getElem_mem hi1)
        have HT := hid (show ∀ z ∈ s.take (i + 1), z ∈ s.take i ∨ z = y from fun z hz => by
          rw [List.take_add_one, HI.out] at hz
          rcases List.mem_append.1 hz with h | h
          · exact .inl h
          · exact .inr (by simpa using h))
        have hy0 : (0 : Int) ≤ (y.toNat : Int) := by omega
        have hy1 : (y.toNat : Int) ≤ 255 := by have := y.toNat_lt; omega
        have HRy := hid (HRf.out y HMe.out)
        have HNy := hid (show clsB 2 y = true → ∀ z ∈ s.take (i + 1), clsB 2 z = true from fun h z hz => by
          rcases HT.out z hz with q | q
          · exact HNo.out z q
          · rw [q]; exact h)
        have HKi := hid (show ∀ w, _ from fun w => value_any (y.toNat : Int) w hy0 hy1)
        have HCl := hid (show clsB 2 y = valB (y.toNat : Int) from rfl)
        obtain ⟨b, hb⟩ : ∃ b, valB (y.toNat : Int) = b := ⟨_, rfl⟩
        rw [hb] at HKi HCl
        clear hb
        clear hy hi1
        cases b with
        | true =>
          have HNx := hid (HNy.out HCl.out)
          go_wp2_with (go_at_call 101; (with_reducible refine (HKi.out _).mono ?_); rintro e w1 ⟨rfl, hw1⟩; subst w1)
          go_roundg (n - (i + 1) + 1)
          case measure => omega
          case rel => exact ⟨i + 1, by omega, rfl, by push_cast; rfl, HNx.out, rfl⟩
        | false =>
          have HV := hid (HRy.out HCl.out)
          go_wp2_with (go_at_call 101; (with_reducible refine (HKi.out _).mono ?_); rintro e w1 ⟨rfl, hw1⟩; subst w1)
          go_ret
          exact ⟨by rw [HV.out]; rfl, rfl⟩
      · obtain rfl : n = i := by omega
        have HV := hid (HRt.out (by have h9 := HNo.out; rw [List.take_of_length_le (by rw [HN.out]; exact Nat.le_refl _)] at h9; exact h9))
        go_wp2
        go_ret
        exact ⟨by rw [HV.out]; rfl, rfl⟩
def tarB (t : B) : Bool := decide (t ≠ []) && allB 1 t
set_option maxRecDepth 20000 in
set_option maxHeartbeats 8000000 in
theorem istarget_any (t : B) (hs : t.length ≤ 140737488355328) (w : World) : Calls Tryz.prog 84 #[.string (str t)] w fun e w' => e = .returned (.bool (tarB t)) ∧ w' = w := by
  have HM := hid (made_vis t hs w)
  obtain ⟨b, hb⟩ : ∃ b, allB 1 t = b := ⟨_, rfl⟩
  rw [hb] at HM
  cases t with
  | nil =>
    have HV := hid (show tarB [] = false from rfl)
    clear HM hb
    go_enter Tryz.func84, Tryz.ntmps84
    go_wp2
    go_ret
    exact ⟨ret_bool HV.out.symm, rfl⟩
  | cons x l =>
    have HV := hid (show tarB (x :: l) = b from by unfold tarB; rw [hb]; simp)
    have hne : (str (x :: l)).toList.isEmpty = false := ne_empty (fun e => by have := str_inj (b := []) e; simp at this)
    obtain ⟨S, hS⟩ : ∃ S, str (x :: l) = S := ⟨_, rfl⟩
    rw [hS] at HM hne
    rw [hS]
    clear hS hb hs
    go_enter Tryz.func84, Tryz.ntmps84
    go_wp2_with (go_at_call 100; (with_reducible refine HM.out.mono ?_); rintro e w1 ⟨rfl, hw1⟩; subst w1)
    go_ret
    exact ⟨ret_bool HV.out.symm, rfl⟩
def valueB (v : B) : Bool := allB 2 v && decide (trimL v = v)
set_option maxRecDepth 20000 in
set_option maxHeartbeats 8000000 in
theorem isvalue_any (v : B) (hs : v.length ≤ 140737488355328) (w : World) : Calls Tryz.prog 141 #[.string (str v)] w fun e w' => e = .returned (.bool (valueB v)) ∧ Below w.heap.size w w' := by
  have HM := hid (made_val v hs w)
  have HT := hid (trim_any (str v) w (by rw [str_size]; omega))
  have HTe := hid (show trimS (str v) = str (trimL v) from rfl)
  cases hb : allB 2 v with
  | false =>
    rw [hb] at HM
    have HV := hid (show valueB v = false from by unfold valueB; rw [hb]; rfl)
    obtain ⟨S, hS⟩ : ∃ S, str v = S := ⟨_, rfl⟩
    rw [hS] at HM
    rw [hS]
    clear hS hb hs HT HTe
    go_enter Tryz.func141, Tryz.ntmps141
    go_wp2_with (go_at_call 100; (with_reducible refine HM.out.mono ?_); rintro e w1 ⟨rfl, hw1⟩; subst w1)
    go_ret
    exact ⟨ret_bool HV.out.symm, Below.refl _ _⟩
  | true =>
    rw [hb] at HM
    have HV := hid (show valueB v = decide (trimL v = v) from by unfold valueB; rw [hb]; rfl)
    have hq : ((trimS (str v)).toList == (str v).toList) = decide (trimL v = v) := by
      by_cases h : trimL v = v
      · rw [HTe.out, h]; simp
      · rw [HTe.out, ne_list (str_ne h), decide_eq_false h]
    obtain ⟨R, hR⟩ : ∃ R, decide (trimL v = v) = R := ⟨_, rfl⟩
    rw [hR] at hq HV
    obtain ⟨T, hT⟩ : ∃ T, trimS (str v) = T := ⟨_, rfl⟩
    obtain ⟨S, hS⟩ : ∃ S, str v = S := ⟨_, rfl⟩
    rw [hT] at HT hq
    rw [hS] at HM HT hq
    rw [hS]
    clear hS hb hs hT hR HTe
    go_enter Tryz.func141, Tryz.ntmps141
    go_wp2_with (first | (go_at_call 100; (with_reducible refine HM.out.mono ?_); rintro e w1 ⟨rfl, hw1⟩; subst w1) | (go_at_call 137; (with_reducible refine HT.out.mono ?_); rintro e w1 ⟨rfl, hb⟩; have HB := hid hb; clear hb))
    go_ret
    exact ⟨ret_bool HV.out.symm, HB.out⟩
theorem okF_eq (f : B × B) : okF f = (isTok (str f.1) && valueB f.2) := by unfold okF valueB; rw [Bool.and_assoc]
end Go.Proofs.YtnlmjlfoeodleaaGreatDoor
