/- The document's lines of a head: where a byte stands, texts of a kind, versions. -/
import Derived.Test.YtfmkkkkdfkjdlaaDoorCBytes
namespace Go.Proofs.YtfmkkkkdfkjdlaaDoor
open Go.RowKit

/-- Where a byte stands first, or -1. -/
def findV (x : UInt8) (s : B) : Int := if (cutF x s).2.2 then ((cutF x s).1.length : Int) else -1
theorem find_at {x : UInt8} {s : B} {i : Nat} (h : ∀ y ∈ s.take i, y ≠ x) (hx : s[i]? = some x) : findV x s = (i : Int) := by
  have hlt : i < s.length := (List.getElem?_eq_some_iff.1 hx).1
  have e0 : s[i] = x := by rw [List.getElem?_eq_getElem hlt] at hx; exact Option.some.inj hx
  have e1 : s = s.take i ++ x :: s.drop (i + 1) := by
    conv => lhs; rw [← List.take_append_drop i s]
    rw [List.drop_eq_getElem_cons hlt, e0]
  unfold findV
  rw [e1, cutF_at _ _ h]
  simp
  omega
theorem find_none {x : UInt8} {s : B} (h : ∀ y ∈ s, y ≠ x) : findV x s = -1 := by
  unfold findV
  rw [cutF_no s h]
  rfl
set_option maxRecDepth 20000 in
set_option maxHeartbeats 8000000 in
theorem find_any (s : B) (x : UInt8) (hs : s.length ≤ 70368744177664) (w : World) : Calls Tryd.prog 32 #[.string (str s), byteV x] w fun e w' => e = .returned (.int .i64 (findV x s)) ∧ w' = w := by
  obtain ⟨n, hn⟩ : ∃ n, s.length = n := ⟨_, rfl⟩
  have HN := hid hn
  obtain ⟨S, hS⟩ : ∃ S, str s = S := ⟨_, rfl⟩
  have hSn : S.size = n := by rw [← hS, str_size, hn]
  have HByte := hid (show ∀ (k : Nat) (h : k < s.length) (h2 : k < S.size), S[k]'h2 = s[k]'h from fun k h h2 => by subst hS; rfl)
  obtain ⟨R, hR⟩ : ∃ R, findV x s = R := ⟨_, rfl⟩
  have HRa := hid (show ∀ i, (∀ y ∈ s.take i, y ≠ x) → s[i]? = some x → R = (i : Int) from fun i a b => by rw [← hR]; exact find_at a b)
  have HRn := hid (show (∀ y ∈ s, y ≠ x) → R = -1 from fun a => by rw [← hR]; exact find_none a)
  rw [hn] at hs
  rw [hS, hR]
  obtain ⟨X, hX⟩ : ∃ X : Nat, x.toNat = X := ⟨_, rfl⟩
  unfold byteV
  rw [hX]
  have HX := hid hX
  clear hn hS hR hX
  go_enter Tryd.func32, Tryd.ntmps32
  go_wp2
  go_loopg [5] (n + 1) (fun gk s5 wr => ∃ i : Nat, i ≤ n ∧ gk = n - i + 1 ∧ s5 = .int .i64 (i : Int) ∧ (∀ y ∈ s.take i, y ≠ x) ∧ wr = w)
  case atStart => exact ⟨0, by omega, rfl, rfl, fun y hy => by simp at hy, rfl⟩
  case round =>
    obtain ⟨i, hi, rfl, rfl, hno, rfl⟩ := hrel
    have HNo := hid hno
    clear hno
    by_cases hin : i < n
    · have hi1 : i < s.length := by rw [HN.out]; exact hin
      obtain ⟨y, hy⟩ : ∃ y, s[i] = y := ⟨_, rfl⟩
      have hbyte : ∀ h : i < S.size, (S[i]'h).toNat = y.toNat := fun h => by rw [HByte.out i hi1 h, hy]
      have HI := hid (show s[i]? = some y from by rw [List.getElem?_eq_getElem hi1, hy])
      have HT := hid (show ∀ z ∈ s.take (i + 1), z ∈ s.take i ∨ z = y from fun z hz => by
        rw [List.take_add_one, HI.out] at hz
        rcases List.mem_append.1 hz with h | h
        · exact .inl h
        · exact .inr (by simpa using h))
      clear hy hi1
      by_cases hyx : y = x
      · subst hyx
        have HV := hid (HRa.out i HNo.out HI.out)
        rw [HX.out] at hbyte
        go_wp2
        go_ret
        exact ⟨by rw [HV.out]; rfl, rfl⟩
      · have z1 : ¬ (y.toNat : Int) = (X : Int) := fun e => hyx (UInt8.toNat_inj.1 (by rw [HX.out]; omega))
        have z2 : ((y.toNat : Int) == (X : Int)) = false := by simpa using z1
        have HNx := hid (show ∀ z ∈ s.take (i + 1), z ≠ x from fun z hz => by
          rcases HT.out z hz with h | h
          · exact HNo.out z h
          · rw [h]; exact hyx)
        clear hyx
        go_wp2
        go_roundg (n - (i + 1) + 1)
        case measure => omega
        case rel => exact ⟨i + 1, by omega, rfl, by push_cast; rfl, HNx.out, rfl⟩
    · obtain rfl : n = i := by omega
      have HV := hid (HRn.out (by have h9 := HNo.out; rw [List.take_of_length_le (by rw [HN.out]; exact Nat.le_refl _)] at h9; exact h9))
      go_wp2
      go_ret
      exact ⟨by rw [HV.out]; rfl, rfl⟩
/-- A token's byte, a visible one, a value's. -/
def clsB (k : Nat) (c : UInt8) : Bool := if k = 1 then visB (c.toNat : Int) else if k = 2 then valB (c.toNat : Int) else tokB (c.toNat : Int)
def allB (k : Nat) (s : B) : Bool := s.all (clsB k)
set_option maxRecDepth 20000 in
set_option maxHeartbeats 8000000 in
theorem all_any0 (s : B) (hs : s.length ≤ 70368744177664) (w : World) : Calls Tryd.prog 85 #[.string (str s), .int .i64 0] w fun e w' => e = .returned (.bool (allB 0 s)) ∧ w' = w := by
  obtain ⟨n, hn⟩ : ∃ n, s.length = n := ⟨_, rfl⟩
  have HN := hid hn
  obtain ⟨S, hS⟩ : ∃ S, str s = S := ⟨_, rfl⟩
  have hSn : S.size = n := by rw [← hS, str_size, hn]
  have HByte := hid (show ∀ (k : Nat) (h : k < s.length) (h2 : k < S.size), S[k]'h2 = s[k]'h from fun k h h2 => by subst hS; rfl)
  obtain ⟨R, hR⟩ : ∃ R, allB 0 s = R := ⟨_, rfl⟩
  have HRf := hid (show ∀ y ∈ s, clsB 0 y = false → R = false from fun y hy h => by
    rw [← hR]
    unfold allB
    rw [List.all_eq_false]
    exact ⟨y, hy, by rw [h]; simp⟩)
  have HRt := hid (show (∀ y ∈ s, clsB 0 y = true) → R = true from fun h => by rw [← hR]; unfold allB; rw [List.all_eq_true]; exact h)
  rw [hn] at hs
  rw [hS, hR]
  clear hn hS hR
  go_enter Tryd.func85, Tryd.ntmps85
  go_wp2
  go_loopg [5] (n + 1) (fun gk s5 wr => ∃ i : Nat, i ≤ n ∧ gk = n - i + 1 ∧ s5 = .int .i64 (i : Int) ∧ (∀ y ∈ s.take i, clsB 0 y = true) ∧ wr = w)
  case atStart => exact ⟨0, by omega, rfl, rfl, fun y hy => by simp at hy, rfl⟩
  case round =>
      obtain ⟨i, hi, rfl, rfl, hno, rfl⟩ := hrel
      have HNo := hid hno
      clear hno
      by_cases hin : i < n
      · have hi1 : i < s.length := by rw [HN.out]; exact hin
        obtain ⟨y, hy⟩ : ∃ y, s[i] = y := ⟨_, rfl⟩
        have hbyte : ∀ h : i < S.size, (S[i]'h).toNat = y.toNat := fun h => by rw [HByte.out i hi1 h, hy]
        have HI := hid (show s[i]? = some y from by rw [List.getElem?_eq_getElem hi1, hy])
        have HMe := hid (show y ∈ s from by rw [← hy]; exact List.getElem_mem hi1)
        have HT := hid (show ∀ z ∈ s.take (i + 1), z ∈ s.take i ∨ z = y from fun z hz => by
          rw [List.take_add_one, HI.out] at hz
          rcases List.mem_append.1 hz with h | h
          · exact .inl h
          · exact .inr (by simpa using h))
        have hy0 : (0 : Int) ≤ (y.toNat : Int) := by omega
        have hy1 : (y.toNat : Int) ≤ 255 := by have := y.toNat_lt; omega
        have HRy := hid (HRf.out y HMe.out)
        have HNy := hid (show clsB 0 y = true → ∀ z ∈ s.take (i + 1), clsB 0 z = true from fun h z hz => by
          rcases HT.out z hz with q | q
          · exact HNo.out z q
          · rw [q]; exact h)
        have HTo := hid (show ∀ w, _ from fun w => rtoken_any (y.toNat : Int) w hy0 hy1)
        have HCl := hid (show clsB 0 y = tokB (y.toNat : Int) from rfl)
        obtain ⟨b, hb⟩ : ∃ b, tokB (y.toNat : Int) = b := ⟨_, rfl⟩
        rw [hb] at HTo HCl
        clear hb
        clear hy hi1
        cases b with
        | true =>
          have HNx := hid (HNy.out HCl.out)
          go_wp2_with (go_at_call 91; (with_reducible refine (HTo.out _).mono ?_); rintro e w1 ⟨rfl, hw1⟩; subst w1)
          go_roundg (n - (i + 1) + 1)
          case measure => omega
          case rel => exact ⟨i + 1, by omega, rfl, by push_cast; rfl, HNx.out, rfl⟩
        | false =>
          have HV := hid (HRy.out HCl.out)
          go_wp2_with (go_at_call 91; (with_reducible refine (HTo.out _).mono ?_); rintro e w1 ⟨rfl, hw1⟩; subst w1)
          go_ret
          exact ⟨by rw [HV.out]; rfl, rfl⟩
      · obtain rfl : n = i := by omega
        have HV := hid (HRt.out (by have h9 := HNo.out; rw [List.take_of_length_le (by rw [HN.out]; exact Nat.le_refl _)] at h9; exact h9))
        go_wp2
        go_ret
        exact ⟨by rw [HV.out]; rfl, rfl⟩
set_option maxRecDepth 20000 in
set_option maxHeartbeats 8000000 in
theorem all_any1 (s : B) (hs : s.length ≤ 70368744177664) (w : World) : Calls Tryd.prog 85 #[.string (str s), .int .i64 1] w fun e w' => e = .returned (.bool (allB 1 s)) ∧ w' = w := by
  obtain ⟨n, hn⟩ : ∃ n, s.length = n := ⟨_, rfl⟩
  have HN := hid hn
  obtain ⟨S, hS⟩ : ∃ S, str s = S := ⟨_, rfl⟩
  have hSn : S.size = n := by rw [← hS, str_size, hn]
  have HByte := hid (show ∀ (k : Nat) (h : k < s.length) (h2 : k < S.size), S[k]'h2 = s[k]'h from fun k h h2 => by subst hS; rfl)
  obtain ⟨R, hR⟩ : ∃ R, allB 1 s = R := ⟨_, rfl⟩
  have HRf := hid (show ∀ y ∈ s, clsB 1 y = false → R = false from fun y hy h => by
    rw [← hR]
    unfold allB
    rw [List.all_eq_false]
    exact ⟨y, hy, by rw [h]; simp⟩)
  have HRt := hid (show (∀ y ∈ s, clsB 1 y = true) → R = true from fun h => by rw [← hR]; unfold allB; rw [List.all_eq_true]; exact h)
  rw [hn] at hs
  rw [hS, hR]
  clear hn hS hR
  go_enter Tryd.func85, Tryd.ntmps85
  go_wp2
  go_loopg [5] (n + 1) (fun gk s5 wr => ∃ i : Nat, i ≤ n ∧ gk = n - i + 1 ∧ s5 = .int .i64 (i : Int) ∧ (∀ y ∈ s.take i, clsB 1 y = true) ∧ wr = w)
  case atStart => exact ⟨0, by omega, rfl, rfl, fun y hy => by simp at hy, rfl⟩
  case round =>
      obtain ⟨i, hi, rfl, rfl, hno, rfl⟩ := hrel
      have HNo := hid hno
      clear hno
      by_cases hin : i < n
      · have hi1 : i < s.length := by rw [HN.out]; exact hin
        obtain ⟨y, hy⟩ : ∃ y, s[i] = y := ⟨_, rfl⟩
        have hbyte : ∀ h : i < S.size, (S[i]'h).toNat = y.toNat := fun h => by rw [HByte.out i hi1 h, hy]
        have HI := hid (show s[i]? = some y from by rw [List.getElem?_eq_getElem hi1, hy])
        have HMe := hid (show y ∈ s from by rw [← hy]; exact List.getElem_mem hi1)
        have HT := hid (show ∀ z ∈ s.take (i + 1), z ∈ s.take i ∨ z = y from fun z hz => by
          rw [List.take_add_one, HI.out] at hz
          rcases List.mem_append.1 hz with h | h
          · exact .inl h
          · exact .inr (by simpa using h))
        have hy0 : (0 : Int) ≤ (y.toNat : Int) := by omega
        have hy1 : (y.toNat : Int) ≤ 255 := by have := y.toNat_lt; omega
        have HRy := hid (HRf.out y HMe.out)
        have HNy := hid (show clsB 1 y = true → ∀ z ∈ s.take (i + 1), clsB 1 z = true from fun h z hz => by
          rcases HT.out z hz with q | q
          · exact HNo.out z q
          · rw [q]; exact h)
        have HTo := hid (show ∀ w, _ from fun w => rtoken_any (y.toNat : Int) w hy0 hy1)
        have HKi := hid (show ∀ w, _ from fun w => rvisible_any (y.toNat : Int) w hy0 hy1)
        obtain ⟨tk, htk⟩ : ∃ tk, tokB (y.toNat : Int) = tk := ⟨_, rfl⟩
        rw [htk] at HTo
        clear htk
        have HCl := hid (show clsB 1 y = visB (y.toNat : Int) from rfl)
        obtain ⟨b, hb⟩ : ∃ b, visB (y.toNat : Int) = b := ⟨_, rfl⟩
        rw [hb] at HKi HCl
        clear hb
        clear hy hi1
        cases b with
        | true =>
          have HNx := hid (HNy.out HCl.out)
          go_wp2_with (first | (go_at_call 91; (with_reducible refine (HTo.out _).mono ?_); rintro e w1 ⟨rfl, hw1⟩; subst w1) | (go_at_call 92; (with_reducible refine (HKi.out _).mono ?_); rintro e w1 ⟨rfl, hw1⟩; subst w1))
          go_roundg (n - (i + 1) + 1)
          case measure => omega
          case rel => exact ⟨i + 1, by omega, rfl, by push_cast; rfl, HNx.out, rfl⟩
        | false =>
          have HV := hid (HRy.out HCl.out)
          go_wp2_with (first | (go_at_call 91; (with_reducible refine (HTo.out _).mono ?_); rintro e w1 ⟨rfl, hw1⟩; subst w1) | (go_at_call 92; (with_reducible refine (HKi.out _).mono ?_); rintro e w1 ⟨rfl, hw1⟩; subst w1))
          go_ret
          exact ⟨by rw [HV.out]; rfl, rfl⟩
      · obtain rfl : n = i := by omega
        have HV := hid (HRt.out (by have h9 := HNo.out; rw [List.take_of_length_le (by rw [HN.out]; exact Nat.le_refl _)] at h9; exact h9))
        go_wp2
        go_ret
        exact ⟨by rw [HV.out]; rfl, rfl⟩
set_option maxRecDepth 20000 in
set_option maxHeartbeats 8000000 in
theorem all_any2 (s : B) (hs : s.length ≤ 70368744177664) (w : World) : Calls Tryd.prog 85 #[.string (str s), .int .i64 2] w fun e w' => e = .returned (.bool (allB 2 s)) ∧ w' = w := by
  obtain ⟨n, hn⟩ : ∃ n, s.length = n := ⟨_, rfl⟩
  have HN := hid hn
  obtain ⟨S, hS⟩ : ∃ S, str s = S := ⟨_, rfl⟩
  have hSn : S.size = n := by rw [← hS, str_size, hn]
  have HByte := hid (show ∀ (k : Nat) (h : k < s.length) (h2 : k < S.size), S[k]'h2 = s[k]'h from fun k h h2 => by subst hS; rfl)
  obtain ⟨R, hR⟩ : ∃ R, allB 2 s = R := ⟨_, rfl⟩
  have HRf := hid (show ∀ y ∈ s, clsB 2 y = false → R = false from fun y hy h => by
    rw [← hR]
    unfold allB
    rw [List.all_eq_false]
    exact ⟨y, hy, by rw [h]; simp⟩)
  have HRt := hid (show (∀ y ∈ s, clsB 2 y = true) → R = true from fun h => by rw [← hR]; unfold allB; rw [List.all_eq_true]; exact h)
  rw [hn] at hs
  rw [hS, hR]
  clear hn hS hR
  go_enter Tryd.func85, Tryd.ntmps85
  go_wp2
  go_loopg [5] (n + 1) (fun gk s5 wr => ∃ i : Nat, i ≤ n ∧ gk = n - i + 1 ∧ s5 = .int .i64 (i : Int) ∧ (∀ y ∈ s.take i, clsB 2 y = true) ∧ wr = w)
  case atStart => exact ⟨0, by omega, rfl, rfl, fun y hy => by simp at hy, rfl⟩
  case round =>
      obtain ⟨i, hi, rfl, rfl, hno, rfl⟩ := hrel
      have HNo := hid hno
      clear hno
      by_cases hin : i < n
      · have hi1 : i < s.length := by rw [HN.out]; exact hin
        obtain ⟨y, hy⟩ : ∃ y, s[i] = y := ⟨_, rfl⟩
        have hbyte : ∀ h : i < S.size, (S[i]'h).toNat = y.toNat := fun h => by rw [HByte.out i hi1 h, hy]
        have HI := hid (show s[i]? = some y from by rw [List.getElem?_eq_getElem hi1, hy])
        have HMe := hid (show y ∈ s from by rw [← hy]; exact List.getElem_mem hi1)
        have HT := hid (show ∀ z ∈ s.take (i + 1), z ∈ s.take i ∨ z = y from fun z hz => by
          rw [List.take_add_one, HI.out] at hz
          rcases List.mem_append.1 hz with h | h
          · exact .inl h
          · exact .inr (by simpa using h))
        have hy0 : (0 : Int) ≤ (y.toNat : Int) := by omega
        have hy1 : (y.toNat : Int) ≤ 255 := by have := y.toNat_lt; omega
        have HRy := hid (HRf.out y HMe.out)
        have HNy := hid (show clsB 2 y = true → ∀ z ∈ s.take (i + 1), clsB 2 z = true from fun h z hz => by
          rcases HT.out z hz with q | q
          · exact HNo.out z q
          · rw [q]; exact h)
        have HTo := hid (show ∀ w, _ from fun w => rtoken_any (y.toNat : Int) w hy0 hy1)
        have HKi := hid (show ∀ w, _ from fun w => rvalue_any (y.toNat : Int) w hy0 hy1)
        obtain ⟨tk, htk⟩ : ∃ tk, tokB (y.toNat : Int) = tk := ⟨_, rfl⟩
        rw [htk] at HTo
        clear htk
        have HCl := hid (show clsB 2 y = valB (y.toNat : Int) from rfl)
        obtain ⟨b, hb⟩ : ∃ b, valB (y.toNat : Int) = b := ⟨_, rfl⟩
        rw [hb] at HKi HCl
        clear hb
        clear hy hi1
        cases b with
        | true =>
          have HNx := hid (HNy.out HCl.out)
          go_wp2_with (first | (go_at_call 91; (with_reducible refine (HTo.out _).mono ?_); rintro e w1 ⟨rfl, hw1⟩; subst w1) | (go_at_call 93; (with_reducible refine (HKi.out _).mono ?_); rintro e w1 ⟨rfl, hw1⟩; subst w1))
          go_roundg (n - (i + 1) + 1)
          case measure => omega
          case rel => exact ⟨i + 1, by omega, rfl, by push_cast; rfl, HNx.out, rfl⟩
        | false =>
          have HV := hid (HRy.out HCl.out)
          go_wp2_with (first | (go_at_call 91; (with_reducible refine (HTo.out _).mono ?_); rintro e w1 ⟨rfl, hw1⟩; subst w1) | (go_at_call 93; (with_reducible refine (HKi.out _).mono ?_); rintro e w1 ⟨rfl, hw1⟩; subst w1))
          go_ret
          exact ⟨by rw [HV.out]; rfl, rfl⟩
      · obtain rfl : n = i := by omega
        have HV := hid (HRt.out (by have h9 := HNo.out; rw [List.take_of_length_le (by rw [HN.out]; exact Nat.le_refl _)] at h9; exact h9))
        go_wp2
        go_ret
        exact ⟨by rw [HV.out]; rfl, rfl⟩
end Go.Proofs.YtfmkkkkdfkjdlaaDoor
