/- The document's own: classes of texts, fields that may be written. -/
import Derived.Test.YtpcfcpeokkbfmaaDoorWRowM
namespace Go.Proofs.YtpcfcpeokkbfmaaDoor
open Go.RowKit

theorem rblank10_any (c : Int) (w : World) : Calls Tryd.prog 64 #[.int .u8 c] w fun e w' => e = .returned (.bool (blankB c)) ∧ w' = w := by
  by_cases h0 : c = 32
  · subst h0
    go_enter Tryd.func64, Tryd.ntmps64
    go_wp2
    go_ret
    exact ⟨rfl, rfl⟩
  by_cases h1 : c = 9
  · subst h1
    go_enter Tryd.func64, Tryd.ntmps64
    go_wp2
    go_ret
    exact ⟨rfl, rfl⟩
  · have HV := hid (show blankB c = false from by unfold blankB; rw [decide_eq_false]; simp [h0, h1])
    have e0 : (c == 32) = false := by simpa using h0
    have e1 : (c == 9) = false := by simpa using h1
    go_enter Tryd.func64, Tryd.ntmps64
    go_wp2
    go_ret
    exact ⟨ret_bool HV.out.symm, rfl⟩
set_option maxRecDepth 20000 in
set_option maxHeartbeats 8000000 in
theorem rvis10_any (s : B) (hs : s.length ≤ 70368744177664) (w : World) : Calls Tryd.prog 36 #[.string (str s)] w fun e w' => e = .returned (.bool (tarB s)) ∧ w' = w := by
  obtain ⟨n, hn⟩ : ∃ n, s.length = n := ⟨_, rfl⟩
  have HN := hid hn
  obtain ⟨S, hS⟩ : ∃ S, str s = S := ⟨_, rfl⟩
  have hSn : S.size = n := by rw [← hS, str_size, hn]
  have HByte := hid (show ∀ (k : Nat) (h : k < s.length) (h2 : k < S.size), S[k]'h2 = s[k]'h from fun k h h2 => by subst hS; rfl)
  have HEm := hid (show n ≠ 0 → S.toList.isEmpty = false from fun h => by
    rw [← hS]
    exact (str_empty (fun e => h (by rw [← hn, e]; rfl))).2)
  have HE0 := hid (show n = 0 → S = ⟨#[]⟩ from fun h => by
    rw [← hS, show s = [] from List.eq_nil_of_length_eq_zero (by omega)])
  obtain ⟨R, hR⟩ : ∃ R, tarB s = R := ⟨_, rfl⟩
  have HRf := hid (show ∀ y ∈ s, clsB 1 y = false → R = false from fun y hy h => by
    rw [← hR]
    unfold tarB allB
    rw [List.all_eq_false.2 ⟨y, hy, by rw [h]; simp⟩]; simp)
  have HRt := hid (show (∀ y ∈ s, clsB 1 y = true) → R = decide (n ≠ 0) from fun h => by rw [← hR]; unfold tarB allB; rw [List.all_eq_true.2 h]; rw [Bool.and_true]; simp [← hn])
  rw [hn] at hs
  rw [hS, hR]
  clear hn hS hR
  go_enter Tryd.func36, Tryd.ntmps36
  go_wp2
  go_loopg [3] (n + 1) (fun gk s3 wr => ∃ i : Nat, i ≤ n ∧ gk = n - i + 1 ∧ s3 = .int .i64 (i : Int) ∧ (∀ y ∈ s.take i, clsB 1 y = true) ∧ wr = w)
  case atStart => exact ⟨0, by omega, rfl, rfl, fun y hy => by simp at hy, rfl⟩
  case round =>
      obtain ⟨i, hi, rfl, rfl, hno, rfl⟩ := hrel
      have HNo := hid hno
      clear hno
      by_cases hin : i < n
      · have hi1 : i < s.length := by rw [HN.out]; exact hin
        obtain ⟨y, hy⟩ : ∃ y, s[i] = y := ⟨_, rfl⟩
        have hbyte : ∀ h : i < S.size, (S[i]'h).toNat = y.toNat := fun h => by rw [HByte.out i hi1 h, hy]
        have HI := hid (show s[i]? = some y from by rw [List.getElem?_eq_getElem hi1, hy])
        have HMe := hid (show y ∈ s from by rw [← hy]; exact List.getElem_mem hi1)
        have HT := hid (show ∀ z ∈ s.take (i + 1), z ∈ s.take i ∨ z = y from fun z hz => by
          rw [List.take_add_one, HI.out] at hz
          rcases List.mem_append.1 hz with h | h
          · exact .inl h
          · exact .inr (by simpa using h))
        have HRy := hid (HRf.out y HMe.out)
        have HNy := hid (show clsB 1 y = true → ∀ z ∈ s.take (i + 1), clsB 1 z = true from fun h z hz => by
          rcases HT.out z hz with q | q
          · exact HNo.out z q
          · rw [q]; exact h)
        have HCl := hid (show clsB 1 y = visB (y.toNat : Int) from rfl)
        have hy255 : y.toNat ≤ 255 := by have := y.toNat_lt; omega
        obtain ⟨N, hN⟩ : ∃ N, y.toNat = N := ⟨_, rfl⟩
        rw [hN] at HCl hbyte hy255
        clear hy hi1 hN
        by_cases hA : N < 33
        · have HV := hid (HRy.out (by rw [HCl.out]; exact decide_eq_false (by omega)))
          go_wp2
          go_ret
          exact ⟨by rw [HV.out]; rfl, rfl⟩
        by_cases hB : 126 < N
        · have HV := hid (HRy.out (by rw [HCl.out]; exact decide_eq_false (by omega)))
          go_wp2
          go_ret
          exact ⟨by rw [HV.out]; rfl, rfl⟩
        have HX := hid (HNy.out (by rw [HCl.out]; exact decide_eq_true (by omega)))
        go_wp2
        go_roundg (n - (i + 1) + 1)
        case measure => omega
        case rel => exact ⟨i + 1, by omega, rfl, by push_cast; rfl, HX.out, rfl⟩
      · obtain rfl : n = i := by omega
        have HV := hid (HRt.out (by have h9 := HNo.out; rw [List.take_of_length_le (by rw [HN.out]; exact Nat.le_refl _)] at h9; exact h9))
        by_cases h0 : n = 0
        · obtain rfl := HE0.out h0
          subst h0
          go_wp2
          go_ret
          exact ⟨by rw [HV.out]; rfl, rfl⟩
        · have hem := HEm.out h0
          rw [decide_eq_true (by omega)] at HV
          go_wp2
          go_ret
          exact ⟨by rw [HV.out]; rfl, rfl⟩
set_option maxRecDepth 20000 in
set_option maxHeartbeats 8000000 in
theorem words_any (s : B) (hs : s.length ≤ 70368744177664) (w : World) : Calls Tryd.prog 42 #[.string (str s)] w fun e w' => e = .returned (.bool (allB 2 s)) ∧ w' = w := by
  obtain ⟨n, hn⟩ : ∃ n, s.length = n := ⟨_, rfl⟩
  have HN := hid hn
  obtain ⟨S, hS⟩ : ∃ S, str s = S := ⟨_, rfl⟩
  have hSn : S.size = n := by rw [← hS, str_size, hn]
  have HByte := hid (show ∀ (k : Nat) (h : k < s.length) (h2 : k < S.size), S[k]'h2 = s[k]'h from fun k h h2 => by subst hS; rfl)
  have HEm := hid (show n ≠ 0 → S.toList.isEmpty = false from fun h => by
    rw [← hS]
    exact (str_empty (fun e => h (by rw [← hn, e]; rfl))).2)
  have HE0 := hid (show n = 0 → S = ⟨#[]⟩ from fun h => by
    rw [← hS, show s = [] from List.eq_nil_of_length_eq_zero (by omega)])
  obtain ⟨R, hR⟩ : ∃ R, allB 2 s = R := ⟨_, rfl⟩
  have HRf := hid (show ∀ y ∈ s, clsB 2 y = false → R = false from fun y hy h => by
    rw [← hR]
    unfold allB
    rw [List.all_eq_false.2 ⟨y, hy, by rw [h]; simp⟩])
  have HRt := hid (show (∀ y ∈ s, clsB 2 y = true) → R = true from fun h => by rw [← hR]; unfold allB; rw [List.all_eq_true.2 h])
  rw [hn] at hs
  rw [hS, hR]
  clear hn hS hR
  go_enter Tryd.func42, Tryd.ntmps42
  go_wp2
  go_loopg [3] (n + 1) (fun gk s3 wr => ∃ i : Nat, i ≤ n ∧ gk = n - i + 1 ∧ s3 = .int .i64 (i : Int) ∧ (∀ y ∈ s.take i, clsB 2 y = true) ∧ wr = w)
  case atStart => exact ⟨0, by omega, rfl, rfl, fun y hy => by simp at hy, rfl⟩
  case round =>
      obtain ⟨i, hi, rfl, rfl, hno, rfl⟩ := hrel
      have HNo := hid hno
      clear hno
      by_cases hin : i < n
      · have hi1 : i < s.length := by rw [HN.out]; exact hin
        obtain ⟨y, hy⟩ : ∃ y, s[i] = y := ⟨_, rfl⟩
        have hbyte : ∀ h : i < S.size, (S[i]'h).toNat = y.toNat := fun h => by rw [HByte.out i hi1 h, hy]
        have HI := hid (show s[i]? = some y from by rw [List.getElem?_eq_getElem hi1, hy])
        have HMe := hid (show y ∈ s from by rw [← hy]; exact List.getElem_mem hi1)
        have HT := hid (show ∀ z ∈ s.take (i + 1), z ∈ s.take i ∨ z = y from fun z hz => by
          rw [List.take_add_one, HI.out] at hz
          rcases List.mem_append.1 hz with h | h
          · exact .inl h
          · exact .inr (by simpa using h))
        have HRy := hid (HRf.out y HMe.out)
        have HNy := hid (show clsB 2 y = true → ∀ z ∈ s.take (i + 1), clsB 2 z = true from fun h z hz => by
          rcases HT.out z hz with q | q
          · exact HNo.out z q
          · rw [q]; exact h)
        have HCl := hid (show clsB 2 y = valB (y.toNat : Int) from rfl)
        have hy255 : y.toNat ≤ 255 := by have := y.toNat_lt; omega
        obtain ⟨N, hN⟩ : ∃ N, y.toNat = N := ⟨_, rfl⟩
        rw [hN] at HCl hbyte hy255
        clear hy hi1 hN
        by_cases hA : N = 9
        · have HX := hid (HNy.out (by rw [HCl.out]; exact decide_eq_true (by omega)))
          go_wp2
          go_roundg (n - (i + 1) + 1)
          case measure => omega
          case rel => exact ⟨i + 1, by omega, rfl, by push_cast; rfl, HX.out, rfl⟩
        have hq9 : ((N : Int) != 9) = true := by simp; omega
        by_cases hB : N < 32
        · have HV := hid (HRy.out (by rw [HCl.out]; exact decide_eq_false (by omega)))
          go_wp2
          go_ret
          exact ⟨by rw [HV.out]; rfl, rfl⟩
        by_cases hC : N ≤ 126
        · have HX := hid (HNy.out (by rw [HCl.out]; exact decide_eq_true (by omega)))
          go_wp2
          go_roundg (n - (i + 1) + 1)
          case measure => omega
          case rel => exact ⟨i + 1, by omega, rfl, by push_cast; rfl, HX.out, rfl⟩
        by_cases hD : N < 128
        · have HV := hid (HRy.out (by rw [HCl.out]; exact decide_eq_false (by omega)))
          go_wp2
          go_ret
          exact ⟨by rw [HV.out]; rfl, rfl⟩
        have HX := hid (HNy.out (by rw [HCl.out]; exact decide_eq_true (by omega)))
        go_wp2
        go_roundg (n - (i + 1) + 1)
        case measure => omega
        case rel => exact ⟨i + 1, by omega, rfl, by push_cast; rfl, HX.out, rfl⟩
      · obtain rfl : n = i := by omega
        have HV := hid (HRt.out (by have h9 := HNo.out; rw [List.take_of_length_le (by rw [HN.out]; exact Nat.le_refl _)] at h9; exact h9))
        go_wp2
        go_ret
        exact ⟨by rw [HV.out]; rfl, rfl⟩
end Go.Proofs.YtpcfcpeokkbfmaaDoor
