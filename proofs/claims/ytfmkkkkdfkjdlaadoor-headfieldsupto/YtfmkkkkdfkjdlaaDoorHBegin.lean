/- The document's lines of a head: versions, and the three kinds of lines, begun or whole. -/
import Derived.Test.YtfmkkkkdfkjdlaaDoorHLine
namespace Go.Proofs.YtfmkkkkdfkjdlaaDoor
open Go.RowKit

def ver0 : B := [72, 84, 84, 80, 47, 49, 46, 48]
def ver1 : B := [72, 84, 84, 80, 47, 49, 46, 49]
def beginsB (s : B) (whole : Bool) : Bool := if s.length > 8 ∨ (whole = true ∧ s.length ≠ 8) then false else (ver0.take s.length == s || ver1.take s.length == s)
theorem ver_ext0 (n : Nat) : ((ByteArray.mk #[72, 84, 84, 80, 47, 49, 46, 48]).extract 0 n).toList = ver0.take n := by
  rw [ByteArray.toList_eq]
  show ((str ver0).extract 0 n).data.toList = _
  rw [take_ext]
theorem ver_ext1 (n : Nat) : ((ByteArray.mk #[72, 84, 84, 80, 47, 49, 46, 49]).extract 0 n).toList = ver1.take n := by
  rw [ByteArray.toList_eq]
  show ((str ver1).extract 0 n).data.toList = _
  rw [take_ext]
theorem str_tl (s : B) : (str s).toList = s := by rw [ByteArray.toList_eq]
set_option maxRecDepth 20000 in
set_option maxHeartbeats 8000000 in
theorem begins_any (s : B) (wh : Bool) (hs : s.length ≤ 70368744177664) (w : World) : Calls Tryd.prog 86 #[.string (str s), .bool wh] w fun e w' => e = .returned (.bool (beginsB s wh)) ∧ w' = w := by
  obtain ⟨n, hn⟩ : ∃ n, s.length = n := ⟨_, rfl⟩
  have HN := hid hn
  obtain ⟨S, hS⟩ : ∃ S, str s = S := ⟨_, rfl⟩
  have hSn : S.size = n := by rw [← hS, str_size, hn]
  obtain ⟨R, hR⟩ : ∃ R, beginsB s wh = R := ⟨_, rfl⟩
  have HRf := hid (show n > 8 ∨ (wh = true ∧ n ≠ 8) → R = false from fun h => by rw [← hR]; unfold beginsB; rw [if_pos (by rw [hn]; exact h)])
  have HRt := hid (show ¬ (n > 8 ∨ (wh = true ∧ n ≠ 8)) → R = (ver0.take n == s || ver1.take n == s) from fun h => by rw [← hR]; unfold beginsB; rw [hn, if_neg h])
  have HSs := hid hS
  rw [hn] at hs
  rw [hS, hR]
  clear hn hS hR
  go_enter Tryd.func86, Tryd.ntmps86
  by_cases h8 : n > 8
  · have HV := hid (HRf.out (.inl h8))
    have h8' : (8 : Int) < (n : Int) := by omega
    go_wp2
    go_ret
    exact ⟨by rw [HV.out]; rfl, rfl⟩
  · have hle : n ≤ 8 := by omega
    have hle2 : (n : Int) ≤ 8 := by omega
    clear h8
    cases wh with
    | true =>
      by_cases h9 : n = 8
      · subst h9
        have HV := hid (HRt.out (by omega))
        have HA := hid (show ((ByteArray.mk #[72, 84, 84, 80, 47, 49, 46, 48]).extract 0 8).toList = ver0.take 8 from ver_ext0 8)
        have HC := hid (show ((ByteArray.mk #[72, 84, 84, 80, 47, 49, 46, 49]).extract 0 8).toList = ver1.take 8 from ver_ext1 8)
        have HT := hid (show S.toList = s from by rw [← HSs.out]; exact str_tl s)
        by_cases c0 : ver0.take 8 = s
        · have d0 : ((ByteArray.mk #[72, 84, 84, 80, 47, 49, 46, 48]).extract 0 8).toList = S.toList := by rw [HA.out, HT.out]; exact c0
          have HV2 := hid (show R = true from by rw [HV.out, c0]; simp)
          clear c0
          go_wp2
          go_ret
          exact ⟨by rw [HV2.out]; rfl, rfl⟩
        · have d0 : ¬ ((ByteArray.mk #[72, 84, 84, 80, 47, 49, 46, 48]).extract 0 8).toList = S.toList := by rw [HA.out, HT.out]; exact c0
          have d1 : (((ByteArray.mk #[72, 84, 84, 80, 47, 49, 46, 48]).extract 0 8).toList == S.toList) = false := by simpa using d0
          by_cases c1 : ver1.take 8 = s
          · have f0 : ((ByteArray.mk #[72, 84, 84, 80, 47, 49, 46, 49]).extract 0 8).toList = S.toList := by rw [HC.out, HT.out]; exact c1
            have HV2 := hid (show R = true from by rw [HV.out, c1]; simp)
            clear c0 c1
            go_wp2
            go_ret
            exact ⟨by rw [HV2.out]; rfl, rfl⟩
          · have f0 : ¬ ((ByteArray.mk #[72, 84, 84, 80, 47, 49, 46, 49]).extract 0 8).toList = S.toList := by rw [HC.out, HT.out]; exact c1
            have f1 : (((ByteArray.mk #[72, 84, 84, 80, 47, 49, 46, 49]).extract 0 8).toList == S.toList) = false := by simpa using f0
            have HV2 := hid (show R = false from by rw [HV.out]; simp [c0, c1])
            clear c0 c1
            go_wp2
            go_ret
            exact ⟨by rw [HV2.out]; rfl, rfl⟩
      · have HV := hid (HRf.out (.inr ⟨rfl, h9⟩))
        have z1 : ¬ (n : Int) = 8 := by omega
        have z2 : ((n : Int) != 8) = true := by simpa using z1
        go_wp2
        go_ret
        exact ⟨by rw [HV.out]; rfl, rfl⟩
    | false =>
      have HV := hid (HRt.out (by simp; omega))
      have HA := hid (show ((ByteArray.mk #[72, 84, 84, 80, 47, 49, 46, 48]).extract 0 n).toList = ver0.take n from ver_ext0 n)
      have HC := hid (show ((ByteArray.mk #[72, 84, 84, 80, 47, 49, 46, 49]).extract 0 n).toList = ver1.take n from ver_ext1 n)
      have HT := hid (show S.toList = s from by rw [← HSs.out]; exact str_tl s)
      by_cases c0 : ver0.take n = s
      · have d0 : ((ByteArray.mk #[72, 84, 84, 80, 47, 49, 46, 48]).extract 0 n).toList = S.toList := by rw [HA.out, HT.out]; exact c0
        have HV2 := hid (show R = true from by rw [HV.out, c0]; simp)
        clear c0
        go_wp2
        go_ret
        exact ⟨by rw [HV2.out]; rfl, rfl⟩
      · have d0 : ¬ ((ByteArray.mk #[72, 84, 84, 80, 47, 49, 46, 48]).extract 0 n).toList = S.toList := by rw [HA.out, HT.out]; exact c0
        have d1 : (((ByteArray.mk #[72, 84, 84, 80, 47, 49, 46, 48]).extract 0 n).toList == S.toList) = false := by simpa using d0
        by_cases c1 : ver1.take n = s
        · have f0 : ((ByteArray.mk #[72, 84, 84, 80, 47, 49, 46, 49]).extract 0 n).toList = S.toList := by rw [HC.out, HT.out]; exact c1
          have HV2 := hid (show R = true from by rw [HV.out, c1]; simp)
          clear c0 c1
          go_wp2
          go_ret
          exact ⟨by rw [HV2.out]; rfl, rfl⟩
        · have f0 : ¬ ((ByteArray.mk #[72, 84, 84, 80, 47, 49, 46, 49]).extract 0 n).toList = S.toList := by rw [HC.out, HT.out]; exact c1
          have f1 : (((ByteArray.mk #[72, 84, 84, 80, 47, 49, 46, 49]).extract 0 n).toList == S.toList) = false := by simpa using f0
          have HV2 := hid (show R = false from by rw [HV.out]; simp [c0, c1])
          clear c0 c1
          go_wp2
          go_ret
          exact ⟨by rw [HV2.out]; rfl, rfl⟩
theorem cutF_found {x : UInt8} {s : B} (h : (cutF x s).2.2 = true) : ∃ i : Nat, findV x s = (i : Int) ∧ i < s.length ∧ (cutF x s).1 = s.take i ∧ (cutF x s).2.1 = s.drop (i + 1) := by
  refine ⟨(cutF x s).1.length, by unfold findV; rw [if_pos h], ?_⟩
  obtain ⟨_, h2, _⟩ := cutF_spec x s
  rw [if_pos h] at h2
  have h3 := congrArg List.length h2
  simp only [List.length_append, List.length_cons] at h3
  obtain ⟨a, ha⟩ : ∃ a, (cutF x s).1 = a := ⟨_, rfl⟩
  obtain ⟨b, hb⟩ : ∃ b, (cutF x s).2.1 = b := ⟨_, rfl⟩
  rw [ha, hb] at h2 h3
  rw [ha, hb]
  refine ⟨by omega, ?_, ?_⟩
  · rw [h2]; simp
  · rw [h2, show a.length + 1 = a.length + 1 from rfl, List.drop_append]; simp
theorem cutF_not {x : UInt8} {s : B} (h : (cutF x s).2.2 = false) : findV x s = -1 := by
  unfold findV
  rw [if_neg (by rw [h]; simp)]
def fieldB (s : B) (whole : Bool) : Bool := if (cutF 58 s).2.2 then decide (0 < (cutF 58 s).1.length) && allB 0 (cutF 58 s).1 && allB 2 (cutF 58 s).2.1 else !whole && allB 0 s
set_option maxRecDepth 20000 in
set_option maxHeartbeats 8000000 in
theorem field_any (s : B) (wh : Bool) (hs : s.length ≤ 70368744177664) (w : World) : Calls Tryd.prog 76 #[.string (str s), .bool wh] w fun e w' => e = .returned (.bool (fieldB s wh)) ∧ w' = w := by
  obtain ⟨n, hn⟩ : ∃ n, s.length = n := ⟨_, rfl⟩
  have HN := hid hn
  have HEx := hid (ext_str s)
  obtain ⟨S, hS⟩ : ∃ S, str s = S := ⟨_, rfl⟩
  have hSn : S.size = n := by rw [← hS, str_size, hn]
  obtain ⟨R, hR⟩ : ∃ R, fieldB s wh = R := ⟨_, rfl⟩
  have HR := hid hR
  have HFi := hid (find_any s 58 hs)
  have HA0 := hid (fun (t : B) (ht : t.length ≤ 70368744177664) => all_any0 t ht)
  have HA2 := hid (fun (t : B) (ht : t.length ≤ 70368744177664) => all_any2 t ht)
  have HAs := hid (all_any0 s hs)
  rw [hS] at HFi HEx HAs
  have HSs := hid hS
  rw [hn] at hs
  rw [hS, hR]
  clear hn hS hR
  obtain ⟨fd, hfd⟩ : ∃ fd, (cutF 58 s).2.2 = fd := ⟨_, rfl⟩
  cases fd with
  | false =>
    have hv := cutF_not hfd
    rw [hv] at HFi
    obtain ⟨b, hb⟩ : ∃ b, allB 0 s = b := ⟨_, rfl⟩
    rw [hb] at HAs
    have HV := hid (show R = (!wh && b) from by rw [← HR.out]; unfold fieldB; rw [hfd, hb]; rfl)
    clear hv hfd hb
    rw [show byteV 58 = .int .u8 58 from rfl] at HFi
    go_enter Tryd.func76, Tryd.ntmps76
    cases wh with
    | true =>
      go_wp2_with (go_at_call 32; (with_reducible refine (HFi.out _).mono ?_); rintro e w1 ⟨rfl, hw1⟩; subst w1)
      go_ret
      exact ⟨by rw [HV.out]; rfl, rfl⟩
    | false =>
      go_wp2_with (first | (go_at_call 32; (with_reducible refine (HFi.out _).mono ?_); rintro e w1 ⟨rfl, hw1⟩; subst w1) | (go_at_call 85; (with_reducible refine (HAs.out _).mono ?_); rintro e w1 ⟨rfl, hw1⟩; subst w1))
      go_ret
      exact ⟨by rw [HV.out]; rfl, rfl⟩
  | true =>
    obtain ⟨i, hv, hi, ea, eb⟩ := cutF_found hfd
    rw [hv] at HFi
    rw [HN.out] at hi
    have hx1 : S.extract 0 i = str (s.take i) := by rw [HEx.out]; simp
    have hx2 : S.extract (i + 1) n = str (s.drop (i + 1)) := by
      rw [HEx.out]
      congr 2
      exact List.take_of_length_le (by rw [List.length_drop, HN.out]; exact Nat.le_refl _)
    have HA0t := hid (HA0.out (s.take i) (by rw [List.length_take]; omega))
    have HA2t := hid (HA2.out (s.drop (i + 1)) (by rw [List.length_drop, HN.out]; omega))
    obtain ⟨b0, hb0⟩ : ∃ b, allB 0 (s.take i) = b := ⟨_, rfl⟩
    obtain ⟨b2, hb2⟩ : ∃ b, allB 2 (s.drop (i + 1)) = b := ⟨_, rfl⟩
    rw [hb0] at HA0t
    rw [hb2] at HA2t
    have HV := hid (show R = (decide (0 < i) && b0 && b2) from by
      rw [← HR.out]; unfold fieldB; rw [hfd, if_pos rfl, ea, eb, hb0, hb2, List.length_take, HN.out, Nat.min_eq_left (by omega)])
    have hw1 : IntKind.i64.wrap ((i : Int) + 1) = (i : Int) + 1 := by rw [IntKind.wrap_i64]; omega
    clear hv hfd hb0 hb2 ea eb
    rw [show byteV 58 = .int .u8 58 from rfl] at HFi
    go_enter Tryd.func76, Tryd.ntmps76
    by_cases h0 : i = 0
    · subst h0
      go_wp2_with (go_at_call 32; (with_reducible refine (HFi.out _).mono ?_); rintro e w1 ⟨rfl, hw1⟩; subst w1)
      go_ret
      exact ⟨by rw [HV.out]; rfl, rfl⟩
    · have h02 : (0 : Int) < (i : Int) := by omega
      have HV2 := hid (show R = (b0 && b2) from by rw [HV.out, decide_eq_true (by omega)]; simp)
      cases b0 with
      | false =>
        go_wp2_with (first | (go_at_call 32; (with_reducible refine (HFi.out _).mono ?_); rintro e w1 ⟨rfl, hw1⟩; subst w1) | (go_at_call 85; (try rw [hx1]); (with_reducible refine (HA0t.out _).mono ?_); rintro e w1 ⟨rfl, hw1⟩; subst w1))
        go_ret
        exact ⟨by rw [HV2.out]; rfl, rfl⟩
      | true =>
        go_wp2_with (first | (go_at_call 32; (with_reducible refine (HFi.out _).mono ?_); rintro e w1 ⟨rfl, hw1⟩; subst w1) | (go_at_call 85; (try rw [hx1]); (with_reducible refine (HA0t.out _).mono ?_); rintro e w1 ⟨rfl, hw1⟩; subst w1) | (go_at_call 85; (try rw [hx2]); (with_reducible refine (HA2t.out _).mono ?_); rintro e w1 ⟨rfl, hw1⟩; subst w1))
        go_ret
        exact ⟨by rw [HV2.out]; rfl, rfl⟩
def restB (t : B) (whole : Bool) : Bool := if (cutF 32 t).2.2 then decide (0 < (cutF 32 t).1.length) && allB 1 (cutF 32 t).1 && beginsB (cutF 32 t).2.1 whole else !whole && allB 1 t
def requestB (s : B) (whole : Bool) : Bool := if (cutF 32 s).2.2 then decide (0 < (cutF 32 s).1.length) && allB 0 (cutF 32 s).1 && restB (cutF 32 s).2.1 whole else !whole && allB 0 s
set_option maxRecDepth 20000 in
set_option maxHeartbeats 8000000 in
theorem request_any (s : B) (wh : Bool) (hs : s.length ≤ 70368744177664) (w : World) : Calls Tryd.prog 78 #[.string (str s), .bool wh] w fun e w' => e = .returned (.bool (requestB s wh)) ∧ w' = w := by
  obtain ⟨n, hn⟩ : ∃ n, s.length = n := ⟨_, rfl⟩
  have HN := hid hn
  have HEx := hid (ext_str s)
  obtain ⟨S, hS⟩ : ∃ S, str s = S := ⟨_, rfl⟩
  have hSn : S.size = n := by rw [← hS, str_size, hn]
  obtain ⟨R, hR⟩ : ∃ R, requestB s wh = R := ⟨_, rfl⟩
  have HR := hid hR
  have HFs := hid (fun (t : B) (ht : t.length ≤ 70368744177664) => find_any t 32 ht)
  have HA0 := hid (fun (t : B) (ht : t.length ≤ 70368744177664) => all_any0 t ht)
  have HA1 := hid (fun (t : B) (ht : t.length ≤ 70368744177664) => all_any1 t ht)
  have HBe := hid (fun (t : B) (ht : t.length ≤ 70368744177664) => begins_any t wh ht)
  rw [show byteV 32 = .int .u8 32 from rfl] at HFs
  have HFi := hid (HFs.out s hs)
  have HAs := hid (HA0.out s hs)
  rw [hS] at HFi HEx HAs
  have HSs := hid hS
  rw [hn] at hs
  rw [hS, hR]
  clear hn hS hR
  obtain ⟨fd, hfd⟩ : ∃ fd, (cutF 32 s).2.2 = fd := ⟨_, rfl⟩
  cases fd with
  | false =>
    have hv := cutF_not hfd
    rw [hv] at HFi
    obtain ⟨b, hb⟩ : ∃ b, allB 0 s = b := ⟨_, rfl⟩
    rw [hb] at HAs
    have HV := hid (show R = (!wh && b) from by rw [← HR.out]; unfold requestB; rw [hfd, hb]; rfl)
    clear hv hfd hb
    go_enter Tryd.func78, Tryd.ntmps78
    cases wh with
    | true =>
      go_wp2_with (first | (go_at_call 32; (with_reducible refine (HFi.out _).mono ?_); rintro e w1 ⟨rfl, hw1⟩; subst w1))
      go_ret
      exact ⟨by rw [HV.out]; rfl, rfl⟩
    | false =>
      go_wp2_with (first | (go_at_call 32; (with_reducible refine (HFi.out _).mono ?_); rintro e w1 ⟨rfl, hw1⟩; subst w1) | (go_at_call 85; (with_reducible refine (HAs.out _).mono ?_); rintro e w1 ⟨rfl, hw1⟩; subst w1))
      go_ret
      exact ⟨by rw [HV.out]; rfl, rfl⟩
  | true =>
    obtain ⟨i, hv, hi, ea, eb⟩ := cutF_found hfd
    rw [hv] at HFi
    rw [HN.out] at hi
    have hx1 : S.extract 0 i = str (s.take i) := by rw [HEx.out]; simp
    have hx2 : S.extract (i + 1) n = str (s.drop (i + 1)) := by
      rw [HEx.out]
      congr 2
      exact List.take_of_length_le (by rw [List.length_drop, HN.out]; exact Nat.le_refl _)
    have HA0t := hid (HA0.out (s.take i) (by rw [List.length_take]; omega))
    obtain ⟨b0, hb0⟩ : ∃ b, allB 0 (s.take i) = b := ⟨_, rfl⟩
    rw [hb0, ← hx1] at HA0t
    obtain ⟨t, ht⟩ : ∃ t, s.drop (i + 1) = t := ⟨_, rfl⟩
    obtain ⟨m, hm⟩ : ∃ m, t.length = m := ⟨_, rfl⟩
    have hmn : m ≤ 70368744177664 := by rw [← hm, ← ht, List.length_drop, HN.out]; omega
    have HEt := hid (ext_str t)
    rw [ht] at hx2
    obtain ⟨T, hT⟩ : ∃ T, str t = T := ⟨_, rfl⟩
    have hTm : T.size = m := by rw [← hT, str_size, hm]
    have HM := hid hm
    have HFt := hid (HFs.out t (by rw [hm]; exact hmn))
    have HAt := hid (HA1.out t (by rw [hm]; exact hmn))
    rw [hT] at HEt hx2 HFt HAt
    clear hm hT
    have HV := hid (show R = (decide (0 < i) && b0 && restB t wh) from by
      rw [← HR.out]; unfold requestB; rw [hfd, if_pos rfl, ea, eb, hb0, ht, List.length_take, HN.out, Nat.min_eq_left (by omega)])
    have hw1 : IntKind.i64.wrap ((i : Int) + 1) = (i : Int) + 1 := by rw [IntKind.wrap_i64]; omega
    clear hv hfd hb0 ea eb hx1
    go_enter Tryd.func78, Tryd.ntmps78
    by_cases h0 : i = 0
    · subst h0
      have HV2 := hid (show R = false from by rw [HV.out]; simp)
      go_wp2_with (first | (go_at_call 32; (with_reducible refine (HFi.out _).mono ?_); rintro e w1 ⟨rfl, hw1⟩; subst w1))
      go_ret
      exact ⟨by rw [HV2.out]; rfl, rfl⟩
    · have h02 : (0 : Int) < (i : Int) := by omega
      have h03 : ¬ (i : Int) = 0 := by omega
      have h04 : ((i : Int) == 0) = false := by simpa using h0
      have HV1 := hid (show R = (b0 && restB t wh) from by rw [HV.out, decide_eq_true (by omega)]; simp)
      cases b0 with
      | false =>
        have HV2 := hid (show R = false from by rw [HV1.out]; simp)
        go_wp2_with (first | (go_at_call 32; (with_reducible refine (HFi.out _).mono ?_); rintro e w1 ⟨rfl, hw1⟩; subst w1) | (go_at_call 85; (with_reducible refine (HA0t.out _).mono ?_); rintro e w1 ⟨rfl, hw1⟩; subst w1))
        go_ret
        exact ⟨by rw [HV2.out]; rfl, rfl⟩
      | true =>
        obtain ⟨fe, hfe⟩ : ∃ fe, (cutF 32 t).2.2 = fe := ⟨_, rfl⟩
        cases fe with
        | false =>
          have hv := cutF_not hfe
          rw [hv] at HFt
          obtain ⟨b, hb⟩ : ∃ b, allB 1 t = b := ⟨_, rfl⟩
          rw [hb] at HAt
          have HV2 := hid (show R = (!wh && b) from by rw [HV1.out]; unfold restB; rw [hfe, hb]; rfl)
          clear hv hfe hb
          cases wh with
          | true =>
            go_wp2_with (first | (go_at_call 32; (with_reducible refine (HFi.out _).mono ?_); rintro e w1 ⟨rfl, hw1⟩; subst w1) | (go_at_call 85; (with_reducible refine (HA0t.out _).mono ?_); rintro e w1 ⟨rfl, hw1⟩; subst w1) | (go_at_call 32; (with_reducible refine (HFt.out _).mono ?_); rintro e w1 ⟨rfl, hw1⟩; subst w1))
            go_ret
            exact ⟨by rw [HV2.out]; rfl, rfl⟩
          | false =>
            go_wp2_with (first | (go_at_call 32; (with_reducible refine (HFi.out _).mono ?_); rintro e w1 ⟨rfl, hw1⟩; subst w1) | (go_at_call 85; (with_reducible refine (HA0t.out _).mono ?_); rintro e w1 ⟨rfl, hw1⟩; subst w1) | (go_at_call 32; (with_reducible refine (HFt.out _).mono ?_); rintro e w1 ⟨rfl, hw1⟩; subst w1) | (go_at_call 85; (with_reducible refine (HAt.out _).mono ?_); rintro e w1 ⟨rfl, hw1⟩; subst w1))
            go_ret
            exact ⟨by rw [HV2.out]; rfl, rfl⟩
        | true =>
          obtain ⟨k, hv, hk, ec, ed⟩ := cutF_found hfe
          rw [hv] at HFt
          rw [HM.out] at hk
          have hy1 : T.extract 0 k = str (t.take k) := by rw [HEt.out]; simp
          have hy2 : T.extract (k + 1) m = str (t.drop (k + 1)) := by
            rw [HEt.out]
            congr 2
            exact List.take_of_length_le (by rw [List.length_drop, HM.out]; exact Nat.le_refl _)
          have HA1t := hid (HA1.out (t.take k) (by rw [List.length_take]; omega))
          have HBt := hid (HBe.out (t.drop (k + 1)) (by rw [List.length_drop, HM.out]; omega))
          obtain ⟨b1, hb1⟩ : ∃ b, allB 1 (t.take k) = b := ⟨_, rfl⟩
          obtain ⟨b2, hb2⟩ : ∃ b, beginsB (t.drop (k + 1)) wh = b := ⟨_, rfl⟩
          rw [hb1, ← hy1] at HA1t
          rw [hb2, ← hy2] at HBt
          have HV3 := hid (show R = (decide (0 < k) && b1 && b2) from by
            rw [HV1.out]; unfold restB; rw [hfe, if_pos rfl, ec, ed, hb1, hb2, List.length_take, HM.out, Nat.min_eq_left (by omega), Bool.true_and])
          have hw2 : IntKind.i64.wrap ((k : Int) + 1) = (k : Int) + 1 := by rw [IntKind.wrap_i64]; omega
          clear hv hfe hb1 hb2 ec ed hy1 hy2
          by_cases h1 : k = 0
          · subst h1
            have HV2 := hid (show R = false from by rw [HV3.out]; simp)
            go_wp2_with (first | (go_at_call 32; (with_reducible refine (HFi.out _).mono ?_); rintro e w1 ⟨rfl, hw1⟩; subst w1) | (go_at_call 85; (with_reducible refine (HA0t.out _).mono ?_); rintro e w1 ⟨rfl, hw1⟩; subst w1) | (go_at_call 32; (with_reducible refine (HFt.out _).mono ?_); rintro e w1 ⟨rfl, hw1⟩; subst w1))
            go_ret
            exact ⟨by rw [HV2.out]; rfl, rfl⟩
          · have h12 : (0 : Int) < (k : Int) := by omega
            have HV2 := hid (show R = (b1 && b2) from by rw [HV3.out, decide_eq_true (by omega)]; simp)
            cases b1 with
            | false =>
              go_wp2_with (first | (go_at_call 32; (with_reducible refine (HFi.out _).mono ?_); rintro e w1 ⟨rfl, hw1⟩; subst w1) | (go_at_call 85; (with_reducible refine (HA0t.out _).mono ?_); rintro e w1 ⟨rfl, hw1⟩; subst w1) | (go_at_call 32; (with_reducible refine (HFt.out _).mono ?_); rintro e w1 ⟨rfl, hw1⟩; subst w1) | (go_at_call 85; (with_reducible refine (HA1t.out _).mono ?_); rintro e w1 ⟨rfl, hw1⟩; subst w1))
              go_ret
              exact ⟨by rw [HV2.out]; rfl, rfl⟩
            | true =>
              go_wp2_with (first | (go_at_call 32; (with_reducible refine (HFi.out _).mono ?_); rintro e w1 ⟨rfl, hw1⟩; subst w1) | (go_at_call 85; (with_reducible refine (HA0t.out _).mono ?_); rintro e w1 ⟨rfl, hw1⟩; subst w1) | (go_at_call 32; (with_reducible refine (HFt.out _).mono ?_); rintro e w1 ⟨rfl, hw1⟩; subst w1) | (go_at_call 85; (with_reducible refine (HA1t.out _).mono ?_); rintro e w1 ⟨rfl, hw1⟩; subst w1) | (go_at_call 86; (with_reducible refine (HBt.out _).mono ?_); rintro e w1 ⟨rfl, hw1⟩; subst w1))
              go_ret
              exact ⟨by rw [HV2.out]; rfl, rfl⟩
end Go.Proofs.YtfmkkkkdfkjdlaaDoor
