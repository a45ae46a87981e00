/- The program's targets. -/
import Derived.Test.YtbdbmlklijmefaaDoorPAbs
namespace Go.Proofs.YtbdbmlklijmefaaDoor
open Go.RowKit

theorem agg_some (t : TG) : ∃ tf c1 c2 c3 ths, tgV t = .agg #[.int .i64 tf, .string c1, .string c2, .string c3, .bool ths] := ⟨_, _, _, _, _, rfl⟩
theorem agg_zero : tgV TG.zero = .agg #[.int .i64 0, .string ⟨#[]⟩, .string ⟨#[]⟩, .string ⟨#[]⟩, .bool false] := rfl
theorem star_no {s : B} (h : s ≠ [42]) {S : ByteArray} (hS : str s = S) : (S.toList == (⟨#[42]⟩ : ByteArray).toList) = false := by
  rw [← hS]
  exact ne_list (str_ne (b := [42]) h)
set_option maxRecDepth 20000 in
set_option maxHeartbeats 8000000 in
theorem pparse_any (s : B) (hs : s.length ≤ 4294967279) (w : World) (hE : Env w) : Calls Tryd.prog 9 #[.string (str s)] w fun e w' => e = .returned (.tuple #[tgV (parseT s).1, errOf (parseT s).2]) ∧ Below w.heap.size w w' := by
  rw [← parse_is]
  have HT0 := hid (QW.start w)
  have HE := hid hE
  clear hE
  obtain ⟨_, _, _, _, _, nz⟩ := five (QW.start w).o
  have nz0 := nz 0
  have nz1 := nz 1
  have nz2 := nz 2
  have nz3 := nz 3
  have nz4 := nz 4
  clear nz
  obtain ⟨S, hS⟩ : ∃ S, str s = S := ⟨_, rfl⟩
  by_cases hlong : 65536 < s.length
  · have HV := hid (show parseP s = (TG.zero, 2) from by unfold parseP; rw [if_pos hlong])
    have hdec : decide ((65536 : Int) < (S.size : Int)) = true := by rw [← hS, str_size]; exact decide_eq_true (by omega)
    rw [hS, HV.out]
    clear hS hlong hs
    go_enter Tryd.func9, Tryd.ntmps9
    go_wp2
    (try simp only [Exit.inBlock, Exit.then])
    refine bodyPost_ret (results_ptg rfl _ _ _ 23 _ (0, 0) rfl (heap_alloc_new w _) rfl) rfl ?_
    exact ⟨rfl, below_new _ _⟩
  have hdec : decide ((65536 : Int) < (S.size : Int)) = false := by rw [← hS, str_size]; exact decide_eq_false (by omega)
  by_cases hst : s = [42]
  · have HV := hid (show parseP s = (⟨3, [], [], [], false⟩, 0) from by unfold parseP; rw [if_neg hlong, if_pos hst])
    rw [HV.out]
    have hSe : S = ⟨#[42]⟩ := by rw [← hS, hst]
    subst hSe
    rw [hS]
    clear hS hlong hs hst
    go_enter Tryd.func9, Tryd.ntmps9
    go_wp2
    (try simp only [Exit.inBlock, Exit.then])
    refine bodyPost_ret (results_ptg rfl _ _ _ 23 _ (0, 0) rfl (heap_alloc_new w _) rfl) rfl ?_
    exact ⟨rfl, below_new _ _⟩
  have hne := star_no hst hS
  have hne2 : (S.toList == [42]) = false := by
    rw [Lib.toList_data (⟨#[42]⟩ : ByteArray)] at hne
    exact hne
  have hSz : ¬ S = ⟨#[42]⟩ := by rw [← hS]; exact str_ne (b := [42]) hst
  have HPO := hid (porigin_any s (by omega))
  have HPA := hid (pabs_any s hs)
  have HV0 := hid (show parseP s = match originT s with | some t => (t, 0) | none => (match absoluteT s with | some t => (t, 0) | none => (TG.zero, 23)) from by unfold parseP; rw [if_neg hlong, if_neg hst]; cases originT s <;> cases absoluteT s <;> rfl)
  rw [hS] at HPO HPA ⊢
  clear hS hlong hs hst
  cases ho : originT s with
  | some t =>
    rw [ho] at HPO HV0
    have HV := hid (show parseP s = (t, 0) from HV0.out)
    rw [HV.out]
    dsimp only
    obtain ⟨tf, c1, c2, c3, ths, ha⟩ := agg_some t
    have HO2 := hid (show ∀ w, Env w → Calls Tryd.prog 28 #[.string S] w fun e w' => e = .returned (.tuple #[.agg #[.int .i64 tf, .string c1, .string c2, .string c3, .bool ths], .bool true]) ∧ Below w.heap.size w w' from by rw [← ha]; exact HPO.out)
    rw [ha]
    clear ha ho
    go_enter Tryd.func9, Tryd.ntmps9
    go_wp2_with (go_at_call 28; (with_reducible refine (HO2.out _ (HE.out.below HT0.out.low)).mono ?_); rintro e w4 ⟨rfl, hb⟩; have HT4 := hid (HT0.out.below hb); have HT5 := hid (HT4.out.next (.cells #[.int .i64 tf, .string c1, .string c2, .string c3, .bool ths] 23 (0, 0))); have HTn := hid (heap_alloc_new w4 (.cells #[.int .i64 tf, .string c1, .string c2, .string c3, .bool ths] 23 (0, 0))); obtain ⟨x0, x1, x2, x3, x4, xz⟩ := five HTn.out; obtain ⟨_, _, _, _, _, oz⟩ := five HT5.out.o; have oz0 := oz 0; have oz1 := oz 1; have oz2 := oz 2; have oz3 := oz 3; have oz4 := oz 4; clear oz; clear hb)
    (try simp only [Exit.inBlock, Exit.then])
    refine bodyPost_ret (results_ptg rfl _ _ _ 23 _ (0, 0) rfl (five_put (has_five HT5.out.o) _ _ _ _ _) rfl) rfl ?_
    exact ⟨rfl, HT5.out.out _ _ _ _ _⟩
  | none =>
    rw [ho] at HPO HV0
    have HO2 := hid (show ∀ w, Env w → Calls Tryd.prog 28 #[.string S] w fun e w' => e = .returned (.tuple #[.agg #[.int .i64 0, .string ⟨#[]⟩, .string ⟨#[]⟩, .string ⟨#[]⟩, .bool false], .bool false]) ∧ Below w.heap.size w w' from HPO.out)
    cases ha : absoluteT s with
    | some t =>
      rw [ha] at HPA HV0
      have HV := hid (show parseP s = (t, 0) from HV0.out)
      rw [HV.out]
      dsimp only
      obtain ⟨tf, c1, c2, c3, ths, he⟩ := agg_some t
      have HA2 := hid (show ∀ w, Env w → Calls Tryd.prog 29 #[.string S] w fun e w' => e = .returned (.tuple #[.agg #[.int .i64 tf, .string c1, .string c2, .string c3, .bool ths], .bool true]) ∧ Below w.heap.size w w' from by rw [← he]; exact HPA.out)
      rw [he]
      clear ha ho he
      go_enter Tryd.func9, Tryd.ntmps9
      go_wp2_with (first | (go_at_call 28; (with_reducible refine (HO2.out _ (HE.out.below HT0.out.low)).mono ?_); rintro e w4 ⟨rfl, hb⟩; have HT4 := hid (HT0.out.below hb); have HT5 := hid (HT4.out.next Z5); have HE5 := hid (HE.out.below HT5.out.low); clear hb) | (go_at_call 29; (with_reducible refine (HA2.out _ HE5.out).mono ?_); rintro e w6 ⟨rfl, hb⟩; have HT6 := hid (HT5.out.below hb); have HT7 := hid (HT6.out.next (.cells #[.int .i64 tf, .string c1, .string c2, .string c3, .bool ths] 23 (0, 0))); have HTn := hid (heap_alloc_new w6 (.cells #[.int .i64 tf, .string c1, .string c2, .string c3, .bool ths] 23 (0, 0))); obtain ⟨x0, x1, x2, x3, x4, xz⟩ := five HTn.out; obtain ⟨_, _, _, _, _, oz⟩ := five HT7.out.o; have oz0 := oz 0; have oz1 := oz 1; have oz2 := oz 2; have oz3 := oz 3; have oz4 := oz 4; clear oz; clear hb))
      (try simp only [Exit.inBlock, Exit.then])
      refine bodyPost_ret (results_ptg rfl _ _ _ 23 _ (0, 0) rfl (five_put (has_five HT7.out.o) _ _ _ _ _) rfl) rfl ?_
      exact ⟨rfl, HT7.out.out _ _ _ _ _⟩
    | none =>
      rw [ha] at HPA HV0
      have HV := hid (show parseP s = (TG.zero, 23) from HV0.out)
      rw [HV.out]
      have HA2 := hid (show ∀ w, Env w → Calls Tryd.prog 29 #[.string S] w fun e w' => e = .returned (.tuple #[.agg #[.int .i64 0, .string ⟨#[]⟩, .string ⟨#[]⟩, .string ⟨#[]⟩, .bool false], .bool false]) ∧ Below w.heap.size w w' from HPA.out)
      clear ha ho
      go_enter Tryd.func9, Tryd.ntmps9
      go_wp2_with (first | (go_at_call 28; (with_reducible refine (HO2.out _ (HE.out.below HT0.out.low)).mono ?_); rintro e w4 ⟨rfl, hb⟩; have HT4 := hid (HT0.out.below hb); have HT5 := hid (HT4.out.next Z5); have HE5 := hid (HE.out.below HT5.out.low); clear hb) | (go_at_call 29; (with_reducible refine (HA2.out _ HE5.out).mono ?_); rintro e w6 ⟨rfl, hb⟩; have HT6 := hid (HT5.out.below hb); have HT7 := hid (HT6.out.next Z5); obtain ⟨_, _, _, _, _, oz⟩ := five HT7.out.o; have oz0 := oz 0; have oz1 := oz 1; have oz2 := oz 2; have oz3 := oz 3; have oz4 := oz 4; clear oz; clear hb))
      (try simp only [Exit.inBlock, Exit.then])
      refine bodyPost_ret (results_ptg rfl _ _ _ 23 _ (0, 0) rfl (five_put (has_five HT7.out.o) _ _ _ _ _) rfl) rfl ?_
      exact ⟨rfl, HT7.out.out _ _ _ _ _⟩
end Go.Proofs.YtbdbmlklijmefaaDoor
