/- Parse. -/
import Derived.Test.YtkoeihliaandeaaGreatDoorWhole
namespace Go.Proofs.YtkoeihliaandeaaGreatDoor
open Go.RowKit

theorem whole_err {l u : B} {k : Nat} (h : whole l = .err k u) : k ≠ 0 := by
  unfold whole at h
  split at h
  · rename_i k2 v hk
    simp only [Res.err.injEq] at h
    rw [← h.1]
    exact val_err 32 _ _ _ hk
  · split at h
    · cases h
    · simp only [Res.err.injEq] at h
      omega
theorem Rd2.other {U Wf : World} {b r : Nat} {s : ByteArray} {p : Nat} (h : Rd2 U b s p) (hb : b ≠ r) (ho : Out7 U Wf r) : Rd2 Wf b s p := by
  have e : Wf.heap[b]? = U.heap[b]? := ho.other b hb
  exact ⟨by rw [World.cell?_of_block (w := U) (by exact e)]; exact h.1, by rw [World.cell?_of_block (w := U) (by exact e)]; exact h.2⟩
theorem start_rd {w W : World} {s : ByteArray} {o1 : Obj} (hs : s.size ≤ 1048576) (hW : W = (w.alloc o1).alloc (.cells #[.string s, .int .i64 0, .int .i64 0] 45 (0, 0))) : Rd W (w.heap.size + 1) s s.data.toList 0 ∧ W.heap[w.heap.size]? = some o1 ∧ Below w.heap.size w W ∧ W.heap.size = w.heap.size + 1 + 1 := by
  obtain ⟨a1, a2, a3⟩ := grow w o1
  obtain ⟨b1, b2, b3⟩ := grow (w.alloc o1) (.cells #[.string s, .int .i64 0, .int .i64 0] 45 (0, 0))
  rw [← hW] at b1 b2 b3
  refine ⟨⟨⟨0, Nat.zero_le _, rfl, by rw [← a2]; exact b3⟩, by omega⟩, by rw [b1.block _ (by omega), a3], a1.trans (b1.mono (by omega)), by omega⟩
theorem parse_long {l : B} (h : 1048576 < l.length) : parse l = (.zero, 0, 2) := by unfold parse; rw [if_pos h]
theorem parse_ok {l : B} (h : l.length ≤ 1048576) {t : JV} {u : B} (e : whole l = .ok t u) : parse l = (t, l.length, 0) := by unfold parse; rw [if_neg (by omega), e]
theorem parse_err {l : B} (h : l.length ≤ 1048576) {k : Nat} {u : B} (e : whole l = .err k u) : parse l = (.zero, l.length - u.length, k) := by unfold parse; rw [if_neg (by omega), e]
/-- The end of Parse: a value in the cell of the result. -/
theorem parse_end {w W w2 w3 Wf : World} {b : Nat} {x : JV} {cs : List Value} (hW : Below w.heap.size w W) (hb : b = w.heap.size + 1) (hWs : W.heap.size = w.heap.size + 1 + 1) (ht : Turn b W w2) (h3 : Below w2.heap.size w2 w3) (hv : ValIs w2 (fun k => W.heap.size ≤ k ∧ k < w2.heap.size) x cs) (ho : Out7 w3 Wf w.heap.size) :
    ValIs Wf (fun k => w.heap.size ≤ k ∧ k < Wf.heap.size) x cs ∧ Below w.heap.size w Wf := by
  have a := ht.size
  have c := h3.size
  refine ⟨ValIs.keep (fun j hj => (ho.other j (by omega)).trans (h3.block j hj.2)) (fun j hj => ⟨by omega, by rw [ho.size]; omega⟩) _ _ hv, ?_⟩
  have hB : Below w.heap.size w w3 := (hW.trans (ht.below (by omega) (by omega))).trans (h3.mono (by omega))
  exact ⟨ho.os.trans hB.os, ho.tape.trans hB.tape, ho.output.trans hB.output, by rw [ho.size]; exact hB.size, fun k hk => (ho.other k (by omega)).trans (hB.block k hk)⟩
set_option maxRecDepth 20000 in
set_option maxHeartbeats 4000000 in
theorem parse_any {w : World} (s : ByteArray) (hs : s.size ≤ 9223372036854775807) (hE : Env w) :
    Calls Tryz.prog 5 #[.string s] w fun e w' => ToldPa (parse s.data.toList) w e w' := by
  by_cases hl : 1048576 < s.size
  · rw [parse_long (show 1048576 < s.data.toList.length from hl)]
    have hdec : decide ((1048576 : Int) < (s.size : Int)) = true := by rw [decide_eq_true_eq]; omega
    have HZ := hid (heap_alloc_new w (.cells #[.int .i64 0, .bool false, .string ⟨#[]⟩, .int .i64 0, .bool false, .slice none 0 0, .slice none 0 0] 25 (0, 0)))
    have s2 := seven HZ.out
    obtain ⟨b0, b1, b2, b3, b4, b5, b6, bz⟩ := s2
    have bz0 := bz 0
    have bz1 := bz 1
    have bz2 := bz 2
    have bz3 := bz 3
    have bz4 := bz 4
    have bz5 := bz 5
    have bz6 := bz 6
    clear bz
    go_enter Tryz.func5, Tryz.ntmps5
    go_wp2
    (try simp only [Exit.inBlock, Exit.then])
    refine bodyPost_ret (val_size3 rfl _ _ _ 25 _ (0, 0) rfl HZ.out rfl) rfl ?_
    exact ⟨[.int .i64 0, .bool false, .string ⟨#[]⟩, .int .i64 0, .bool false, .slice none 0 0, .slice none 0 0], by rw [errOf_pos (by decide)]; rfl, flat_val _ _ 0 false [] 0 false, below_new w _⟩
  · have hdec : decide ((1048576 : Int) < (s.size : Int)) = false := by rw [decide_eq_false_iff_not]; omega
    have HSZ := hid (show s.size ≤ 1048576 by omega)
    have HLe := hid (show s.data.toList.length ≤ 1048576 from HSZ.out)
    have HE := hid hE
    have HNB := hid (show 5 ≤ w.heap.size + 1 by have := hE.lt; omega)
    have HS := hid (start_rd (w := w) (o1 := (.cells #[.int .i64 0, .bool false, .string ⟨#[]⟩, .int .i64 0, .bool false, .slice none 0 0, .slice none 0 0] 25 (0, 0))) HSZ.out rfl)
    clear hE hs hl
    cases hw : whole s.data.toList with
    | ok t u =>
      have HW := hid hw
      rw [parse_ok HLe.out hw]
      clear hw
      go_enter Tryz.func5, Tryz.ntmps5
      go_wp2_with (go_at_call 18; have hcall := whole_any (w := ((w.alloc (.cells #[.int .i64 0, .bool false, .string ⟨#[]⟩, .int .i64 0, .bool false, .slice none 0 0, .slice none 0 0] 25 (0, 0))).alloc (.cells #[.string s, .int .i64 0, .int .i64 0] 45 (0, 0)))) HNB.out HSZ.out HS.out.1 (HE.out.below HS.out.2.2.1); (with_reducible refine hcall.mono ?_); clear hcall; intro e w2 hq; have hq2 := ToldV.as hq HW.out; clear hq; obtain ⟨cs, rfl, z1, z2, z3⟩ := hq2; obtain ⟨q1, q2, q3, q4, q5, q6, q7, q8, q9, q10, q11, rfl⟩ := z1.form; have HRes := hid ((z3.block w.heap.size (by rw [HS.out.2.2.2]; omega) (by omega)).trans HS.out.2.1); have R2 := hid (And.intro z2 z3); have Z1 := hid z1; clear z1 z2 z3; have HR3 := hid (((below_new w2 (C7 q1 q2 q3 q4 q5 q6 q7 q8 q9 q10 q11)).block w.heap.size (lt_of_heap HRes.out)).trans HRes.out); have s2 := seven HR3.out; obtain ⟨b0, b1, b2, b3, b4, b5, b6, bz⟩ := s2; have bz0 := bz 0; have bz1 := bz 1; have bz2 := bz 2; have bz3 := bz 3; have bz4 := bz 4; have bz5 := bz 5; have bz6 := bz 6; clear bz; have HC := hid (heap_alloc_new w2 (C7 q1 q2 q3 q4 q5 q6 q7 q8 q9 q10 q11)); have s3 := seven HC.out; obtain ⟨x0, x1, x2, x3, x4, x5, x6, _⟩ := s3)
      (try simp only [Exit.inBlock, Exit.then])
      refine bodyPost_ret (val_size3 rfl _ _ _ 25 _ (0, 0) rfl (seven_put (has_seven HR3.out) _ _ _ _ _ _ _) rfl) rfl ?_
      obtain ⟨e1, e2⟩ := parse_end HS.out.2.2.1 rfl HS.out.2.2.2 R2.out.2 (below_new w2 (C7 q1 q2 q3 q4 q5 q6 q7 q8 q9 q10 q11)) Z1.out (out7 _ _ _ _ _ _ _ _ _)
      exact ⟨_, rfl, e1, e2⟩
    | err k u =>
      have HW := hid hw
      have hk := whole_err hw
      rw [parse_err HLe.out hw]
      clear hw
      go_enter Tryz.func5, Tryz.ntmps5
      go_wp2_with (go_at_call 18; have hcall := whole_any (w := ((w.alloc (.cells #[.int .i64 0, .bool false, .string ⟨#[]⟩, .int .i64 0, .bool false, .slice none 0 0, .slice none 0 0] 25 (0, 0))).alloc (.cells #[.string s, .int .i64 0, .int .i64 0] 45 (0, 0)))) HNB.out HSZ.out HS.out.1 (HE.out.below HS.out.2.2.1); (with_reducible refine hcall.mono ?_); clear hcall; intro e w2 hq; have hq2 := ToldV.as hq HW.out; clear hq; obtain ⟨t, cs, d', rfl, z1, z2, z3⟩ := hq2; obtain ⟨q1, q2, q3, q4, q5, q6, q7, q8, q9, q10, q11, rfl⟩ := z1.form; have HRes := hid ((z3.block w.heap.size (by rw [HS.out.2.2.2]; omega) (by omega)).trans HS.out.2.1); have R2 := hid (And.intro z2 z3); have Z1 := hid z1; obtain ⟨q, hA⟩ := z2.at; have HA := hid hA; clear hA z1 z2 z3)
      have HR3 := hid (((below_new w2 (C7 q1 q2 q3 q4 q5 q6 q7 q8 q9 q10 q11)).block w.heap.size (lt_of_heap HRes.out)).trans HRes.out)
      have H2 := hid (HA.out.two.below (below_new w2 (C7 q1 q2 q3 q4 q5 q6 q7 q8 q9 q10 q11)))
      obtain ⟨W3, hW3⟩ : ∃ W3, W3 = w2.alloc (C7 q1 q2 q3 q4 q5 q6 q7 q8 q9 q10 q11) := ⟨_, rfl⟩
      have HW3 := hid (show Below w2.heap.size w2 W3 from by rw [hW3]; exact below_new _ _)
      rw [← hW3] at HR3 H2 ⊢
      clear hW3
      refine wp_region_noPanic ?_
      refine any_begin 7 (by kernel_rfl) (by kernel_rfl) ?_
      refine late_begin (fun U => Rd2 U (w.heap.size + 1) s q) (fun _ => false) (H2.out.below (below_drew (Below.refl _ _) 1)) (fun hS => ?_)
      have HR4 := hid (show W3.drew.heap[w.heap.size]? = some (.cells #[.int .i64 0, .bool false, .string ⟨#[]⟩, .int .i64 0, .bool false, .slice none 0 0, .slice none 0 0] 25 (0, 0)) from HR3.out)
      have HW4 := hid (show Below w2.heap.size w2 W3.drew from HW3.out.trans (below_drew (Below.refl _ _) 1))
      clear HR3 H2 HW3
      generalize W3.drew = V at hS HR4 HW4 ⊢
      have s2 := seven HR4.out
      obtain ⟨b0, b1, b2, b3, b4, b5, b6, bz⟩ := s2
      have bz0 := bz 0
      have bz1 := bz 1
      have bz2 := bz 2
      have bz3 := bz 3
      have bz4 := bz 4
      have bz5 := bz 5
      have bz6 := bz 6
      clear bz
      refine late_take (i := 0) (some 21) rfl rfl (by kernel_rfl) (by kernel_rfl) (by kernel_rfl) (by kernel_rfl) (by kernel_rfl) (fun _ _ _ h => h) (by rfl) (v := ?v0a) ?hy0a hS ?rest0a
      case hy0a => intro w0 hSw; obtain ⟨k0, k1⟩ := hSw; go_simp; try with_reducible rfl
      simp only [Act.put, List.setIfInBounds_toArray, List.set_cons_zero, List.set_cons_succ]
      refine late_take (i := 1) (some 22) rfl rfl (by kernel_rfl) (by kernel_rfl) (by kernel_rfl) (by kernel_rfl) (by kernel_rfl) (fun _ _ _ h => h) (by rfl) (v := ?v1a) ?hy1a hS ?rest1a
      case hy1a => intro w0 hSw; obtain ⟨k0, k1⟩ := hSw; go_simp; try with_reducible rfl
      simp only [Act.put, List.setIfInBounds_toArray, List.set_cons_zero, List.set_cons_succ]
      refine late_take (i := 2) (some 23) rfl rfl (by kernel_rfl) (by kernel_rfl) (by kernel_rfl) (by kernel_rfl) (by kernel_rfl) (fun _ _ _ h => h) (by rfl) (v := ?v2a) ?hy2a hS ?rest2a
      case hy2a => intro w0 hSw; obtain ⟨k0, k1⟩ := hSw; go_simp; try with_reducible rfl
      simp only [Act.put, List.setIfInBounds_toArray, List.set_cons_zero, List.set_cons_succ]
      refine late_take (i := 3) (some 24) rfl rfl (by kernel_rfl) (by kernel_rfl) (by kernel_rfl) (by kernel_rfl) (by kernel_rfl) (fun _ _ _ h => h) (by rfl) (v := ?v3a) ?hy3a hS ?rest3a
      case hy3a => intro w0 hSw; obtain ⟨k0, k1⟩ := hSw; go_simp; try with_reducible rfl
      simp only [Act.put, List.setIfInBounds_toArray, List.set_cons_zero, List.set_cons_succ]
      refine wpAnyD_one (i := 4) (by kernel_rfl) rfl (fun K hK => ?_)
      go_simp
      have hS2 : Rd2 (((((((V.setCell ⟨w.heap.size, 0, none⟩ (.int .i64 0)).setCell ⟨w.heap.size, 1, none⟩ (.bool false)).setCell ⟨w.heap.size, 2, none⟩ (.string ⟨#[]⟩)).setCell ⟨w.heap.size, 3, none⟩ (.int .i64 0)).setCell ⟨w.heap.size, 4, none⟩ (.bool false)).setCell ⟨w.heap.size, 5, none⟩ (.slice none 0 0)).setCell ⟨w.heap.size, 6, none⟩ (.slice none 0 0)) (w.heap.size + 1) s q := Rd2.other hS (by omega) (out7 _ _ _ _ _ _ _ _ _)
      refine hK _ _ ⟨fun _ => hS2, ?_⟩
      clear hK K
      replace hS := hS2
      refine late_take (i := 5) (some 3) rfl rfl (by kernel_rfl) (by kernel_rfl) (by kernel_rfl) (by kernel_rfl) (by kernel_rfl) (fun _ _ _ h => h) (by rfl) (v := ?v5a) ?hy5a hS ?rest5a
      case hy5a => intro w0 hSw; obtain ⟨k0, k1⟩ := hSw; go_simp; try with_reducible rfl
      simp only [Act.put, List.setIfInBounds_toArray, List.set_cons_zero, List.set_cons_succ]
      refine late_take (i := 6) (some 4) rfl rfl (by kernel_rfl) (by kernel_rfl) (by kernel_rfl) (by kernel_rfl) (by kernel_rfl) (fun _ _ _ h => h) (by rfl) (v := ?v6a) ?hy6a hS ?rest6a
      case hy6a => intro w0 hSw; obtain ⟨k0, k1⟩ := hSw; go_simp; try with_reducible rfl
      simp only [Act.put, List.setIfInBounds_toArray, List.set_cons_zero, List.set_cons_succ]
      refine late_done (by kernel_rfl) ?_ _
      refine NoPanic.normal ?_
      clear hS hS2
      go_wp2
      (try simp only [Exit.inBlock, Exit.then])
      refine bodyPost_ret (val_size3 rfl _ _ _ 25 _ (0, 0) rfl (seven_put (has_seven HR4.out) _ _ _ _ _ _ _) rfl) rfl ?_
      obtain ⟨_, e2⟩ := parse_end HS.out.2.2.1 rfl HS.out.2.2.2 R2.out.2 HW4.out Z1.out (out7 _ _ _ _ _ _ _ _ _)
      have hq : ((s.data.toList.length - u.length : Nat) : Int) = (q : Int) := by
        have a1 := HA.out.len
        have a2 := HA.out.le
        have a3 : s.data.toList.length = s.size := rfl
        omega
      refine ⟨[.int .i64 0, .bool false, .string ⟨#[]⟩, .int .i64 0, .bool false, .slice none 0 0, .slice none 0 0], ?_, flat_val _ _ 0 false [] 0 false, e2⟩
      rw [hq, errOf_pos hk]
      rfl
end Go.Proofs.YtkoeihliaandeaaGreatDoor
