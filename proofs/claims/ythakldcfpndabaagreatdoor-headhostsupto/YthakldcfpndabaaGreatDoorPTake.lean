/- The program's reader: a byte is taken. -/
import Derived.Test.YthakldcfpndabaaGreatDoorPStep
import Derived.Test.YthakldcfpndabaaGreatDoorPRead
namespace Go.Proofs.YthakldcfpndabaaGreatDoor
open Go.RowKit

structure RdT (U : World) (g : Nat) (c1 c2 : Value) : Prop where
  a1 : U.cell? ⟨g, 1, none⟩ = some c1
  a2 : U.cell? ⟨g, 2, none⟩ = some c2
theorem RdAt.cells {F : Nat → Prop} {w : World} {g : Nat} {s : PS} (h : RdAt F w g s) : w.cell? ⟨g, 1, none⟩ = some (.int .i64 s.most) ∧ w.cell? ⟨g, 2, none⟩ = some (.int .i64 (s.taken : Int)) ∧ w.cell? ⟨g, 3, none⟩ = some (errOf s.err) ∧ w.cell? ⟨g, 4, none⟩ = some (.int .i64 (s.st : Int)) := by
  obtain ⟨p, f, hr, hf⟩ := h
  have hb := hr.blk
  unfold rdCells at hb
  have := cells14 hb
  exact ⟨this.a1, this.a2, this.a3, this.a4⟩
theorem RdAt.fields {F : Nat → Prop} {w : World} {g : Nat} {s : PS} (h : RdAt F w g s) : ∃ p c, w.cell? ⟨g, 13, none⟩ = some (.slice p s.fields.length c) := by
  obtain ⟨p, f, hr, hf⟩ := h
  obtain ⟨fp, fl, fc, rfl⟩ := own_slice3 hr.flds
  have := sliceF_len hr.flds
  have hb := hr.blk
  unfold rdCells at hb
  exact ⟨fp, fc, by rw [this]; exact (cells14 hb).a13⟩
/-- One byte counted. -/
theorem RdAt.count {F : Nat → Prop} {w : World} {g : Nat} {s : PS} (h : RdAt F w g s) : RdAt F (w.setCell ⟨g, 2, none⟩ (.int .i64 ((s.taken : Int) + 1))) g { s with taken := s.taken + 1 } ∧ Only F w (w.setCell ⟨g, 2, none⟩ (.int .i64 ((s.taken : Int) + 1))) ∧ w.frozen? ⟨g, 2, none⟩ = false := by
  obtain ⟨p, f, hr, hf⟩ := h
  have hb := hr.blk
  unfold rdCells at hb
  refine ⟨⟨p, f, ⟨?_, hr.part.at_set hb, hr.flds.at_set hb⟩, hf⟩, (Only.refl _ _).set hf.g _, (cells14 hb).z 2⟩
  rw [set14_2 hb]
  unfold rdCells
  simp
theorem RdAt.drew {F : Nat → Prop} {w : World} {g : Nat} {s : PS} (h : RdAt F w g s) : RdAt F w.drew g s := h.next ((Below.refl _ _).drew)
theorem Only.drew {F : Nat → Prop} {w w' : World} (h : Only F w w') : Only F w w'.drew := ⟨h.os, h.tape, h.output, h.size, h.block⟩
theorem take_size {s : PS} {c : UInt8} (h : s.most < (s.taken : Int) + 1) : takeP s c = spoilP (s.taken + 1) 22 := by unfold takeP; rw [if_pos h]
theorem take_none {s : PS} {c : UInt8} (h : ¬ s.most < (s.taken : Int) + 1) (hs : stepP { s with taken := s.taken + 1 } c = none) : takeP s c = spoilP (s.taken + 1) (faultN s.st) := by unfold takeP; rw [if_neg h, hs]
theorem take_many {s s' : PS} {c : UInt8} (h : ¬ s.most < (s.taken : Int) + 1) (hs : stepP { s with taken := s.taken + 1 } c = some s') (h64 : 64 < s'.fields.length) : takeP s c = spoilP (s.taken + 1) 22 := by unfold takeP; rw [if_neg h, hs]; dsimp only; rw [if_pos h64]
theorem take_some {s s' : PS} {c : UInt8} (h : ¬ s.most < (s.taken : Int) + 1) (hs : stepP { s with taken := s.taken + 1 } c = some s') (h64 : ¬ 64 < s'.fields.length) : takeP s c = s' := by unfold takeP; rw [if_neg h, hs]; dsimp only; rw [if_neg h64]
theorem StepQ.no {F : Nat → Prop} {w w' : World} {g : Nat} {b : Bool} (h : StepQ F w g none b w') : b = false ∧ w' = w := by
  rcases h with ⟨s', h1, _⟩ | ⟨_, h2, h3⟩
  · cases h1
  · exact ⟨h2, h3⟩
theorem StepQ.yes {F : Nat → Prop} {w w' : World} {g : Nat} {b : Bool} {s : PS} (h : StepQ F w g (some s) b w') : b = true ∧ Turned F w g s w' := by
  rcases h with ⟨s', h1, h2, h3⟩ | ⟨h1, _⟩
  · cases h1; exact ⟨h2, h3⟩
  · cases h1
theorem fault_ne (n : Nat) : faultN n ≠ 0 := by unfold faultN; split <;> simp
set_option maxRecDepth 20000 in
set_option maxHeartbeats 8000000 in
theorem take_size_any {F : Nat → Prop} {w : World} {g : Nat} {s : PS} (h : RdAt F w g s) (c : UInt8) (htk : s.taken ≤ 70368744177600) (hm : s.most < (s.taken : Int) + 1) :
    Calls Tryz.prog 67 #[.pointer (some ⟨g, 0, none⟩), byteV c] w fun e w' => e = .returned (.tuple #[]) ∧ Turned F w g (takeP s c) w' := by
  have HV := hid (take_size (c := c) hm)
  have hcnt := h.count
  obtain ⟨k1, k2, _, k4⟩ := h.cells
  have z2 := hcnt.2.2
  obtain ⟨T, hT⟩ : ∃ T, s.taken = T := ⟨_, rfl⟩
  obtain ⟨M, hM⟩ : ∃ M, s.most = M := ⟨_, rfl⟩
  rw [hT] at hcnt k2 htk
  rw [hM] at k1
  obtain ⟨W0, hW0⟩ : ∃ W0, W0 = w.setCell ⟨g, 2, none⟩ (.int .i64 ((T : Int) + 1)) := ⟨_, rfl⟩
  rw [← hW0] at hcnt
  have H0 := hid hcnt.1.drew
  have O0 := hid hcnt.2.1.drew
  have HT := hid (show RdT W0.drew g (.int .i64 M) (.int .i64 ((T : Int) + 1)) from ⟨by have := hcnt.1.cells.1; dsimp only at this; rw [hM] at this; exact this, by have := hcnt.1.cells.2.1; dsimp only at this; push_cast at this; exact this⟩)
  have HT0 := hid hT
  have HM0 := hid hM
  unfold byteV
  have hgt : M < (T : Int) + 1 := by rw [← hM, ← hT]; exact hm
  have HC := hid (spoil_any 22 (by decide) H0.out)
  rw [errOf_pos (by decide), show ((22 : Nat) : Int) = 22 from rfl] at HC
  clear hcnt h hm hT hM
  go_enter Tryz.func67, Tryz.ntmps67
  go_wp2
  rw [← hW0]
  clear k1 k2 k4 z2 hW0
  refine wp_region_noPanic ?_
  refine any_begin 10 (by kernel_rfl) (by kernel_rfl) ?_
  refine late_begin (fun U => RdT U g (.int .i64 M) (.int .i64 ((T : Int) + 1))) (fun _ => false) HT.out (fun hS => ?_)
  refine late_take (i := 0) (some 12) rfl rfl (by kernel_rfl) (by kernel_rfl) (by kernel_rfl) (by kernel_rfl) (by kernel_rfl) (fun _ _ _ h => h) (by rfl) (v := ?v0a) ?hy0a hS ?rest0a
  case hy0a => intro w0 hSw; obtain ⟨a1, a2⟩ := hSw; go_simp; try with_reducible rfl
  simp only [Act.put, List.setIfInBounds_toArray, List.set_cons_zero, List.set_cons_succ]
  refine late_take (i := 1) (some 13) rfl rfl (by kernel_rfl) (by kernel_rfl) (by kernel_rfl) (by kernel_rfl) (by kernel_rfl) (fun _ _ _ h => h) (by rfl) (v := ?v1a) ?hy1a hS ?rest1a
  case hy1a => intro w0 hSw; obtain ⟨a1, a2⟩ := hSw; go_simp; try with_reducible rfl
  simp only [Act.put, List.setIfInBounds_toArray, List.set_cons_zero, List.set_cons_succ]
  refine late_take (i := 2) (some 14) rfl rfl (by kernel_rfl) (by kernel_rfl) (by kernel_rfl) (by kernel_rfl) (by kernel_rfl) (fun _ _ _ h => h) (by rfl) (v := ?v2a) ?hy2a hS ?rest2a
  case hy2a => intro w0 hSw; obtain ⟨a1, a2⟩ := hSw; go_simp; try with_reducible rfl
  simp only [Act.put, List.setIfInBounds_toArray, List.set_cons_zero, List.set_cons_succ]
  refine late_take (i := 3) (some 15) rfl rfl (by kernel_rfl) (by kernel_rfl) (by kernel_rfl) (by kernel_rfl) (by kernel_rfl) (fun _ _ _ h => h) (by rfl) (v := ?v3a) ?hy3a hS ?rest3a
  case hy3a => intro w0 hSw; obtain ⟨a1, a2⟩ := hSw; go_simp; try with_reducible rfl
  simp only [Act.put, List.setIfInBounds_toArray, List.set_cons_zero, List.set_cons_succ]
  refine late_take (i := 4) (some 16) rfl rfl (by kernel_rfl) (by kernel_rfl) (by kernel_rfl) (by kernel_rfl) (by kernel_rfl) (fun _ _ _ h => h) (by rfl) (v := ?v4a) ?hy4a hS ?rest4a
  case hy4a => intro w0 hSw; obtain ⟨a1, a2⟩ := hSw; go_simp; try with_reducible rfl
  simp only [Act.put, List.setIfInBounds_toArray, List.set_cons_zero, List.set_cons_succ]
  refine late_take (i := 5) (some 17) rfl rfl (by kernel_rfl) (by kernel_rfl) (by kernel_rfl) (by kernel_rfl) (by kernel_rfl) (fun _ _ _ h => h) (by rfl) (v := ?v5a) ?hy5a hS ?rest5a
  case hy5a => intro w0 hSw; obtain ⟨a1, a2⟩ := hSw; go_simp; try with_reducible rfl
  simp only [Act.put, List.setIfInBounds_toArray, List.set_cons_zero, List.set_cons_succ]
  refine late_take (i := 6) (some 18) rfl rfl (by kernel_rfl) (by kernel_rfl) (by kernel_rfl) (by kernel_rfl) (by kernel_rfl) (fun _ _ _ h => h) (by rfl) (v := ?v6a) ?hy6a hS ?rest6a
  case hy6a => intro w0 hSw; obtain ⟨a1, a2⟩ := hSw; go_simp; try with_reducible rfl
  simp only [Act.put, List.setIfInBounds_toArray, List.set_cons_zero, List.set_cons_succ]
  refine late_take (i := 7) (some 19) rfl rfl (by kernel_rfl) (by kernel_rfl) (by kernel_rfl) (by kernel_rfl) (by kernel_rfl) (fun _ _ _ h => h) (by rfl) (v := ?v7a) ?hy7a hS ?rest7a
  case hy7a => intro w0 hSw; obtain ⟨a1, a2⟩ := hSw; go_simp; try with_reducible rfl
  simp only [Act.put, List.setIfInBounds_toArray, List.set_cons_zero, List.set_cons_succ]
  refine late_take (i := 8) (some 20) rfl rfl (by kernel_rfl) (by kernel_rfl) (by kernel_rfl) (by kernel_rfl) (by kernel_rfl) (fun _ _ _ h => h) (by rfl) (v := ?v8a) ?hy8a hS ?rest8a
  case hy8a => intro w0 hSw; obtain ⟨a1, a2⟩ := hSw; go_simp; try with_reducible rfl
  simp only [Act.put, List.setIfInBounds_toArray, List.set_cons_zero, List.set_cons_succ]
  refine late_take (i := 9) (some 11) rfl rfl (by kernel_rfl) (by kernel_rfl) (by kernel_rfl) (by kernel_rfl) (by kernel_rfl) (fun _ _ _ h => h) (by rfl) (v := ?v9a) ?hy9a hS ?rest9a
  case hy9a => intro w0 hSw; obtain ⟨a1, a2⟩ := hSw; go_simp; try with_reducible rfl
  simp only [Act.put, List.setIfInBounds_toArray, List.set_cons_zero, List.set_cons_succ]
  refine late_done (by kernel_rfl) ?_ _
  refine NoPanic.normal ?_
  go_wp2_with (go_at_call 73; (with_reducible refine HC.out.mono ?_); rintro e w1 ⟨rfl, hq⟩; have HQ := hid hq; clear hq)
  go_end0
  exact ⟨rfl, by rw [HV.out, HT0.out]; exact Turned.trans O0.out (fun _ h => .inl h) HQ.out⟩
set_option maxRecDepth 20000 in
set_option maxHeartbeats 8000000 in
theorem take_none_any {F : Nat → Prop} {w : World} {g : Nat} {s : PS} (h : RdAt F w g s) (c : UInt8) (htk : s.taken ≤ 70368744177600) (hst : s.st ≤ 10) (hlen : s.part.length ≤ 70368744177600) (hfl : s.fields.length ≤ 65) (hm : ¬ s.most < (s.taken : Int) + 1) (hs : stepP { s with taken := s.taken + 1 } c = none) :
    Calls Tryz.prog 67 #[.pointer (some ⟨g, 0, none⟩), byteV c] w fun e w' => e = .returned (.tuple #[]) ∧ Turned F w g (takeP s c) w' := by
  have HV := hid (take_none hm hs)
  have hcnt := h.count
  obtain ⟨k1, k2, _, k4⟩ := h.cells
  have z2 := hcnt.2.2
  obtain ⟨T, hT⟩ : ∃ T, s.taken = T := ⟨_, rfl⟩
  obtain ⟨M, hM⟩ : ∃ M, s.most = M := ⟨_, rfl⟩
  rw [hT] at hcnt k2 htk
  rw [hM] at k1
  obtain ⟨W0, hW0⟩ : ∃ W0, W0 = w.setCell ⟨g, 2, none⟩ (.int .i64 ((T : Int) + 1)) := ⟨_, rfl⟩
  rw [← hW0] at hcnt
  have H0 := hid hcnt.1.drew
  have O0 := hid hcnt.2.1.drew
  have HT := hid (show RdT W0.drew g (.int .i64 M) (.int .i64 ((T : Int) + 1)) from ⟨by have := hcnt.1.cells.1; dsimp only at this; rw [hM] at this; exact this, by have := hcnt.1.cells.2.1; dsimp only at this; push_cast at this; exact this⟩)
  have HT0 := hid hT
  have HM0 := hid hM
  unfold byteV
  have hgt : ¬ M < (T : Int) + 1 := by rw [← hM, ← hT]; exact hm
  have HSt := hid (step_any H0.out c hst hlen hfl)
  rw [← hT, hs] at HSt
  have HFa := hid (fault_any g s.st W0.drew H0.out.cells.2.2.2)
  have HC := hid (spoil_any (faultN s.st) (fault_ne _) H0.out)
  obtain ⟨E, hE⟩ : ∃ E, errOf (faultN s.st) = E := ⟨_, rfl⟩
  rw [hE] at HFa HC
  unfold byteV at HSt
  clear hcnt h hm hT hM hs hlen hfl hst hE
  go_enter Tryz.func67, Tryz.ntmps67
  go_wp2
  rw [← hW0]
  clear k1 k2 k4 z2 hW0
  refine wp_region_noPanic ?_
  refine any_begin 10 (by kernel_rfl) (by kernel_rfl) ?_
  refine late_begin (fun U => RdT U g (.int .i64 M) (.int .i64 ((T : Int) + 1))) (fun _ => false) HT.out (fun hS => ?_)
  refine late_take (i := 0) (some 12) rfl rfl (by kernel_rfl) (by kernel_rfl) (by kernel_rfl) (by kernel_rfl) (by kernel_rfl) (fun _ _ _ h => h) (by rfl) (v := ?v0b) ?hy0b hS ?rest0b
  case hy0b => intro w0 hSw; obtain ⟨a1, a2⟩ := hSw; go_simp; try with_reducible rfl
  simp only [Act.put, List.setIfInBounds_toArray, List.set_cons_zero, List.set_cons_succ]
  refine late_take (i := 1) (some 13) rfl rfl (by kernel_rfl) (by kernel_rfl) (by kernel_rfl) (by kernel_rfl) (by kernel_rfl) (fun _ _ _ h => h) (by rfl) (v := ?v1b) ?hy1b hS ?rest1b
  case hy1b => intro w0 hSw; obtain ⟨a1, a2⟩ := hSw; go_simp; try with_reducible rfl
  simp only [Act.put, List.setIfInBounds_toArray, List.set_cons_zero, List.set_cons_succ]
  refine late_take (i := 2) (some 14) rfl rfl (by kernel_rfl) (by kernel_rfl) (by kernel_rfl) (by kernel_rfl) (by kernel_rfl) (fun _ _ _ h => h) (by rfl) (v := ?v2b) ?hy2b hS ?rest2b
  case hy2b => intro w0 hSw; obtain ⟨a1, a2⟩ := hSw; go_simp; try with_reducible rfl
  simp only [Act.put, List.setIfInBounds_toArray, List.set_cons_zero, List.set_cons_succ]
  refine late_take (i := 3) (some 15) rfl rfl (by kernel_rfl) (by kernel_rfl) (by kernel_rfl) (by kernel_rfl) (by kernel_rfl) (fun _ _ _ h => h) (by rfl) (v := ?v3b) ?hy3b hS ?rest3b
  case hy3b => intro w0 hSw; obtain ⟨a1, a2⟩ := hSw; go_simp; try with_reducible rfl
  simp only [Act.put, List.setIfInBounds_toArray, List.set_cons_zero, List.set_cons_succ]
  refine late_take (i := 4) (some 16) rfl rfl (by kernel_rfl) (by kernel_rfl) (by kernel_rfl) (by kernel_rfl) (by kernel_rfl) (fun _ _ _ h => h) (by rfl) (v := ?v4b) ?hy4b hS ?rest4b
  case hy4b => intro w0 hSw; obtain ⟨a1, a2⟩ := hSw; go_simp; try with_reducible rfl
  simp only [Act.put, List.setIfInBounds_toArray, List.set_cons_zero, List.set_cons_succ]
  refine late_take (i := 5) (some 17) rfl rfl (by kernel_rfl) (by kernel_rfl) (by kernel_rfl) (by kernel_rfl) (by kernel_rfl) (fun _ _ _ h => h) (by rfl) (v := ?v5b) ?hy5b hS ?rest5b
  case hy5b => intro w0 hSw; obtain ⟨a1, a2⟩ := hSw; go_simp; try with_reducible rfl
  simp only [Act.put, List.setIfInBounds_toArray, List.set_cons_zero, List.set_cons_succ]
  refine late_take (i := 6) (some 18) rfl rfl (by kernel_rfl) (by kernel_rfl) (by kernel_rfl) (by kernel_rfl) (by kernel_rfl) (fun _ _ _ h => h) (by rfl) (v := ?v6b) ?hy6b hS ?rest6b
  case hy6b => intro w0 hSw; obtain ⟨a1, a2⟩ := hSw; go_simp; try with_reducible rfl
  simp only [Act.put, List.setIfInBounds_toArray, List.set_cons_zero, List.set_cons_succ]
  refine late_take (i := 7) (some 19) rfl rfl (by kernel_rfl) (by kernel_rfl) (by kernel_rfl) (by kernel_rfl) (by kernel_rfl) (fun _ _ _ h => h) (by rfl) (v := ?v7b) ?hy7b hS ?rest7b
  case hy7b => intro w0 hSw; obtain ⟨a1, a2⟩ := hSw; go_simp; try with_reducible rfl
  simp only [Act.put, List.setIfInBounds_toArray, List.set_cons_zero, List.set_cons_succ]
  refine late_take (i := 8) (some 20) rfl rfl (by kernel_rfl) (by kernel_rfl) (by kernel_rfl) (by kernel_rfl) (by kernel_rfl) (fun _ _ _ h => h) (by rfl) (v := ?v8b) ?hy8b hS ?rest8b
  case hy8b => intro w0 hSw; obtain ⟨a1, a2⟩ := hSw; go_simp; try with_reducible rfl
  simp only [Act.put, List.setIfInBounds_toArray, List.set_cons_zero, List.set_cons_succ]
  refine late_take (i := 9) (some 11) rfl rfl (by kernel_rfl) (by kernel_rfl) (by kernel_rfl) (by kernel_rfl) (by kernel_rfl) (fun _ _ _ h => h) (by rfl) (v := ?v9b) ?hy9b hS ?rest9b
  case hy9b => intro w0 hSw; obtain ⟨a1, a2⟩ := hSw; go_simp; try with_reducible rfl
  simp only [Act.put, List.setIfInBounds_toArray, List.set_cons_zero, List.set_cons_succ]
  refine late_done (by kernel_rfl) ?_ _
  refine NoPanic.normal ?_
  go_wp2_with (first | (go_at_call 74; (with_reducible refine HSt.out.mono ?_); rintro e w1 ⟨b, rfl, hq⟩; obtain ⟨rfl, hw⟩ := hq.no; clear hq; subst w1) | (go_at_call 75; (with_reducible refine HFa.out.mono ?_); rintro e w2 ⟨rfl, hw2⟩; subst w2) | (go_at_call 73; (with_reducible refine HC.out.mono ?_); rintro e w3 ⟨rfl, hq⟩; have HQ := hid hq; clear hq))
  go_end0
  exact ⟨rfl, by rw [HV.out]; exact Turned.trans O0.out (fun _ h => .inl h) (by rw [HT0.out]; exact HQ.out)⟩
set_option maxRecDepth 20000 in
set_option maxHeartbeats 8000000 in
theorem take_many_any {F : Nat → Prop} {w : World} {g : Nat} {s s' : PS} (h : RdAt F w g s) (c : UInt8) (htk : s.taken ≤ 70368744177600) (hst : s.st ≤ 10) (hlen : s.part.length ≤ 70368744177600) (hfl : s.fields.length ≤ 65) (hm : ¬ s.most < (s.taken : Int) + 1) (hs : stepP { s with taken := s.taken + 1 } c = some s') (h64 : 64 < s'.fields.length) :
    Calls Tryz.prog 67 #[.pointer (some ⟨g, 0, none⟩), byteV c] w fun e w' => e = .returned (.tuple #[]) ∧ Turned F w g (takeP s c) w' := by
  have HV := hid (take_many hm hs h64)
  have hcnt := h.count
  obtain ⟨k1, k2, _, k4⟩ := h.cells
  have z2 := hcnt.2.2
  obtain ⟨T, hT⟩ : ∃ T, s.taken = T := ⟨_, rfl⟩
  obtain ⟨M, hM⟩ : ∃ M, s.most = M := ⟨_, rfl⟩
  rw [hT] at hcnt k2 htk
  rw [hM] at k1
  obtain ⟨W0, hW0⟩ : ∃ W0, W0 = w.setCell ⟨g, 2, none⟩ (.int .i64 ((T : Int) + 1)) := ⟨_, rfl⟩
  rw [← hW0] at hcnt
  have H0 := hid hcnt.1.drew
  have O0 := hid hcnt.2.1.drew
  have HT := hid (show RdT W0.drew g (.int .i64 M) (.int .i64 ((T : Int) + 1)) from ⟨by have := hcnt.1.cells.1; dsimp only at this; rw [hM] at this; exact this, by have := hcnt.1.cells.2.1; dsimp only at this; push_cast at this; exact this⟩)
  have HT0 := hid hT
  have HM0 := hid hM
  unfold byteV
  have hgt : ¬ M < (T : Int) + 1 := by rw [← hM, ← hT]; exact hm
  have HSt := hid (step_any H0.out c hst hlen hfl)
  rw [← hT, hs] at HSt
  have HTk := hid (show s'.taken = T + 1 from by have := step_taken hs; dsimp only at this; rw [this, hT])
  obtain ⟨fl, hfl2⟩ : ∃ fl, s'.fields.length = fl := ⟨_, rfl⟩
  have HFl := hid hfl2
  rw [hfl2] at h64
  unfold byteV at HSt
  have h65 : (64 : Int) < (fl : Int) := by omega
  clear hcnt h hm hT hM hs hlen hfl hst hfl2
  go_enter Tryz.func67, Tryz.ntmps67
  go_wp2
  rw [← hW0]
  clear k1 k2 k4 z2 hW0
  refine wp_region_noPanic ?_
  refine any_begin 10 (by kernel_rfl) (by kernel_rfl) ?_
  refine late_begin (fun U => RdT U g (.int .i64 M) (.int .i64 ((T : Int) + 1))) (fun _ => false) HT.out (fun hS => ?_)
  refine late_take (i := 0) (some 12) rfl rfl (by kernel_rfl) (by kernel_rfl) (by kernel_rfl) (by kernel_rfl) (by kernel_rfl) (fun _ _ _ h => h) (by rfl) (v := ?v0c) ?hy0c hS ?rest0c
  case hy0c => intro w0 hSw; obtain ⟨a1, a2⟩ := hSw; go_simp; try with_reducible rfl
  simp only [Act.put, List.setIfInBounds_toArray, List.set_cons_zero, List.set_cons_succ]
  refine late_take (i := 1) (some 13) rfl rfl (by kernel_rfl) (by kernel_rfl) (by kernel_rfl) (by kernel_rfl) (by kernel_rfl) (fun _ _ _ h => h) (by rfl) (v := ?v1c) ?hy1c hS ?rest1c
  case hy1c => intro w0 hSw; obtain ⟨a1, a2⟩ := hSw; go_simp; try with_reducible rfl
  simp only [Act.put, List.setIfInBounds_toArray, List.set_cons_zero, List.set_cons_succ]
  refine late_take (i := 2) (some 14) rfl rfl (by kernel_rfl) (by kernel_rfl) (by kernel_rfl) (by kernel_rfl) (by kernel_rfl) (fun _ _ _ h => h) (by rfl) (v := ?v2c) ?hy2c hS ?rest2c
  case hy2c => intro w0 hSw; obtain ⟨a1, a2⟩ := hSw; go_simp; try with_reducible rfl
  simp only [Act.put, List.setIfInBounds_toArray, List.set_cons_zero, List.set_cons_succ]
  refine late_take (i := 3) (some 15) rfl rfl (by kernel_rfl) (by kernel_rfl) (by kernel_rfl) (by kernel_rfl) (by kernel_rfl) (fun _ _ _ h => h) (by rfl) (v := ?v3c) ?hy3c hS ?rest3c
  case hy3c => intro w0 hSw; obtain ⟨a1, a2⟩ := hSw; go_simp; try with_reducible rfl
  simp only [Act.put, List.setIfInBounds_toArray, List.set_cons_zero, List.set_cons_succ]
  refine late_take (i := 4) (some 16) rfl rfl (by kernel_rfl) (by kernel_rfl) (by kernel_rfl) (by kernel_rfl) (by kernel_rfl) (fun _ _ _ h => h) (by rfl) (v := ?v4c) ?hy4c hS ?rest4c
  case hy4c => intro w0 hSw; obtain ⟨a1, a2⟩ := hSw; go_simp; try with_reducible rfl
  simp only [Act.put, List.setIfInBounds_toArray, List.set_cons_zero, List.set_cons_succ]
  refine late_take (i := 5) (some 17) rfl rfl (by kernel_rfl) (by kernel_rfl) (by kernel_rfl) (by kernel_rfl) (by kernel_rfl) (fun _ _ _ h => h) (by rfl) (v := ?v5c) ?hy5c hS ?rest5c
  case hy5c => intro w0 hSw; obtain ⟨a1, a2⟩ := hSw; go_simp; try with_reducible rfl
  simp only [Act.put, List.setIfInBounds_toArray, List.set_cons_zero, List.set_cons_succ]
  refine late_take (i := 6) (some 18) rfl rfl (by kernel_rfl) (by kernel_rfl) (by kernel_rfl) (by kernel_rfl) (by kernel_rfl) (fun _ _ _ h => h) (by rfl) (v := ?v6c) ?hy6c hS ?rest6c
  case hy6c => intro w0 hSw; obtain ⟨a1, a2⟩ := hSw; go_simp; try with_reducible rfl
  simp only [Act.put, List.setIfInBounds_toArray, List.set_cons_zero, List.set_cons_succ]
  refine late_take (i := 7) (some 19) rfl rfl (by kernel_rfl) (by kernel_rfl) (by kernel_rfl) (by kernel_rfl) (by kernel_rfl) (fun _ _ _ h => h) (by rfl) (v := ?v7c) ?hy7c hS ?rest7c
  case hy7c => intro w0 hSw; obtain ⟨a1, a2⟩ := hSw; go_simp; try with_reducible rfl
  simp only [Act.put, List.setIfInBounds_toArray, List.set_cons_zero, List.set_cons_succ]
  refine late_take (i := 8) (some 20) rfl rfl (by kernel_rfl) (by kernel_rfl) (by kernel_rfl) (by kernel_rfl) (by kernel_rfl) (fun _ _ _ h => h) (by rfl) (v := ?v8c) ?hy8c hS ?rest8c
  case hy8c => intro w0 hSw; obtain ⟨a1, a2⟩ := hSw; go_simp; try with_reducible rfl
  simp only [Act.put, List.setIfInBounds_toArray, List.set_cons_zero, List.set_cons_succ]
  refine late_take (i := 9) (some 11) rfl rfl (by kernel_rfl) (by kernel_rfl) (by kernel_rfl) (by kernel_rfl) (by kernel_rfl) (fun _ _ _ h => h) (by rfl) (v := ?v9c) ?hy9c hS ?rest9c
  case hy9c => intro w0 hSw; obtain ⟨a1, a2⟩ := hSw; go_simp; try with_reducible rfl
  simp only [Act.put, List.setIfInBounds_toArray, List.set_cons_zero, List.set_cons_succ]
  refine late_done (by kernel_rfl) ?_ _
  refine NoPanic.normal ?_
  go_wp2_with (first | (go_at_call 74; (with_reducible refine HSt.out.mono ?_); rintro e w1 ⟨b, rfl, hq⟩; obtain ⟨rfl, G, h2, h3, h4⟩ := hq.yes; clear hq; have H1 := hid h2; have O1 := hid (O0.out.trans h3 (fun _ h => .inl h)); have HG := hid (show ∀ k, G k → F k ∨ w.heap.size ≤ k from fun k hk => (h4 k hk).imp id (Nat.le_trans O0.out.size)); obtain ⟨fp, fc, y13⟩ := h2.fields; rw [HFl.out] at y13; clear h2 h3 h4; have HC := hid (spoil_any 22 (by decide) H1.out); rw [errOf_pos (by decide), show ((22 : Nat) : Int) = 22 from rfl] at HC) | (go_at_call 73; (with_reducible refine HC.out.mono ?_); rintro e w3 ⟨rfl, hq⟩; have HQ := hid hq; clear hq))
  go_end0
  exact ⟨rfl, by rw [HV.out, HT0.out, ← HTk.out]; exact Turned.trans O1.out HG.out HQ.out⟩
set_option maxRecDepth 20000 in
set_option maxHeartbeats 8000000 in
theorem take_some_any {F : Nat → Prop} {w : World} {g : Nat} {s s' : PS} (h : RdAt F w g s) (c : UInt8) (htk : s.taken ≤ 70368744177600) (hst : s.st ≤ 10) (hlen : s.part.length ≤ 70368744177600) (hfl : s.fields.length ≤ 65) (hm : ¬ s.most < (s.taken : Int) + 1) (hs : stepP { s with taken := s.taken + 1 } c = some s') (h64 : ¬ 64 < s'.fields.length) :
    Calls Tryz.prog 67 #[.pointer (some ⟨g, 0, none⟩), byteV c] w fun e w' => e = .returned (.tuple #[]) ∧ Turned F w g (takeP s c) w' := by
  have HV := hid (take_some hm hs h64)
  have hcnt := h.count
  obtain ⟨k1, k2, _, k4⟩ := h.cells
  have z2 := hcnt.2.2
  obtain ⟨T, hT⟩ : ∃ T, s.taken = T := ⟨_, rfl⟩
  obtain ⟨M, hM⟩ : ∃ M, s.most = M := ⟨_, rfl⟩
  rw [hT] at hcnt k2 htk
  rw [hM] at k1
  obtain ⟨W0, hW0⟩ : ∃ W0, W0 = w.setCell ⟨g, 2, none⟩ (.int .i64 ((T : Int) + 1)) := ⟨_, rfl⟩
  rw [← hW0] at hcnt
  have H0 := hid hcnt.1.drew
  have O0 := hid hcnt.2.1.drew
  have HT := hid (show RdT W0.drew g (.int .i64 M) (.int .i64 ((T : Int) + 1)) from ⟨by have := hcnt.1.cells.1; dsimp only at this; rw [hM] at this; exact this, by have := hcnt.1.cells.2.1; dsimp only at this; push_cast at this; exact this⟩)
  have HT0 := hid hT
  have HM0 := hid hM
  unfold byteV
  have hgt : ¬ M < (T : Int) + 1 := by rw [← hM, ← hT]; exact hm
  have HSt := hid (step_any H0.out c hst hlen hfl)
  rw [← hT, hs] at HSt
  have HTk := hid (show s'.taken = T + 1 from by have := step_taken hs; dsimp only at this; rw [this, hT])
  obtain ⟨fl, hfl2⟩ : ∃ fl, s'.fields.length = fl := ⟨_, rfl⟩
  have HFl := hid hfl2
  rw [hfl2] at h64
  unfold byteV at HSt
  have h65 : ¬ (64 : Int) < (fl : Int) := by omega
  clear hcnt h hm hT hM hs hlen hfl hst hfl2
  go_enter Tryz.func67, Tryz.ntmps67
  go_wp2
  rw [← hW0]
  clear k1 k2 k4 z2 hW0
  refine wp_region_noPanic ?_
  refine any_begin 10 (by kernel_rfl) (by kernel_rfl) ?_
  refine late_begin (fun U => RdT U g (.int .i64 M) (.int .i64 ((T : Int) + 1))) (fun _ => false) HT.out (fun hS => ?_)
  refine late_take (i := 0) (some 12) rfl rfl (by kernel_rfl) (by kernel_rfl) (by kernel_rfl) (by kernel_rfl) (by kernel_rfl) (fun _ _ _ h => h) (by rfl) (v := ?v0c) ?hy0c hS ?rest0c
  case hy0c => intro w0 hSw; obtain ⟨a1, a2⟩ := hSw; go_simp; try with_reducible rfl
  simp only [Act.put, List.setIfInBounds_toArray, List.set_cons_zero, List.set_cons_succ]
  refine late_take (i := 1) (some 13) rfl rfl (by kernel_rfl) (by kernel_rfl) (by kernel_rfl) (by kernel_rfl) (by kernel_rfl) (fun _ _ _ h => h) (by rfl) (v := ?v1c) ?hy1c hS ?rest1c
  case hy1c => intro w0 hSw; obtain ⟨a1, a2⟩ := hSw; go_simp; try with_reducible rfl
  simp only [Act.put, List.setIfInBounds_toArray, List.set_cons_zero, List.set_cons_succ]
  refine late_take (i := 2) (some 14) rfl rfl (by kernel_rfl) (by kernel_rfl) (by kernel_rfl) (by kernel_rfl) (by kernel_rfl) (fun _ _ _ h => h) (by rfl) (v := ?v2c) ?hy2c hS ?rest2c
  case hy2c => intro w0 hSw; obtain ⟨a1, a2⟩ := hSw; go_simp; try with_reducible rfl
  simp only [Act.put, List.setIfInBounds_toArray, List.set_cons_zero, List.set_cons_succ]
  refine late_take (i := 3) (some 15) rfl rfl (by kernel_rfl) (by kernel_rfl) (by kernel_rfl) (by kernel_rfl) (by kernel_rfl) (fun _ _ _ h => h) (by rfl) (v := ?v3c) ?hy3c hS ?rest3c
  case hy3c => intro w0 hSw; obtain ⟨a1, a2⟩ := hSw; go_simp; try with_reducible rfl
  simp only [Act.put, List.setIfInBounds_toArray, List.set_cons_zero, List.set_cons_succ]
  refine late_take (i := 4) (some 16) rfl rfl (by kernel_rfl) (by kernel_rfl) (by kernel_rfl) (by kernel_rfl) (by kernel_rfl) (fun _ _ _ h => h) (by rfl) (v := ?v4c) ?hy4c hS ?rest4c
  case hy4c => intro w0 hSw; obtain ⟨a1, a2⟩ := hSw; go_simp; try with_reducible rfl
  simp only [Act.put, List.setIfInBounds_toArray, List.set_cons_zero, List.set_cons_succ]
  refine late_take (i := 5) (some 17) rfl rfl (by kernel_rfl) (by kernel_rfl) (by kernel_rfl) (by kernel_rfl) (by kernel_rfl) (fun _ _ _ h => h) (by rfl) (v := ?v5c) ?hy5c hS ?rest5c
  case hy5c => intro w0 hSw; obtain ⟨a1, a2⟩ := hSw; go_simp; try with_reducible rfl
  simp only [Act.put, List.setIfInBounds_toArray, List.set_cons_zero, List.set_cons_succ]
  refine late_take (i := 6) (some 18) rfl rfl (by kernel_rfl) (by kernel_rfl) (by kernel_rfl) (by kernel_rfl) (by kernel_rfl) (fun _ _ _ h => h) (by rfl) (v := ?v6c) ?hy6c hS ?rest6c
  case hy6c => intro w0 hSw; obtain ⟨a1, a2⟩ := hSw; go_simp; try with_reducible rfl
  simp only [Act.put, List.setIfInBounds_toArray, List.set_cons_zero, List.set_cons_succ]
  refine late_take (i := 7) (some 19) rfl rfl (by kernel_rfl) (by kernel_rfl) (by kernel_rfl) (by kernel_rfl) (by kernel_rfl) (fun _ _ _ h => h) (by rfl) (v := ?v7c) ?hy7c hS ?rest7c
  case hy7c => intro w0 hSw; obtain ⟨a1, a2⟩ := hSw; go_simp; try with_reducible rfl
  simp only [Act.put, List.setIfInBounds_toArray, List.set_cons_zero, List.set_cons_succ]
  refine late_take (i := 8) (some 20) rfl rfl (by kernel_rfl) (by kernel_rfl) (by kernel_rfl) (by kernel_rfl) (by kernel_rfl) (fun _ _ _ h => h) (by rfl) (v := ?v8c) ?hy8c hS ?rest8c
  case hy8c => intro w0 hSw; obtain ⟨a1, a2⟩ := hSw; go_simp; try with_reducible rfl
  simp only [Act.put, List.setIfInBounds_toArray, List.set_cons_zero, List.set_cons_succ]
  refine late_take (i := 9) (some 11) rfl rfl (by kernel_rfl) (by kernel_rfl) (by kernel_rfl) (by kernel_rfl) (by kernel_rfl) (fun _ _ _ h => h) (by rfl) (v := ?v9c) ?hy9c hS ?rest9c
  case hy9c => intro w0 hSw; obtain ⟨a1, a2⟩ := hSw; go_simp; try with_reducible rfl
  simp only [Act.put, List.setIfInBounds_toArray, List.set_cons_zero, List.set_cons_succ]
  refine late_done (by kernel_rfl) ?_ _
  refine NoPanic.normal ?_
  go_wp2_with (go_at_call 74; (with_reducible refine HSt.out.mono ?_); rintro e w1 ⟨b, rfl, hq⟩; obtain ⟨rfl, G, h2, h3, h4⟩ := hq.yes; clear hq; have H1 := hid h2; have O1 := hid (O0.out.trans h3 (fun _ h => .inl h)); have HG := hid (show ∀ k, G k → F k ∨ w.heap.size ≤ k from fun k hk => (h4 k hk).imp id (Nat.le_trans O0.out.size)); obtain ⟨fp, fc, y13⟩ := h2.fields; rw [HFl.out] at y13; clear h2 h3 h4)
  go_end0
  exact ⟨rfl, by rw [HV.out]; exact ⟨G, H1.out, O1.out, HG.out⟩⟩
theorem take_any {F : Nat → Prop} {w : World} {g : Nat} {s : PS} (h : RdAt F w g s) (c : UInt8) (htk : s.taken ≤ 70368744177600) (hst : s.st ≤ 10) (hlen : s.part.length ≤ 70368744177600) (hfl : s.fields.length ≤ 65) :
    Calls Tryz.prog 67 #[.pointer (some ⟨g, 0, none⟩), byteV c] w fun e w' => e = .returned (.tuple #[]) ∧ Turned F w g (takeP s c) w' := by
  by_cases hm : s.most < (s.taken : Int) + 1
  · exact take_size_any h c htk hm
  · cases hs : stepP { s with taken := s.taken + 1 } c with
    | none => exact take_none_any h c htk hst hlen hfl hm hs
    | some s' =>
      by_cases h64 : 64 < s'.fields.length
      · exact take_many_any h c htk hst hlen hfl hm hs h64
      · exact take_some_any h c htk hst hlen hfl hm hs h64
end Go.Proofs.YthakldcfpndabaaGreatDoor
