/- The program's reader of chunked bodies: trailers' lines, and the next state. -/
import Derived.Test.YtnlmjlfoeodleaaGreatDoorKNext
namespace Go.Proofs.YtnlmjlfoeodleaaGreatDoor
open Go.RowKit

set_option maxRecDepth 20000 in
set_option maxHeartbeats 8000000 in
theorem text_eq {F : Nat → Prop} {w : World} {g : Nat} {s : KS} (h : RdAt F w g s) : Calls Tryz.prog 162 #[.pointer (some ⟨g, 0, none⟩)] w fun e w' => e = .returned (.string (str s.part)) ∧ w' = w.setCell ⟨g, 9, none⟩ (.slice none 0 0) := by
  obtain ⟨t, p, hr, hf⟩ := h
  obtain ⟨pp, pn, pc, rfl⟩ := own_slice3 hr.part
  have hcv := conv_own hr.part
  have hb := hr.blk
  unfold kdCells at hb
  obtain ⟨_, _, _, _, _, _, _, _, _, k9, kz⟩ := cells10 hb
  have z9 := kz 9
  obtain ⟨S, hS⟩ : ∃ S, str s.part = S := ⟨_, rfl⟩
  rw [hS] at hcv ⊢
  clear hr hf hb kz hS
  go_enter Tryz.func162, Tryz.ntmps162
  go_wp2
  go_ret
  exact ⟨rfl, rfl⟩
theorem Rd.noPart {w : World} {g : Nat} {s : KS} {t p : Value} (hr : Rd w g s t p) : Rd (w.setCell ⟨g, 9, none⟩ (.slice none 0 0)) g { s with part := [] } t (.slice none 0 0) := by
  have hb := hr.blk
  unfold kdCells at hb
  refine ⟨?_, hr.trs.at_set hr.blk, Own.nil _ _⟩
  rw [set10_9 hb]
  unfold kdCells
  rfl
theorem Foot.noPart {F : Nat → Prop} {g : Nat} {t p : Value} (h : Foot F g t p) : Foot F g t (.slice none 0 0) := ⟨h.g, h.t, fun k e => by simp [Value.ownBlock] at e⟩
set_option maxRecDepth 20000 in
set_option maxHeartbeats 8000000 in
theorem first_a {F : Nat → Prop} {w : World} {g : Nat} {s : KS} (h : RdAt F w g s) (c : UInt8) (hc : c = 13) : Calls Tryz.prog 148 #[.pointer (some ⟨g, 0, none⟩), byteV c] w (NextT F w g (ofFirstK s c)) := by
  have HV := hid (show ofFirstK s c = (s, 10) from by unfold ofFirstK; rw [if_pos hc])
  rw [HV.out]
  unfold byteV
  have H := hid h
  obtain ⟨t, p, hr, hf⟩ := h
  obtain ⟨tp, tn, tc, rfl⟩ := own_slice3 hr.trs
  have htn : s.tr.length = tn := sliceF_len hr.trs
  have hb := hr.blk
  unfold kdCells at hb
  obtain ⟨_, _, _, _, _, _, k6, _, k8, _, kz⟩ := cells10 hb
  have z8 := kz 8
  have h : RdAt F w g s := H.out
  have hcz : (c.toNat : Int) = 13 := by rw [hc]; rfl
  rw [hcz]
  clear h hc hr hf hb kz htn
  go_enter Tryz.func148, Tryz.ntmps148
  go_wp2
  go_ret
  exact ⟨rfl, Turned.same H.out⟩
set_option maxRecDepth 20000 in
set_option maxHeartbeats 8000000 in
theorem first_b {F : Nat → Prop} {w : World} {g : Nat} {s : KS} (h : RdAt F w g s) (c : UInt8) (hc : c ≠ 13) (ht : s.tr.length = 64) : Calls Tryz.prog 148 #[.pointer (some ⟨g, 0, none⟩), byteV c] w (NextT F w g (ofFirstK s c)) := by
  have HV := hid (show ofFirstK s c = (s, 12) from by unfold ofFirstK; rw [if_neg hc, if_pos ht])
  rw [HV.out]
  unfold byteV
  have H := hid h
  obtain ⟨t, p, hr, hf⟩ := h
  obtain ⟨tp, tn, tc, rfl⟩ := own_slice3 hr.trs
  have htn : s.tr.length = tn := sliceF_len hr.trs
  have hb := hr.blk
  unfold kdCells at hb
  obtain ⟨_, _, _, _, _, _, k6, _, k8, _, kz⟩ := cells10 hb
  have z8 := kz 8
  have h : RdAt F w g s := H.out
  have f1 : ((c.toNat : Int) == 13) = false := c_ne (toNat_ne hc)
  obtain rfl : tn = 64 := by omega
  clear h hc hr hf hb kz htn ht
  go_enter Tryz.func148, Tryz.ntmps148
  go_wp2
  go_ret
  exact ⟨rfl, Turned.same H.out⟩
set_option maxRecDepth 20000 in
set_option maxHeartbeats 8000000 in
theorem first_c {F : Nat → Prop} {w : World} {g : Nat} {s : KS} (h : RdAt F w g s) (c : UInt8) (hlen : s.part.length ≤ 8193) (hc : c ≠ 13) (ht : s.tr.length ≠ 64) : Calls Tryz.prog 148 #[.pointer (some ⟨g, 0, none⟩), byteV c] w (NextT F w g (ofFirstK s c)) := by
  have HV := hid (show ofFirstK s c = addK s c (tokU c) 7 from by unfold ofFirstK; rw [if_neg hc, if_neg ht])
  rw [HV.out]
  unfold byteV
  have H := hid h
  obtain ⟨t, p, hr, hf⟩ := h
  obtain ⟨tp, tn, tc, rfl⟩ := own_slice3 hr.trs
  have htn : s.tr.length = tn := sliceF_len hr.trs
  have hb := hr.blk
  unfold kdCells at hb
  obtain ⟨_, _, _, _, _, _, k6, _, k8, _, kz⟩ := cells10 hb
  have z8 := kz 8
  have h : RdAt F w g s := H.out
  have f1 : ((c.toNat : Int) == 13) = false := c_ne (toNat_ne hc)
  have f2 : ((tn : Int) == 64) = false := i_ne (b := 64) (by omega)
  have HA := hid (add_any h c (tokU c) 7 hlen)
  have HT := hid (tokc_any c w)
  unfold byteV at HA HT
  obtain ⟨m, hm⟩ : ∃ m, tokU c = m := ⟨_, rfl⟩
  rw [hm] at HA HT ⊢
  rw [show ((7 : Nat) : Int) = 7 from rfl] at HA
  clear h hlen hc hr hf hb kz htn ht hm
  go_enter Tryz.func148, Tryz.ntmps148
  go_wp2_with (first | (go_at_call 120; (with_reducible refine HT.out.mono ?_); rintro e w1 ⟨rfl, hw1⟩; subst w1) | (go_at_call 161; (with_reducible refine HA.out.mono ?_); rintro e w2 ⟨rfl, hq⟩; have HQ := hid hq; clear hq))
  go_ret
  exact ⟨rfl, HQ.out⟩
theorem ofFirst_any {F : Nat → Prop} {w : World} {g : Nat} {s : KS} (h : RdAt F w g s) (c : UInt8) (hlen : s.part.length ≤ 8193) : Calls Tryz.prog 148 #[.pointer (some ⟨g, 0, none⟩), byteV c] w (NextT F w g (ofFirstK s c)) := by
  by_cases hc : c = 13
  · exact first_a h c hc
  · by_cases ht : s.tr.length = 64
    · exact first_b h c hc ht
    · exact first_c h c hlen hc ht
set_option maxRecDepth 20000 in
set_option maxHeartbeats 8000000 in
theorem name_a {F : Nat → Prop} {w : World} {g : Nat} {s : KS} (h : RdAt F w g s) (c : UInt8) (hc : c = 58) : Calls Tryz.prog 149 #[.pointer (some ⟨g, 0, none⟩), byteV c] w (NextT F w g (ofNameK s c)) := by
  have HV := hid (show ofNameK s c = ({ s with name := s.part, part := [] }, 8) from by unfold ofNameK; rw [if_pos hc])
  rw [HV.out]
  unfold byteV
  have H := hid h
  obtain ⟨t, p, hr, hf⟩ := h
  obtain ⟨tp, tn, tc, rfl⟩ := own_slice3 hr.trs
  have htn : s.tr.length = tn := sliceF_len hr.trs
  have hb := hr.blk
  unfold kdCells at hb
  obtain ⟨_, _, _, _, _, _, k6, _, k8, _, kz⟩ := cells10 hb
  have z8 := kz 8
  have h : RdAt F w g s := H.out
  have HX := hid (text_eq h)
  have HR := hid (show RdAt F (w.setCell ⟨g, 9, none⟩ (.slice none 0 0)) g { s with part := [] } from ⟨_, _, hr.noPart, hf.noPart⟩)
  have HO := hid ((Only.refl F w).set (j := 9) hf.g (.slice none 0 0))
  obtain ⟨S, hS⟩ : ∃ S, str s.part = S := ⟨_, rfl⟩
  have HS := hid hS
  rw [hS] at HX
  have hcz : (c.toNat : Int) = 58 := by rw [hc]; rfl
  rw [hcz]
  clear h hc hr hf hb kz htn hS
  go_enter Tryz.func149, Tryz.ntmps149
  obtain ⟨W1, hW1⟩ : ∃ W1, W1 = w.setCell ⟨g, 9, none⟩ (.slice none 0 0) := ⟨_, rfl⟩
  rw [← hW1] at HX HR HO
  clear hW1
  obtain ⟨t2, p2, hc2⟩ := HR.out.cells
  have x8 := hc2.a8
  have y8 := hc2.z 8
  clear hc2 k6 k8 z8
  go_wp2_with (go_at_call 162; (with_reducible refine HX.out.mono ?_); rintro e w1 ⟨rfl, hw1⟩; subst w1)
  go_ret
  obtain ⟨r1, o1⟩ := HR.out.put (s' := { s with name := s.part, part := [] }) 8 (.string S) (fun t p => by unfold kdCells; rw [← HS.out]; simp) rfl rfl
  exact ⟨rfl, F, r1, HO.out.trans o1 (fun _ h => .inl h), fun _ h => .inl h⟩
set_option maxRecDepth 20000 in
set_option maxHeartbeats 8000000 in
theorem name_b {F : Nat → Prop} {w : World} {g : Nat} {s : KS} (h : RdAt F w g s) (c : UInt8) (hlen : s.part.length ≤ 8193) (hc : c ≠ 58) : Calls Tryz.prog 149 #[.pointer (some ⟨g, 0, none⟩), byteV c] w (NextT F w g (ofNameK s c)) := by
  have HV := hid (show ofNameK s c = addK s c (tokU c) 7 from by unfold ofNameK; rw [if_neg hc])
  rw [HV.out]
  unfold byteV
  have f1 : ((c.toNat : Int) == 58) = false := c_ne (toNat_ne hc)
  have HA := hid (add_any h c (tokU c) 7 hlen)
  have HT := hid (tokc_any c w)
  unfold byteV at HA HT
  obtain ⟨m, hm⟩ : ∃ m, tokU c = m := ⟨_, rfl⟩
  rw [hm] at HA HT ⊢
  rw [show ((7 : Nat) : Int) = 7 from rfl] at HA
  clear h hlen hc hm
  go_enter Tryz.func149, Tryz.ntmps149
  go_wp2_with (first | (go_at_call 120; (with_reducible refine HT.out.mono ?_); rintro e w1 ⟨rfl, hw1⟩; subst w1) | (go_at_call 161; (with_reducible refine HA.out.mono ?_); rintro e w2 ⟨rfl, hq⟩; have HQ := hid hq; clear hq))
  go_ret
  exact ⟨rfl, HQ.out⟩
theorem ofName_any {F : Nat → Prop} {w : World} {g : Nat} {s : KS} (h : RdAt F w g s) (c : UInt8) (hlen : s.part.length ≤ 8193) : Calls Tryz.prog 149 #[.pointer (some ⟨g, 0, none⟩), byteV c] w (NextT F w g (ofNameK s c)) := by
  by_cases hc : c = 58
  · exact name_a h c hc
  · exact name_b h c hlen hc
set_option maxRecDepth 20000 in
set_option maxHeartbeats 8000000 in
theorem val_a {F : Nat → Prop} {w : World} {g : Nat} {s : KS} (h : RdAt F w g s) (c : UInt8) (hc : c = 13) : Calls Tryz.prog 150 #[.pointer (some ⟨g, 0, none⟩), byteV c] w (NextT F w g (ofValueK s c)) := by
  have HV := hid (show ofValueK s c = (s, 9) from by unfold ofValueK; rw [if_pos hc])
  rw [HV.out]
  unfold byteV
  have H := hid h
  have hcz : (c.toNat : Int) = 13 := by rw [hc]; rfl
  rw [hcz]
  clear h hc
  go_enter Tryz.func150, Tryz.ntmps150
  go_wp2
  go_ret
  exact ⟨rfl, Turned.same H.out⟩
set_option maxRecDepth 20000 in
set_option maxHeartbeats 8000000 in
theorem val_b {F : Nat → Prop} {w : World} {g : Nat} {s : KS} (h : RdAt F w g s) (c : UInt8) (hlen : s.part.length ≤ 8193) (hc : c ≠ 13) : Calls Tryz.prog 150 #[.pointer (some ⟨g, 0, none⟩), byteV c] w (NextT F w g (ofValueK s c)) := by
  have HV := hid (show ofValueK s c = addK s c (valU c) 8 from by unfold ofValueK; rw [if_neg hc])
  rw [HV.out]
  unfold byteV
  have f1 : ((c.toNat : Int) == 13) = false := c_ne (toNat_ne hc)
  have HA := hid (add_any h c (valU c) 8 hlen)
  have HT := hid (valc_any c w)
  unfold byteV at HA HT
  obtain ⟨m, hm⟩ : ∃ m, valU c = m := ⟨_, rfl⟩
  rw [hm] at HA HT ⊢
  rw [show ((8 : Nat) : Int) = 8 from rfl] at HA
  clear h hlen hc hm
  go_enter Tryz.func150, Tryz.ntmps150
  go_wp2_with (first | (go_at_call 101; (with_reducible refine HT.out.mono ?_); rintro e w1 ⟨rfl, hw1⟩; subst w1) | (go_at_call 161; (with_reducible refine HA.out.mono ?_); rintro e w2 ⟨rfl, hq⟩; have HQ := hid hq; clear hq))
  go_ret
  exact ⟨rfl, HQ.out⟩
theorem ofValue_any {F : Nat → Prop} {w : World} {g : Nat} {s : KS} (h : RdAt F w g s) (c : UInt8) (hlen : s.part.length ≤ 8193) : Calls Tryz.prog 150 #[.pointer (some ⟨g, 0, none⟩), byteV c] w (NextT F w g (ofValueK s c)) := by
  by_cases hc : c = 13
  · exact val_a h c hc
  · exact val_b h c hlen hc
set_option maxRecDepth 20000 in
set_option maxHeartbeats 8000000 in
theorem le_a {F : Nat → Prop} {w : World} {g : Nat} {s : KS} (h : RdAt F w g s) (c : UInt8) (hc : c ≠ 10) : Calls Tryz.prog 151 #[.pointer (some ⟨g, 0, none⟩), byteV c] w (NextT F w g (ofLineEndK s c)) := by
  have HV := hid (show ofLineEndK s c = (s, 12) from by unfold ofLineEndK; rw [if_neg hc])
  rw [HV.out]
  unfold byteV
  have H := hid h
  have f1 : ((c.toNat : Int) != 10) = true := c_neq (toNat_ne hc)
  clear h hc
  go_enter Tryz.func151, Tryz.ntmps151
  go_wp2
  go_ret
  exact ⟨rfl, Turned.same H.out⟩
theorem two_cells {V : World} {g : Nat} {a b : Value} {T : TypeId} (h : V.heap[g]? = some (.cells #[a, b] T (0, 0))) : ∀ j u, [a, b][j]? = some u → V.cell? ((⟨g, 0, none⟩ : Addr).add j) = some u := by
  intro j u hj
  rw [add_off]
  simp only [World.cell?, h]
  simpa using hj
structure RdE (U : World) (g : Nat) (c6 c8 : Value) : Prop where
  a6 : U.cell? ⟨g, 6, none⟩ = some c6
  a8 : U.cell? ⟨g, 8, none⟩ = some c8
theorem RdE.below {U V : World} {g : Nat} {c6 c8 : Value} (h : RdE U g c6 c8) (hb : Below U.heap.size U V) : RdE V g c6 c8 := ⟨cell_keep hb h.a6, cell_keep hb h.a8⟩
set_option maxRecDepth 20000 in
set_option maxHeartbeats 8000000 in
theorem le_b {F : Nat → Prop} {w : World} {g : Nat} {s : KS} (h : RdAt F w g s) (hlen : s.part.length ≤ 8193) (htr : s.tr.length ≤ 64) : Calls Tryz.prog 151 #[.pointer (some ⟨g, 0, none⟩), .int .u8 10] w fun e w' => e = .returned (.int .i64 6) ∧ Turned F w g { s with tr := s.tr ++ [(s.name, trimL s.part)], part := [] } w' := by
  have H := hid h
  obtain ⟨t, p, hr, hf⟩ := h
  obtain ⟨tp, tn, tc, rfl⟩ := own_slice3 hr.trs
  have htn : s.tr.length = tn := sliceF_len hr.trs
  have HTn := hid htn
  have hl : tn ≤ 64 := by omega
  have HF := hid hf
  have hrd : Rd w.drew g s (.slice tp tn tc) p := hr.next ((Below.refl _ _).drew)
  have hX := text_eq (show RdAt F w.drew g s from ⟨_, _, hrd, hf⟩)
  have hR1 := hrd.noPart
  have hO1 := (Only.refl F w).drew.set (j := 9) hf.g (.slice none 0 0)
  obtain ⟨W1, hW1⟩ : ∃ W1, W1 = w.drew.setCell ⟨g, 9, none⟩ (.slice none 0 0) := ⟨_, rfl⟩
  rw [← hW1] at hX hR1 hO1
  obtain ⟨S, hS⟩ : ∃ S, str s.part = S := ⟨_, rfl⟩
  have HS := hid hS
  have HSz := hid (show S.size ≤ 281474976710656 from by rw [← hS, str_size]; omega)
  rw [hS] at hX
  have HX := hid hX
  have HR1 := hid hR1
  have HO1 := hid hO1
  obtain ⟨Nm, hNm⟩ : ∃ Nm, str s.name = Nm := ⟨_, rfl⟩
  have HNm := hid hNm
  have hb := hr.blk
  unfold kdCells at hb
  rw [hNm] at hb
  obtain ⟨_, _, _, _, _, _, k6, _, k8, _, kz⟩ := cells10 hb
  have hE : RdE w.drew g (.slice tp tn tc) (.string Nm) := ⟨k6, k8⟩
  have hbb := hR1.blk
  unfold kdCells at hbb
  dsimp only at hbb
  rw [hNm] at hbb
  have HS1 := hid (show RdE W1 g (.slice tp tn tc) (.string Nm) from ⟨(cells10 hbb).a6, (cells10 hbb).a8⟩)
  have HW1 := hid hW1
  clear hr hf hb hbb hrd hX hR1 hO1 kz htn hS hNm hlen htr k6 k8 hW1
  go_enter Tryz.func151, Tryz.ntmps151
  go_wp2
  refine wp_region_noPanic ?_
  refine any_begin 18 (by kernel_rfl) (by kernel_rfl) ?_
  refine late_begin (fun U => RdE U g (.slice tp tn tc) (.string Nm)) (fun j => decide (15 ≤ j)) hE (fun hS => ?_)
  refine late_take (i := 0) (some 7) rfl rfl (by kernel_rfl) (by kernel_rfl) (by kernel_rfl) (by kernel_rfl) (by kernel_rfl) (fun _ _ _ h => h) (by rfl) (v := ?v0e) ?hy0e hS ?rest0e
  case hy0e => intro w0 hSw; obtain ⟨a6, a8⟩ := hSw; go_simp; try with_reducible rfl
  simp only [Act.put, List.setIfInBounds_toArray, List.set_cons_zero, List.set_cons_succ]
  refine late_take (i := 1) (some 8) rfl rfl (by kernel_rfl) (by kernel_rfl) (by kernel_rfl) (by kernel_rfl) (by kernel_rfl) (fun _ _ _ h => h) (by rfl) (v := ?v1e) ?hy1e hS ?rest1e
  case hy1e => intro w0 hSw; obtain ⟨a6, a8⟩ := hSw; go_simp; try with_reducible rfl
  simp only [Act.put, List.setIfInBounds_toArray, List.set_cons_zero, List.set_cons_succ]
  refine late_take (i := 2) (some 9) rfl rfl (by kernel_rfl) (by kernel_rfl) (by kernel_rfl) (by kernel_rfl) (by kernel_rfl) (fun _ _ _ h => h) (by rfl) (v := ?v2e) ?hy2e hS ?rest2e
  case hy2e => intro w0 hSw; obtain ⟨a6, a8⟩ := hSw; go_simp; try with_reducible rfl
  simp only [Act.put, List.setIfInBounds_toArray, List.set_cons_zero, List.set_cons_succ]
  refine late_take (i := 3) (some 10) rfl rfl (by kernel_rfl) (by kernel_rfl) (by kernel_rfl) (by kernel_rfl) (by kernel_rfl) (fun _ _ _ h => h) (by rfl) (v := ?v3e) ?hy3e hS ?rest3e
  case hy3e => intro w0 hSw; obtain ⟨a6, a8⟩ := hSw; go_simp; try with_reducible rfl
  simp only [Act.put, List.setIfInBounds_toArray, List.set_cons_zero, List.set_cons_succ]
  refine late_take (i := 4) (some 11) rfl rfl (by kernel_rfl) (by kernel_rfl) (by kernel_rfl) (by kernel_rfl) (by kernel_rfl) (fun _ _ _ h => h) (by rfl) (v := ?v4e) ?hy4e hS ?rest4e
  case hy4e => intro w0 hSw; obtain ⟨a6, a8⟩ := hSw; go_simp; try with_reducible rfl
  simp only [Act.put, List.setIfInBounds_toArray, List.set_cons_zero, List.set_cons_succ]
  refine late_take (i := 5) (some 12) rfl rfl (by kernel_rfl) (by kernel_rfl) (by kernel_rfl) (by kernel_rfl) (by kernel_rfl) (fun _ _ _ h => h) (by rfl) (v := ?v5e) ?hy5e hS ?rest5e
  case hy5e => intro w0 hSw; obtain ⟨a6, a8⟩ := hSw; go_simp; try with_reducible rfl
  simp only [Act.put, List.setIfInBounds_toArray, List.set_cons_zero, List.set_cons_succ]
  refine late_take (i := 6) (some 13) rfl rfl (by kernel_rfl) (by kernel_rfl) (by kernel_rfl) (by kernel_rfl) (by kernel_rfl) (fun _ _ _ h => h) (by rfl) (v := ?v6e) ?hy6e hS ?rest6e
  case hy6e => intro w0 hSw; obtain ⟨a6, a8⟩ := hSw; go_simp; try with_reducible rfl
  simp only [Act.put, List.setIfInBounds_toArray, List.set_cons_zero, List.set_cons_succ]
  refine late_take (i := 7) (some 14) rfl rfl (by kernel_rfl) (by kernel_rfl) (by kernel_rfl) (by kernel_rfl) (by kernel_rfl) (fun _ _ _ h => h) (by rfl) (v := ?v7e) ?hy7e hS ?rest7e
  case hy7e => intro w0 hSw; obtain ⟨a6, a8⟩ := hSw; go_simp; try with_reducible rfl
  simp only [Act.put, List.setIfInBounds_toArray, List.set_cons_zero, List.set_cons_succ]
  refine late_take (i := 8) (some 15) rfl rfl (by kernel_rfl) (by kernel_rfl) (by kernel_rfl) (by kernel_rfl) (by kernel_rfl) (fun _ _ _ h => h) (by rfl) (v := ?v8e) ?hy8e hS ?rest8e
  case hy8e => intro w0 hSw; obtain ⟨a6, a8⟩ := hSw; go_simp; try with_reducible rfl
  simp only [Act.put, List.setIfInBounds_toArray, List.set_cons_zero, List.set_cons_succ]
  refine late_take (i := 9) (some 16) rfl rfl (by kernel_rfl) (by kernel_rfl) (by kernel_rfl) (by kernel_rfl) (by kernel_rfl) (fun _ _ _ h => h) (by rfl) (v := ?v9e) ?hy9e hS ?rest9e
  case hy9e => intro w0 hSw; obtain ⟨a6, a8⟩ := hSw; go_simp; try with_reducible rfl
  simp only [Act.put, List.setIfInBounds_toArray, List.set_cons_zero, List.set_cons_succ]
  refine wpAnyD_one (i := 10) (by kernel_rfl) rfl (fun K hK => ?_)
  go_simp
  go_at_call 162
  refine HX.out.mono ?_
  rintro e w1 ⟨rfl, hw1⟩
  subst w1
  refine hK _ _ ⟨fun _ => HS1.out, ?_⟩
  clear hK K hS
  have hS := HS1.out
  try simp only [Act.put, List.setIfInBounds_toArray, List.set_cons_zero, List.set_cons_succ]
  refine wpAnyD_one (i := 11) (by kernel_rfl) rfl (fun K hK => ?_)
  go_simp
  go_at_call 137
  refine (trim_any S W1 HSz.out).mono ?_
  rintro e W2 ⟨rfl, hb2⟩
  have HB2 := hid hb2
  have hS2 : RdE W2 g (.slice tp tn tc) (.string Nm) := ⟨cell_keep hb2 hS.a6, cell_keep hb2 hS.a8⟩
  refine hK _ _ ⟨fun _ => hS2, ?_⟩
  clear hK K hS hb2
  try simp only [Act.put, List.setIfInBounds_toArray, List.set_cons_zero, List.set_cons_succ]
  obtain ⟨V6, hV6⟩ : ∃ V6, trimS S = V6 := ⟨_, rfl⟩
  rw [hV6]
  have HV6 := hid hV6
  clear hV6
  refine late_take (i := 12) (some 19) rfl rfl (by kernel_rfl) (by kernel_rfl) (by kernel_rfl) (by kernel_rfl) (by kernel_rfl) (fun _ _ _ h => h) (by rfl) (v := ?v12e) ?hy12e hS2 ?rest12e
  case hy12e => intro w0 hSw; obtain ⟨a6, a8⟩ := hSw; go_simp; try with_reducible rfl
  simp only [Act.put, List.setIfInBounds_toArray, List.set_cons_zero, List.set_cons_succ]
  refine wpAnyD_one (i := 13) (by kernel_rfl) rfl (fun K hK => ?_)
  go_simp
  refine hK _ _ ⟨fun _ => hS2.below (below_new _ _), ?_⟩
  clear hK K hS2
  obtain ⟨V, hV⟩ : ∃ V, V = W2.alloc (.cells #[.string Nm, .string V6] 88 (0, 0)) := ⟨_, rfl⟩
  try rw [← hV]
  have HV2 := hid (show Below W2.heap.size W2 V ∧ V.heap[W2.heap.size]? = some (.cells #[.string Nm, .string V6] 88 (0, 0)) ∧ V.heap.size = W2.heap.size + 1 from by rw [hV]; exact ⟨(Below.refl _ _).alloc (Nat.le_refl _) _, heap_alloc_new W2 _, by simp⟩)
  clear hV
  have HRV := hid ((HR1.out.next HB2.out).next HV2.out.1)
  have HOV := hid (show Only F w V from (HO1.out.trans (Only.of_below (F := F) HB2.out) (fun _ h => .inl h)).trans (Only.of_below (F := F) HV2.out.1) (fun _ h => .inl h))
  refine wpAnyD_one (i := 14) (by kernel_rfl) rfl (fun K hK => ?_)
  rw [if_pos (by rfl)]
  obtain ⟨i0, hi0, hz0, hz1, hz2⟩ := info_parts infoF
  refine wp_append_own_at (.tmp 11) (.tmp 20) 33 rfl 0 88 i0 _ 2 32 Tryz.underlying33 hi0 hz0 hz1 hz2 rfl (by decide) (.slice tp tn tc) tn (fldC s.tr) (by go_simp) (by have := HRV.out.trs; unfold OwnF at this; dsimp only at this; rw [HTn.out] at this; exact this) ⟨W2.heap.size, 0, none⟩ 1 1 [.string Nm, .string V6] (by go_simp) rfl (two_cells HV2.out.2.1) (by simp [Value.oneCell']) (by unfold maxLen; omega) (by omega) (Nat.zero_le _) ?_
  intro v' U hown hgr hloc
  have HG := hid hgr
  have HK := hid hloc
  have HO := hid (show OwnF U 0 v' (s.tr ++ [(s.name, trimL s.part)]) from OwnF.put (f := (s.name, trimL s.part)) (by rw [HTn.out]; dsimp only; rw [HNm.out, show str (trimL s.part) = V6 from by rw [← HV6.out, ← HS.out]; unfold trimS; simp]; exact hown))
  obtain ⟨p7, c7, rfl⟩ := own_slice hown
  have HRg := hid (HRV.out.grownF hgr)
  have hb1 := HRg.out.1
  unfold kdCells at hb1
  have HB1 := hid hb1
  obtain ⟨_, _, _, _, _, _, y6, _, y8, _, yz⟩ := cells10 hb1
  have yz6 := yz 6
  clear hown hgr hloc hb1 yz
  show K (Act.put _ (some 21) _) _
  refine hK _ _ ⟨fun _ => ⟨y6, by rw [← HNm.out]; exact y8⟩, ?_⟩
  clear hK K
  simp only [Act.put, List.setIfInBounds_toArray, List.set_cons_zero, List.set_cons_succ]
  refine late_over (by kernel_rfl) ?_
  refine any_take (i := 15) (some 22) rfl rfl (by kernel_rfl) (by kernel_rfl) (by kernel_rfl) (fun _ _ _ h => h) (by rfl) (v := ?v15e) ?hy15e ?rest15e
  case hy15e => intro w0; go_simp; try with_reducible rfl
  simp only [Act.put, List.setIfInBounds_toArray, List.set_cons_zero, List.set_cons_succ]
  refine any_take (i := 16) (some 23) rfl rfl (by kernel_rfl) (by kernel_rfl) (by kernel_rfl) (fun _ _ _ h => h) (by rfl) (v := ?v16e) ?hy16e ?rest16e
  case hy16e => intro w0; go_simp; try with_reducible rfl
  simp only [Act.put, List.setIfInBounds_toArray, List.set_cons_zero, List.set_cons_succ]
  refine any_one (i := 17) (by kernel_rfl) rfl (fun K hK => ?_)
  go_simp
  refine hK _ _ ?_
  clear hK K
  refine any_done (by kernel_rfl) ?_ _
  refine NoPanic.normal ?_
  go_wp2
  go_ret
  have hog := Only.grown (F := F) HG.out (fun k e => HF.out.t k e)
  have hW1s : w.heap.size = W1.heap.size := by rw [HW1.out, size_set]; rfl
  have hW2s := HB2.out.size
  refine ⟨rfl, fun k => F k ∨ k = W2.heap.size + 1, ⟨.slice p7 (tn + 1) c7, .slice none 0 0, ⟨?_, HO.out.at_set HB1.out, Own.nil _ _⟩, .inl HF.out.g, fun k e => ?_, fun k e => by simp [Value.ownBlock] at e⟩, (HOV.out.trans hog (fun _ h => .inl h)).set HF.out.g _, fun k h => ?_⟩
  · rw [set10_6 HB1.out]
    unfold kdCells
    rfl
  · rcases HK.out with e2 | e2
    · exact .inl (HF.out.t k (by rw [← e2]; exact e))
    · right
      rw [e2, HV2.out.2.2] at e
      exact (Option.some.inj e).symm
  · rcases h with h | h
    · exact .inl h
    · right; omega
theorem ofLineEnd_any {F : Nat → Prop} {w : World} {g : Nat} {s : KS} (h : RdAt F w g s) (c : UInt8) (hlen : s.part.length ≤ 8193) (htr : s.tr.length ≤ 64) : Calls Tryz.prog 151 #[.pointer (some ⟨g, 0, none⟩), byteV c] w (NextT F w g (ofLineEndK s c)) := by
  by_cases hc : c = 10
  · subst hc
    refine (le_b h hlen htr).mono ?_
    rintro e w' ⟨rfl, h2⟩
    exact ⟨rfl, h2⟩
  · exact le_a h c hc
set_option maxRecDepth 20000 in
set_option maxHeartbeats 8000000 in
theorem next_0 {F : Nat → Prop} {w : World} {g : Nat} {s : KS} (h : RdAt F w g s) (hi : InvK s) (c : UInt8) (e : s.st = 0) : Calls Tryz.prog 131 #[.pointer (some ⟨g, 0, none⟩), byteV c] w (NextT F w g (nextK s c)) := by
  have HC := hid (ofSize_any h c (hi.c0 e).2)
  have HV := hid (show nextK s c = ofSizeK s c from by unfold nextK; simp only [e])
  rw [HV.out]
  obtain ⟨t, p, hc⟩ := h.cells
  have k3 := hc.a3
  rw [e] at k3
  unfold byteV at HC ⊢
  clear hc h hi e
  go_enter Tryz.func131, Tryz.ntmps131
  go_wp2_with (go_at_call 144; (with_reducible refine HC.out.mono ?_); rintro e w2 ⟨rfl, hq⟩; have HQ := hid hq; clear hq)
  go_ret
  exact ⟨rfl, HQ.out⟩
set_option maxRecDepth 20000 in
set_option maxHeartbeats 8000000 in
theorem next_1 {F : Nat → Prop} {w : World} {g : Nat} {s : KS} (h : RdAt F w g s) (c : UInt8) (e : s.st = 1) : Calls Tryz.prog 131 #[.pointer (some ⟨g, 0, none⟩), byteV c] w (NextT F w g (nextK s c)) := by
  have HC := hid (ofExt_any h c)
  have HV := hid (show nextK s c = ofExtK s c from by unfold nextK; simp only [e])
  rw [HV.out]
  obtain ⟨t, p, hc⟩ := h.cells
  have k3 := hc.a3
  rw [e] at k3
  unfold byteV at HC ⊢
  clear hc h e
  go_enter Tryz.func131, Tryz.ntmps131
  go_wp2_with (go_at_call 145; (with_reducible refine HC.out.mono ?_); rintro e w2 ⟨rfl, hq⟩; have HQ := hid hq; clear hq)
  go_ret
  exact ⟨rfl, HQ.out⟩
set_option maxRecDepth 20000 in
set_option maxHeartbeats 8000000 in
theorem next_2 {F : Nat → Prop} {w : World} {g : Nat} {s : KS} (h : RdAt F w g s) (c : UInt8) (e : s.st = 2) : Calls Tryz.prog 131 #[.pointer (some ⟨g, 0, none⟩), byteV c] w (NextT F w g (nextK s c)) := by
  have HC := hid (ofSizeEnd_any h c)
  have HV := hid (show nextK s c = ofSizeEndK s c from by unfold nextK; simp only [e])
  rw [HV.out]
  obtain ⟨t, p, hc⟩ := h.cells
  have k3 := hc.a3
  rw [e] at k3
  unfold byteV at HC ⊢
  clear hc h e
  go_enter Tryz.func131, Tryz.ntmps131
  go_wp2_with (go_at_call 146; (with_reducible refine HC.out.mono ?_); rintro e w2 ⟨rfl, hq⟩; have HQ := hid hq; clear hq)
  go_ret
  exact ⟨rfl, HQ.out⟩
set_option maxRecDepth 20000 in
set_option maxHeartbeats 8000000 in
theorem next_4 {F : Nat → Prop} {w : World} {g : Nat} {s : KS} (h : RdAt F w g s) (c : UInt8) (e : s.st = 4) : Calls Tryz.prog 131 #[.pointer (some ⟨g, 0, none⟩), byteV c] w (NextT F w g (nextK s c)) := by
  have HC := hid (only_any 13 c 5 w)
  have HV := hid (show nextK s c = (s, onlyK 13 c 5) from by unfold nextK; simp only [e])
  rw [HV.out]
  have H := hid h
  obtain ⟨t, p, hc⟩ := h.cells
  have k3 := hc.a3
  rw [e] at k3
  unfold byteV at HC ⊢
  rw [show ((13 : UInt8).toNat : Int) = 13 from rfl, show ((5 : Nat) : Int) = 5 from rfl] at HC
  obtain ⟨n, hn⟩ : ∃ n, onlyK 13 c 5 = n := ⟨_, rfl⟩
  rw [hn] at HC ⊢
  clear hc h e hn
  go_enter Tryz.func131, Tryz.ntmps131
  go_wp2_with (go_at_call 147; (with_reducible refine HC.out.mono ?_); rintro e w2 ⟨rfl, hw2⟩; subst w2)
  go_ret
  exact ⟨rfl, Turned.same H.out⟩
set_option maxRecDepth 20000 in
set_option maxHeartbeats 8000000 in
theorem next_5 {F : Nat → Prop} {w : World} {g : Nat} {s : KS} (h : RdAt F w g s) (c : UInt8) (e : s.st = 5) : Calls Tryz.prog 131 #[.pointer (some ⟨g, 0, none⟩), byteV c] w (NextT F w g (nextK s c)) := by
  have HC := hid (only_any 10 c 0 w)
  have HV := hid (show nextK s c = (s, onlyK 10 c 0) from by unfold nextK; simp only [e])
  rw [HV.out]
  have H := hid h
  obtain ⟨t, p, hc⟩ := h.cells
  have k3 := hc.a3
  rw [e] at k3
  unfold byteV at HC ⊢
  rw [show ((10 : UInt8).toNat : Int) = 10 from rfl, show ((0 : Nat) : Int) = 0 from rfl] at HC
  obtain ⟨n, hn⟩ : ∃ n, onlyK 10 c 0 = n := ⟨_, rfl⟩
  rw [hn] at HC ⊢
  clear hc h e hn
  go_enter Tryz.func131, Tryz.ntmps131
  go_wp2_with (go_at_call 147; (with_reducible refine HC.out.mono ?_); rintro e w2 ⟨rfl, hw2⟩; subst w2)
  go_ret
  exact ⟨rfl, Turned.same H.out⟩
set_option maxRecDepth 20000 in
set_option maxHeartbeats 8000000 in
theorem next_6 {F : Nat → Prop} {w : World} {g : Nat} {s : KS} (h : RdAt F w g s) (hi : InvK s) (c : UInt8) (e : s.st = 6) : Calls Tryz.prog 131 #[.pointer (some ⟨g, 0, none⟩), byteV c] w (NextT F w g (nextK s c)) := by
  have HC := hid (ofFirst_any h c (own_part_le hi))
  have HV := hid (show nextK s c = ofFirstK s c from by unfold nextK; simp only [e])
  rw [HV.out]
  obtain ⟨t, p, hc⟩ := h.cells
  have k3 := hc.a3
  rw [e] at k3
  unfold byteV at HC ⊢
  clear hc h hi e
  go_enter Tryz.func131, Tryz.ntmps131
  go_wp2_with (go_at_call 148; (with_reducible refine HC.out.mono ?_); rintro e w2 ⟨rfl, hq⟩; have HQ := hid hq; clear hq)
  go_ret
  exact ⟨rfl, HQ.out⟩
set_option maxRecDepth 20000 in
set_option maxHeartbeats 8000000 in
theorem next_7 {F : Nat → Prop} {w : World} {g : Nat} {s : KS} (h : RdAt F w g s) (hi : InvK s) (c : UInt8) (e : s.st = 7) : Calls Tryz.prog 131 #[.pointer (some ⟨g, 0, none⟩), byteV c] w (NextT F w g (nextK s c)) := by
  have HC := hid (ofName_any h c (own_part_le hi))
  have HV := hid (show nextK s c = ofNameK s c from by unfold nextK; simp only [e])
  rw [HV.out]
  obtain ⟨t, p, hc⟩ := h.cells
  have k3 := hc.a3
  rw [e] at k3
  unfold byteV at HC ⊢
  clear hc h hi e
  go_enter Tryz.func131, Tryz.ntmps131
  go_wp2_with (go_at_call 149; (with_reducible refine HC.out.mono ?_); rintro e w2 ⟨rfl, hq⟩; have HQ := hid hq; clear hq)
  go_ret
  exact ⟨rfl, HQ.out⟩
set_option maxRecDepth 20000 in
set_option maxHeartbeats 8000000 in
theorem next_8 {F : Nat → Prop} {w : World} {g : Nat} {s : KS} (h : RdAt F w g s) (hi : InvK s) (c : UInt8) (e : s.st = 8) : Calls Tryz.prog 131 #[.pointer (some ⟨g, 0, none⟩), byteV c] w (NextT F w g (nextK s c)) := by
  have HC := hid (ofValue_any h c (own_part_le hi))
  have HV := hid (show nextK s c = ofValueK s c from by unfold nextK; simp only [e])
  rw [HV.out]
  obtain ⟨t, p, hc⟩ := h.cells
  have k3 := hc.a3
  rw [e] at k3
  unfold byteV at HC ⊢
  clear hc h hi e
  go_enter Tryz.func131, Tryz.ntmps131
  go_wp2_with (go_at_call 150; (with_reducible refine HC.out.mono ?_); rintro e w2 ⟨rfl, hq⟩; have HQ := hid hq; clear hq)
  go_ret
  exact ⟨rfl, HQ.out⟩
set_option maxRecDepth 20000 in
set_option maxHeartbeats 8000000 in
theorem next_9 {F : Nat → Prop} {w : World} {g : Nat} {s : KS} (h : RdAt F w g s) (hi : InvK s) (c : UInt8) (e : s.st = 9) : Calls Tryz.prog 131 #[.pointer (some ⟨g, 0, none⟩), byteV c] w (NextT F w g (nextK s c)) := by
  have HC := hid (ofLineEnd_any h c (own_part_le hi) hi.tr)
  have HV := hid (show nextK s c = ofLineEndK s c from by unfold nextK; simp only [e])
  rw [HV.out]
  obtain ⟨t, p, hc⟩ := h.cells
  have k3 := hc.a3
  rw [e] at k3
  unfold byteV at HC ⊢
  clear hc h hi e
  go_enter Tryz.func131, Tryz.ntmps131
  go_wp2_with (go_at_call 151; (with_reducible refine HC.out.mono ?_); rintro e w2 ⟨rfl, hq⟩; have HQ := hid hq; clear hq)
  go_ret
  exact ⟨rfl, HQ.out⟩
set_option maxRecDepth 20000 in
set_option maxHeartbeats 8000000 in
theorem next_10 {F : Nat → Prop} {w : World} {g : Nat} {s : KS} (h : RdAt F w g s) (c : UInt8) (e : s.st = 10) : Calls Tryz.prog 131 #[.pointer (some ⟨g, 0, none⟩), byteV c] w (NextT F w g (nextK s c)) := by
  have HC := hid (only_any 10 c 11 w)
  have HV := hid (show nextK s c = (s, onlyK 10 c 11) from by unfold nextK; simp only [e])
  rw [HV.out]
  have H := hid h
  obtain ⟨t, p, hc⟩ := h.cells
  have k3 := hc.a3
  rw [e] at k3
  unfold byteV at HC ⊢
  rw [show ((10 : UInt8).toNat : Int) = 10 from rfl, show ((11 : Nat) : Int) = 11 from rfl] at HC
  obtain ⟨n, hn⟩ : ∃ n, onlyK 10 c 11 = n := ⟨_, rfl⟩
  rw [hn] at HC ⊢
  clear hc h e hn
  go_enter Tryz.func131, Tryz.ntmps131
  go_wp2_with (go_at_call 147; (with_reducible refine HC.out.mono ?_); rintro e w2 ⟨rfl, hw2⟩; subst w2)
  go_ret
  exact ⟨rfl, Turned.same H.out⟩
theorem next_any {F : Nat → Prop} {w : World} {g : Nat} {s : KS} (h : RdAt F w g s) (hi : InvK s) (c : UInt8) (h3 : s.st ≠ 3) (h11 : s.st ≠ 11) : Calls Tryz.prog 131 #[.pointer (some ⟨g, 0, none⟩), byteV c] w (NextT F w g (nextK s c)) := by
  have := hi.st
  have hst : s.st = 0 ∨ s.st = 1 ∨ s.st = 2 ∨ s.st = 4 ∨ s.st = 5 ∨ s.st = 6 ∨ s.st = 7 ∨ s.st = 8 ∨ s.st = 9 ∨ s.st = 10 := by omega
  rcases hst with e | e | e | e | e | e | e | e | e | e
  · exact next_0 h hi c e
  · exact next_1 h c e
  · exact next_2 h c e
  · exact next_4 h c e
  · exact next_5 h c e
  · exact next_6 h hi c e
  · exact next_7 h hi c e
  · exact next_8 h hi c e
  · exact next_9 h hi c e
  · exact next_10 h c e
end Go.Proofs.YtnlmjlfoeodleaaGreatDoor
