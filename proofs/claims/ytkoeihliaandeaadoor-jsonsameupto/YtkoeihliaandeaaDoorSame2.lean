/- JsonSame. -/
import Derived.Test.YtkoeihliaandeaaDoorRefS
import Derived.Test.YtkoeihliaandeaaDoorPrints
namespace Go.Proofs.YtkoeihliaandeaaDoor
open Go.RowKit

/-- The two boxes of the arguments. -/
structure Bx (U : World) (g : Nat) (o1 o2 : Obj) : Prop where
  x : U.heap[g]? = some o1
  y : U.heap[g + 1]? = some o2
theorem Bx.below {U V : World} {g : Nat} {o1 o2 : Obj} (h : Bx U g o1 o2) (hb : Below U.heap.size U V) : Bx V g o1 o2 := ⟨(hb.block g (lt_of_heap h.x)).trans h.x, (hb.block _ (lt_of_heap h.y)).trans h.y⟩
set_option maxRecDepth 20000 in
set_option maxHeartbeats 8000000 in
theorem jsame_any (t t1 : JV) (w : World) (cs ds : List Value) (hE : Env w) (hf : Fits t) (hf1 : Fits t1) (hv : ValOn w t cs) (hv1 : ValOn w t1 ds) :
    Calls Tryd.prog 4 #[.agg cs.toArray, .agg ds.toArray] w fun e w' => e = .returned (.bool true) ∧ Below w.heap.size w w' := by
  obtain ⟨k1, k2, k3, k4, k5, k6, k7, k8, k9, k10, k11, rfl⟩ := hv.form
  obtain ⟨m1, m2, m3, m4, m5, m6, m7, m8, m9, m10, m11, rfl⟩ := hv1.form
  have HE := hid hE
  have HF := hid (And.intro hf hf1)
  have HV := hid (And.intro hv hv1)
  have HT := hid (two_at (w := w) (o1 := (C7 k1 k2 k3 k4 k5 k6 k7 k8 k9 k10 k11)) (o2 := (C7 m1 m2 m3 m4 m5 m6 m7 m8 m9 m10 m11)) rfl)
  have HB0 := hid HT.out.2.2
  have HX0 := hid (Bx.mk HT.out.1 HT.out.2.1)
  have HSm := hid (sameV_refl t)
  obtain ⟨G, hG⟩ : ∃ G, sameV t t1 = G := ⟨_, rfl⟩
  have HG := hid hG
  clear hE hf hf1 hv hv1 hG
  go_enter Tryd.func4, Tryd.ntmps4
  go_wp2_with (first
    | (go_at_call 11; have hcall := small_any t _ _ HF.out.1 (HV.out.1.below HB0.out); (with_reducible refine hcall.mono ?_); clear hcall; rintro e w1 ⟨bb, rfl, hb⟩; have HB1 := hid (below_out HB0.out hb); have HX1 := hid (HX0.out.below hb); obtain ⟨f0, f1, f2, f3, f4, f5, f6, _⟩ := seven HX1.out.y; clear hb HX0; cases bb)
    | (go_at_call 11; have hcall := small_any t1 _ _ HF.out.2 (HV.out.2.below HB1.out); (with_reducible refine hcall.mono ?_); clear hcall; rintro e w2 ⟨bb, rfl, hb⟩; have HB2 := hid (below_out HB1.out hb); have HX2 := hid (HX1.out.below hb); clear hb HX1; cases bb)
    | (go_at_call 10; have hcall := works_any _ (HE.out.below HB2.out); (with_reducible refine hcall.mono ?_); clear hcall; rintro e wk ⟨rfl, hb⟩; have HBk := hid (below_out HB2.out hb); clear hb)
    | (go_at_call 10; have hcall := works_any _ (HE.out.below HB1.out); (with_reducible refine hcall.mono ?_); clear hcall; rintro e wk ⟨rfl, hb⟩; have HBk := hid (below_out HB1.out hb); clear hb))
  all_goals first
    | (go_ret; exact ⟨rfl, HBk.out⟩)
    | skip
  refine wp_region_noPanic ?_
  refine any_begin 16 (by kernel_rfl) (by kernel_rfl) ?_
  refine late_begin (fun U => Bx U w.heap.size _ _) (fun _ => false) (HX2.out.below (below_drew (Below.refl _ _) 1)) (fun hS => ?_)
  have HBV := hid (HB2.out.trans ((show Below w2.heap.size w2 w2.drew from below_drew (Below.refl _ _) 1).mono HB2.out.size))
  generalize w2.drew = V at hS HBV ⊢
  refine late_take (i := 0) (some 14) rfl rfl (by kernel_rfl) (by kernel_rfl) (by kernel_rfl) (by kernel_rfl) (by kernel_rfl) (fun _ _ _ h => h) (by rfl) (v := ?v0a) ?hy0a hS ?rest0a
  case hy0a => intro w0 hSw; obtain ⟨e0, e1, e2, e3, e4, e5, e6, _⟩ := seven hSw.x; obtain ⟨f0, f1, f2, f3, f4, f5, f6, _⟩ := seven hSw.y; go_simp; try with_reducible rfl
  simp only [Act.put, List.setIfInBounds_toArray, List.set_cons_zero, List.set_cons_succ]
  refine late_take (i := 1) (some 15) rfl rfl (by kernel_rfl) (by kernel_rfl) (by kernel_rfl) (by kernel_rfl) (by kernel_rfl) (fun _ _ _ h => h) (by rfl) (v := ?v1a) ?hy1a hS ?rest1a
  case hy1a => intro w0 hSw; obtain ⟨e0, e1, e2, e3, e4, e5, e6, _⟩ := seven hSw.x; obtain ⟨f0, f1, f2, f3, f4, f5, f6, _⟩ := seven hSw.y; go_simp; try with_reducible rfl
  simp only [Act.put, List.setIfInBounds_toArray, List.set_cons_zero, List.set_cons_succ]
  refine late_take (i := 3) (some 17) rfl rfl (by kernel_rfl) (by kernel_rfl) (by kernel_rfl) (by kernel_rfl) (by kernel_rfl) (fun _ _ _ h => h) (by rfl) (v := ?v3a) ?hy3a hS ?rest3a
  case hy3a => intro w0 hSw; obtain ⟨e0, e1, e2, e3, e4, e5, e6, _⟩ := seven hSw.x; obtain ⟨f0, f1, f2, f3, f4, f5, f6, _⟩ := seven hSw.y; go_simp; try with_reducible rfl
  simp only [Act.put, List.setIfInBounds_toArray, List.set_cons_zero, List.set_cons_succ]
  refine late_take (i := 4) (some 18) rfl rfl (by kernel_rfl) (by kernel_rfl) (by kernel_rfl) (by kernel_rfl) (by kernel_rfl) (fun _ _ _ h => h) (by rfl) (v := ?v4a) ?hy4a hS ?rest4a
  case hy4a => intro w0 hSw; obtain ⟨e0, e1, e2, e3, e4, e5, e6, _⟩ := seven hSw.x; obtain ⟨f0, f1, f2, f3, f4, f5, f6, _⟩ := seven hSw.y; go_simp; try with_reducible rfl
  simp only [Act.put, List.setIfInBounds_toArray, List.set_cons_zero, List.set_cons_succ]
  refine wpAnyD_one (i := 2) (by kernel_rfl) rfl (fun K hK => ?_)
  go_simp
  go_at_call 12
  refine (same_any t t1 V _ _ HF.out.1 HF.out.2 (HV.out.1.below HBV.out) (HV.out.2.below HBV.out)).mono ?_
  rintro e w3 ⟨rfl, hb⟩
  rw [HG.out]
  have HB3 := hid (below_out HBV.out hb)
  have hS5 := hS.below hb
  clear hb
  refine hK _ _ ⟨fun _ => hS5, ?_⟩
  clear hK K
  replace hS := hS5
  clear hS5
  refine wpAnyD_one (i := 5) (by kernel_rfl) rfl (fun K hK => ?_)
  go_simp
  go_at_call 13
  refine (rsame_any t t1 w3 _ _ HF.out.1 HF.out.2 (HV.out.1.below HB3.out) (HV.out.2.below HB3.out)).mono ?_
  rintro e w4 ⟨rfl, hb⟩
  rw [HG.out]
  have HB4 := hid (below_out HB3.out hb)
  have hS5 := hS.below hb
  clear hb
  refine hK _ _ ⟨fun _ => hS5, ?_⟩
  clear hK K
  replace hS := hS5
  clear hS5
  refine late_take (i := 6) (some 20) rfl rfl (by kernel_rfl) (by kernel_rfl) (by kernel_rfl) (by kernel_rfl) (by kernel_rfl) (fun _ _ _ h => h) (by rfl) (v := ?v6a) ?hy6a hS ?rest6a
  case hy6a => intro w0 hSw; obtain ⟨e0, e1, e2, e3, e4, e5, e6, _⟩ := seven hSw.x; obtain ⟨f0, f1, f2, f3, f4, f5, f6, _⟩ := seven hSw.y; go_simp; try with_reducible rfl
  simp only [Act.put, List.setIfInBounds_toArray, List.set_cons_zero, List.set_cons_succ]
  refine late_take (i := 7) (some 21) rfl rfl (by kernel_rfl) (by kernel_rfl) (by kernel_rfl) (by kernel_rfl) (by kernel_rfl) (fun _ _ _ h => h) (by rfl) (v := ?v7a) ?hy7a hS ?rest7a
  case hy7a => intro w0 hSw; obtain ⟨e0, e1, e2, e3, e4, e5, e6, _⟩ := seven hSw.x; obtain ⟨f0, f1, f2, f3, f4, f5, f6, _⟩ := seven hSw.y; go_simp; try with_reducible rfl
  simp only [Act.put, List.setIfInBounds_toArray, List.set_cons_zero, List.set_cons_succ]
  refine late_take (i := 8) (some 22) rfl rfl (by kernel_rfl) (by kernel_rfl) (by kernel_rfl) (by kernel_rfl) (by kernel_rfl) (fun _ _ _ h => h) (by rfl) (v := ?v8a) ?hy8a hS ?rest8a
  case hy8a => intro w0 hSw; obtain ⟨e0, e1, e2, e3, e4, e5, e6, _⟩ := seven hSw.x; obtain ⟨f0, f1, f2, f3, f4, f5, f6, _⟩ := seven hSw.y; go_simp; try with_reducible rfl
  simp only [Act.put, List.setIfInBounds_toArray, List.set_cons_zero, List.set_cons_succ]
  refine late_take (i := 9) (some 23) rfl rfl (by kernel_rfl) (by kernel_rfl) (by kernel_rfl) (by kernel_rfl) (by kernel_rfl) (fun _ _ _ h => h) (by rfl) (v := ?v9a) ?hy9a hS ?rest9a
  case hy9a => intro w0 hSw; obtain ⟨e0, e1, e2, e3, e4, e5, e6, _⟩ := seven hSw.x; obtain ⟨f0, f1, f2, f3, f4, f5, f6, _⟩ := seven hSw.y; go_simp; try with_reducible rfl
  simp only [Act.put, List.setIfInBounds_toArray, List.set_cons_zero, List.set_cons_succ]
  refine wpAnyD_one (i := 10) (by kernel_rfl) rfl (fun K hK => ?_)
  go_simp
  go_at_call 12
  refine (same_any t t w4 _ _ HF.out.1 HF.out.1 (HV.out.1.below HB4.out) (HV.out.1.below HB4.out)).mono ?_
  rintro e w5 ⟨rfl, hb⟩
  rw [HSm.out]
  have HB5 := hid (below_out HB4.out hb)
  have hS5 := hS.below hb
  clear hb
  refine hK _ _ ⟨fun _ => hS5, ?_⟩
  clear hK K
  replace hS := hS5
  clear hS5
  refine late_take (i := 11) (some 25) rfl rfl (by kernel_rfl) (by kernel_rfl) (by kernel_rfl) (by kernel_rfl) (by kernel_rfl) (fun _ _ _ h => h) (by rfl) (v := ?v11a) ?hy11a hS ?rest11a
  case hy11a => intro w0 hSw; obtain ⟨e0, e1, e2, e3, e4, e5, e6, _⟩ := seven hSw.x; obtain ⟨f0, f1, f2, f3, f4, f5, f6, _⟩ := seven hSw.y; go_simp; try with_reducible rfl
  simp only [Act.put, List.setIfInBounds_toArray, List.set_cons_zero, List.set_cons_succ]
  refine late_take (i := 12) (some 26) rfl rfl (by kernel_rfl) (by kernel_rfl) (by kernel_rfl) (by kernel_rfl) (by kernel_rfl) (fun _ _ _ h => h) (by rfl) (v := ?v12a) ?hy12a hS ?rest12a
  case hy12a => intro w0 hSw; obtain ⟨e0, e1, e2, e3, e4, e5, e6, _⟩ := seven hSw.x; obtain ⟨f0, f1, f2, f3, f4, f5, f6, _⟩ := seven hSw.y; go_simp; try with_reducible rfl
  simp only [Act.put, List.setIfInBounds_toArray, List.set_cons_zero, List.set_cons_succ]
  refine wpAnyD_one (i := 13) (by kernel_rfl) rfl (fun K hK => ?_)
  go_simp
  go_at_call 10
  refine (works_any w5 (HE.out.below HB5.out)).mono ?_
  rintro e w6 ⟨rfl, hb⟩
  have HB6 := hid (below_out HB5.out hb)
  have hS5 := hS.below hb
  clear hb
  refine hK _ _ ⟨fun _ => hS5, ?_⟩
  clear hK K
  replace hS := hS5
  clear hS5
  refine late_take (i := 14) (some 28) rfl rfl (by kernel_rfl) (by kernel_rfl) (by kernel_rfl) (by kernel_rfl) (by kernel_rfl) (fun _ _ _ h => h) (by rfl) (v := ?v14a) ?hy14a hS ?rest14a
  case hy14a => intro w0 hSw; obtain ⟨e0, e1, e2, e3, e4, e5, e6, _⟩ := seven hSw.x; obtain ⟨f0, f1, f2, f3, f4, f5, f6, _⟩ := seven hSw.y; go_simp; try with_reducible rfl
  simp only [Act.put, List.setIfInBounds_toArray, List.set_cons_zero, List.set_cons_succ]
  refine late_take (i := 15) (some 4) rfl rfl (by kernel_rfl) (by kernel_rfl) (by kernel_rfl) (by kernel_rfl) (by kernel_rfl) (fun _ _ _ h => h) (by rfl) (v := ?v15a) ?hy15a hS ?rest15a
  case hy15a => intro w0 hSw; obtain ⟨e0, e1, e2, e3, e4, e5, e6, _⟩ := seven hSw.x; obtain ⟨f0, f1, f2, f3, f4, f5, f6, _⟩ := seven hSw.y; go_simp; try with_reducible rfl
  simp only [Act.put, List.setIfInBounds_toArray, List.set_cons_zero, List.set_cons_succ]
  refine late_done (by kernel_rfl) ?_ _
  refine NoPanic.normal ?_
  clear hS
  go_wp2
  go_ret
  exact ⟨rfl, HB6.out⟩
end Go.Proofs.YtkoeihliaandeaaDoor
