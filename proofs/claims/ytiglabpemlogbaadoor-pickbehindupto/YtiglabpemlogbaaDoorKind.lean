/- The value at a path, and of a kind. -/
import Derived.Test.YtiglabpemlogbaaDoorFollow
namespace Go.Proofs.YtiglabpemlogbaaDoor
open Go.RowKit

theorem split_any (p : B) (hp : p.length ≤ 1048577) (w : World) (hE : Env w) : Calls Tryd.prog 27 #[.string (str p), .string ⟨#[46]⟩] w fun e w' => ∃ P c, e = .returned (.slice P (cutL p).length c) ∧ (cutL p).length ≤ c ∧ NamesOn w' (cutL p) P ∧ Below w.heap.size w w' := by
  obtain ⟨m, hm⟩ := hE.most
  have hs : (str p).size ≤ 1048577 := by rw [str_size]; exact hp
  refine (Tryd.strings_Split (str p) ⟨#[46]⟩ m w (by omega) hm (by decide)).mono ?_
  rintro e w' ⟨rfl, rfl⟩
  have hcut := split_cut _ (str p) rfl
  rw [show (str p).data.toList = p by simp] at hcut
  have hlen : (Lib.splitB point 0 (Lib.countB (str p) point) (str p)).length = Lib.countB (str p) point + 1 := Lib.splitB_all point (by decide) 0 _ (str p) rfl
  have hl2 : (cutL p).length = Lib.countB (str p) point + 1 := by rw [← hlen, ← hcut, List.length_map]
  refine ⟨some ⟨w.heap.size, 0, none⟩, Lib.countB (str p) point + 1, by rw [hl2]; rfl, by omega, fun j t hj => ⟨_, _, rfl, ?_⟩, below_new _ _⟩
  rw [World.cell?_alloc_new]
  rw [← hcut] at hj
  rw [List.getElem?_map] at hj
  cases hx : (Lib.splitB point 0 (Lib.countB (str p) point) (str p))[j]? with
  | none => rw [hx] at hj; simp at hj
  | some y =>
    rw [hx] at hj
    simp only [Option.map_some, Option.some.injEq] at hj
    have e : str t = y := by
      rw [← hj]
    have hx2 : (Lib.splitB ⟨#[46]⟩ 0 (Lib.countB (str p) ⟨#[46]⟩) (str p))[j]? = some y := hx
    simp [hx2, e]
/-- The box of the value, the box of the answer. -/
structure Fb (U : World) (g : Nat) (o : Obj) : Prop where
  x : U.heap[g]? = some o
  y : U.heap[g + 1]? = some (.cells #[.int .i64 0, .bool false, .string ⟨#[]⟩, .int .i64 0, .bool false, .slice none 0 0, .slice none 0 0] 25 (0, 0))
theorem Fb.below {U V : World} {g : Nat} {o : Obj} (h : Fb U g o) (hb : Below U.heap.size U V) : Fb V g o :=
  ⟨(hb.block g (lt_of_heap h.x)).trans h.x, (hb.block _ (lt_of_heap h.y)).trans h.y⟩
set_option maxRecDepth 20000 in
set_option maxHeartbeats 8000000 in
theorem find_any (t : JV) (p : B) (hp : p.length ≤ 1048577) (w : World) (N : Nat) (cs : List Value) (hN : N ≤ w.heap.size) (hf : Fits t) (hE : Env w) (hv : ValB w N t cs) : Calls Tryd.prog 17 #[.agg cs.toArray, .string (str p)] w fun e w' => ToldV N ((goto t (steps p)).getD JV.zero) (codeN (goto t (steps p))) w e w' := by
  obtain ⟨k1, k2, k3, k4, k5, k6, k7, k8, k9, k10, k11, rfl⟩ := hv.form
  by_cases h0 : p = []
  · subst h0
    have HV := hid hv
    clear hf hE hv hp
    go_enter Tryd.func17, Tryd.ntmps17
    go_wp2
    (try simp only [Exit.inBlock, Exit.then])
    refine bodyPost_ret (results_val2 rfl _ _ _ 25 _ (0, 0) rfl (two_at w _ _).2.1 rfl) rfl ?_
    exact ⟨_, rfl, HV.out.below ((two_at w _ _).2.2.mono hN), (two_at w _ _).2.2⟩
  · have hst : steps p = cutL p := by unfold steps; rw [if_neg h0]
    rw [hst]
    have hq : ¬ str p = ⟨#[]⟩ := str_ne (b := []) h0
    have HFo := hid (follow_any (cutL p) (fun z hz => by have := cutL_piece p z hz; omega) (by have := cutL_len p; omega))
    have HSp := hid (split_any p hp)
    obtain ⟨G, hG⟩ : ∃ G, goto t (cutL p) = G := ⟨_, rfl⟩
    have HG := hid hG
    rw [hG]
    obtain ⟨S, hS⟩ : ∃ S, str p = S := ⟨_, rfl⟩
    have HS := hid hS
    rw [hS] at hq ⊢
    have hq2 := ne_empty hq
    have HF := hid hf
    have HE := hid hE
    have HV := hid hv
    obtain ⟨W0, hW0⟩ : ∃ W0, W0 = ((w.alloc (C7 k1 k2 k3 k4 k5 k6 k7 k8 k9 k10 k11)).alloc (.cells #[.int .i64 0, .bool false, .string ⟨#[]⟩, .int .i64 0, .bool false, .slice none 0 0, .slice none 0 0] 25 (0, 0))) := ⟨_, rfl⟩
    have HB0 := hid (show Below w.heap.size w W0 from by rw [hW0]; exact (two_at w _ _).2.2)
    have HX0 := hid (show Fb W0 w.heap.size (C7 k1 k2 k3 k4 k5 k6 k7 k8 k9 k10 k11) from by rw [hW0]; exact ⟨(two_at w _ _).1, (two_at w _ _).2.1⟩)
    have HW0 := hid hW0
    clear hf hE hv hp h0 hst hG hS hW0
    go_enter Tryd.func17, Tryd.ntmps17
    go_wp2
    refine wp_region_noPanic ?_
    refine any_begin 8 (by kernel_rfl) (by kernel_rfl) ?_
    rw [← HW0.out]
    refine late_begin (fun U => Fb U w.heap.size (C7 k1 k2 k3 k4 k5 k6 k7 k8 k9 k10 k11)) (fun j => decide (6 ≤ j)) (HX0.out.below (below_drew (Below.refl _ _) 1)) (fun hS => ?_)
    have HBV := hid (HB0.out.trans ((show Below W0.heap.size W0 W0.drew from below_drew (Below.refl _ _) 1).mono HB0.out.size))
    generalize W0.drew = V at hS HBV ⊢
    refine late_take (i := 0) (some 9) rfl rfl (by kernel_rfl) (by kernel_rfl) (by kernel_rfl) (by kernel_rfl) (by kernel_rfl) (fun _ _ _ h => h) (by rfl) (v := ?v0a) ?hy0a hS ?rest0a
    case hy0a => intro w0 hSw; obtain ⟨e0, e1, e2, e3, e4, e5, e6, _⟩ := seven hSw.x; go_simp; try with_reducible rfl
    simp only [Act.put, List.setIfInBounds_toArray, List.set_cons_zero, List.set_cons_succ]
    refine late_take (i := 1) (some 10) rfl rfl (by kernel_rfl) (by kernel_rfl) (by kernel_rfl) (by kernel_rfl) (by kernel_rfl) (fun _ _ _ h => h) (by rfl) (v := ?v1a) ?hy1a hS ?rest1a
    case hy1a => intro w0 hSw; obtain ⟨e0, e1, e2, e3, e4, e5, e6, _⟩ := seven hSw.x; go_simp; try with_reducible rfl
    simp only [Act.put, List.setIfInBounds_toArray, List.set_cons_zero, List.set_cons_succ]
    refine wpAnyD_one (i := 2) (by kernel_rfl) rfl (fun K hK => ?_)
    go_simp
    go_at_call 27
    have hcall := HSp.out V (HE.out.below HBV.out)
    rw [HS.out] at hcall
    refine hcall.mono ?_
    clear hcall
    rintro e w1 ⟨P, c, rfl, hc, hn, hb⟩
    have HB1 := hid (below_out HBV.out hb)
    have HNm := hid hn
    have HC := hid hc
    have hS5 := hS.below hb
    clear hb hn hc
    refine hK _ _ ⟨fun _ => hS5, ?_⟩
    clear hK K
    replace hS := hS5
    clear hS5
    refine wpAnyD_one (i := 3) (by kernel_rfl) rfl (fun K hK => ?_)
    go_simp
    go_at_call 26
    have hcall := HFo.out t w1 N _ P c (Nat.le_trans hN HB1.out.size) HF.out (HE.out.below HB1.out) (HV.out.below (HB1.out.mono hN)) HNm.out HC.out
    rw [HG.out] at hcall
    refine hcall.mono ?_
    clear hcall
    rintro e w2 ⟨cs2, rfl, hv2, hb⟩
    have HB2 := hid (below_out HB1.out hb)
    have hS5 := hS.below hb
    have HV2 := hid hv2
    obtain ⟨u1, u2, u3, u4, u5, u6, u7, u8, u9, u10, u11, rfl⟩ := hv2.form
    clear hb hv2
    refine hK _ _ ⟨fun _ => hS5, ?_⟩
    clear hK K
    replace hS := hS5
    clear hS5
    refine late_take (i := 4) (some 13) rfl rfl (by kernel_rfl) (by kernel_rfl) (by kernel_rfl) (by kernel_rfl) (by kernel_rfl) (fun _ _ _ h => h) (by rfl) (v := ?v4a) ?hy4a hS ?rest4a
    case hy4a => intro w0 hSw; obtain ⟨e0, e1, e2, e3, e4, e5, e6, _⟩ := seven hSw.x; go_simp; try with_reducible rfl
    simp only [Act.put, List.setIfInBounds_toArray, List.set_cons_zero, List.set_cons_succ]
    refine late_take (i := 5) (some 14) rfl rfl (by kernel_rfl) (by kernel_rfl) (by kernel_rfl) (by kernel_rfl) (by kernel_rfl) (fun _ _ _ h => h) (by rfl) (v := ?v5a) ?hy5a hS ?rest5a
    case hy5a => intro w0 hSw; obtain ⟨e0, e1, e2, e3, e4, e5, e6, _⟩ := seven hSw.x; go_simp; try with_reducible rfl
    simp only [Act.put, List.setIfInBounds_toArray, List.set_cons_zero, List.set_cons_succ]
    have HSe := hid hS
    obtain ⟨v0, v1, v2, v3, v4, v5, v6, vz⟩ := seven hS.y; have vz0 := vz 0; have vz1 := vz 1; have vz2 := vz 2; have vz3 := vz 3; have vz4 := vz 4; have vz5 := vz 5; have vz6 := vz 6; clear vz
    clear hS
    refine late_over (by kernel_rfl) ?_
    refine any_one (i := 6) (by kernel_rfl) rfl (fun K hK => ?_)
    go_simp
    refine hK _ _ ?_
    clear hK K
    refine any_take (i := 7) (some 5) rfl rfl (by kernel_rfl) (by kernel_rfl) (by kernel_rfl) (fun _ _ _ h => h) (by rfl) (v := ?v7a) ?hy7a ?rest7a
    case hy7a => intro w0; go_simp; try with_reducible rfl
    simp only [Act.put, List.setIfInBounds_toArray, List.set_cons_zero, List.set_cons_succ]
    refine any_done (by kernel_rfl) ?_ _
    refine NoPanic.normal ?_
    go_wp2
    (try simp only [Exit.inBlock, Exit.then])
    refine bodyPost_ret (results_val2 rfl _ _ _ 25 _ (0, 0) rfl (seven_put (has_seven HSe.out.y) _ _ _ _ _ _ _) rfl) rfl ?_
    exact ⟨_, rfl, HV2.out.below (below_sevenN (Below.refl N w2) (Nat.le_trans hN (Nat.le_succ _)) _ _ _ _ _ _ _), below_seven HB2.out (Nat.le_succ _) _ _ _ _ _ _ _⟩
end Go.Proofs.YtiglabpemlogbaaDoor
