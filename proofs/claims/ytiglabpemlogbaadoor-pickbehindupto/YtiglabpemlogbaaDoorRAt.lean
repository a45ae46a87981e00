/- The document's value at a path, and of a kind. -/
import Derived.Test.YtiglabpemlogbaaDoorRPlace
import Derived.Test.YtiglabpemlogbaaDoorOnly
namespace Go.Proofs.YtiglabpemlogbaaDoor
open Go.RowKit

theorem names_set {W : World} {g : Nat} {ns : List B} {p : Option Addr} (h : NamesOn W ns p) (hg : ∀ a, p = some a → a.block ≠ g) (c0 c1 c2 c3 c4 c5 c6 : Value) : NamesOn (((((((W.setCell ⟨g, 0, none⟩ c0).setCell ⟨g, 1, none⟩ c1).setCell ⟨g, 2, none⟩ c2).setCell ⟨g, 3, none⟩ c3).setCell ⟨g, 4, none⟩ c4).setCell ⟨g, 5, none⟩ c5).setCell ⟨g, 6, none⟩ c6) ns p := by
  intro j t hj
  obtain ⟨b, o, e, hc⟩ := h j t hj
  refine ⟨b, o, e, ?_⟩
  have hne : b ≠ g := hg _ e
  rw [cell_block (seven_other hne c0 c1 c2 c3 c4 c5 c6)]
  exact hc
theorem fb_set {W : World} {g : Nat} {o : Obj} (h : Fb W g o) (hs : ∃ cs : Array Value, cs.size = 7 ∧ o = .cells cs 25 (0, 0)) (c0 c1 c2 c3 c4 c5 c6 : Value) : Fb (((((((W.setCell ⟨g, 0, none⟩ c0).setCell ⟨g, 1, none⟩ c1).setCell ⟨g, 2, none⟩ c2).setCell ⟨g, 3, none⟩ c3).setCell ⟨g, 4, none⟩ c4).setCell ⟨g, 5, none⟩ c5).setCell ⟨g, 6, none⟩ c6) g (.cells #[c0, c1, c2, c3, c4, c5, c6] 25 (0, 0)) := by
  obtain ⟨cs, h7, rfl⟩ := hs
  exact ⟨seven_put ⟨cs, h7, h.x⟩ _ _ _ _ _ _ _, (seven_other (by omega) _ _ _ _ _ _ _).trans h.y⟩
theorem toldR_zero {w W : World} {N g : Nat} (hb : Below w.heap.size w W) (hg : w.heap.size ≤ g) : ToldR N JV.zero 8 w (.returned (.tuple #[.agg #[.int .i64 0, .bool false, .string ⟨#[]⟩, .int .i64 0, .bool false, .slice none 0 0, .slice none 0 0], .int .i64 8])) (((((((W.setCell ⟨g, 0, none⟩ (.int .i64 0)).setCell ⟨g, 1, none⟩ (.bool false)).setCell ⟨g, 2, none⟩ (.string ⟨#[]⟩)).setCell ⟨g, 3, none⟩ (.int .i64 0)).setCell ⟨g, 4, none⟩ (.bool false)).setCell ⟨g, 5, none⟩ (.slice none 0 0)).setCell ⟨g, 6, none⟩ (.slice none 0 0)) :=
  ⟨_, rfl, zero_b _ _, below_seven hb hg _ _ _ _ _ _ _⟩
set_option maxRecDepth 20000 in
set_option maxHeartbeats 8000000 in
theorem rat_any (t : JV) (p : B) (hp : p.length ≤ 1048577) (w : World) (N : Nat) (cs : List Value) (hN : N ≤ w.heap.size) (hf : Fits t) (hv : ValB w N t cs) : Calls Tryd.prog 24 #[.agg cs.toArray, .string (str p)] w fun e w' => ToldR N ((goto t (steps p)).getD JV.zero) (codeN (goto t (steps p))) w e w' := by
  obtain ⟨k1, k2, k3, k4, k5, k6, k7, k8, k9, k10, k11, rfl⟩ := hv.form
  have HSt := hid (rsteps_any p hp)
  have HPc := hid (show ∀ z ∈ steps p, z.length ≤ 1048577 from fun z hz => by
    unfold steps at hz
    split at hz
    · simp at hz
    · have := cutL_piece p z hz
      omega)
  have hsl : (steps p).length ≤ 1048578 := by
    unfold steps
    split
    · simp
    · have := cutL_len p
      omega
  obtain ⟨G, hG⟩ : ∃ G, goto t (steps p) = G := ⟨_, rfl⟩
  rw [hG]
  have HG := hid hG
  obtain ⟨ss, hss⟩ : ∃ ss, steps p = ss := ⟨_, rfl⟩
  rw [hss] at HSt HG HPc hsl
  obtain ⟨n, hn⟩ : ∃ n, ss.length = n := ⟨_, rfl⟩
  rw [hn] at HSt hsl
  have HLn := hid hn
  obtain ⟨S, hS⟩ : ∃ S, str p = S := ⟨_, rfl⟩
  rw [hS] at HSt ⊢
  have HF := hid hf
  have HV := hid hv
  have HN := hid hN
  obtain ⟨W0, hW0⟩ : ∃ W0, W0 = ((w.alloc (C7 k1 k2 k3 k4 k5 k6 k7 k8 k9 k10 k11)).alloc (.cells #[.int .i64 0, .bool false, .string ⟨#[]⟩, .int .i64 0, .bool false, .slice none 0 0, .slice none 0 0] 25 (0, 0))) := ⟨_, rfl⟩
  have HB0 := hid (show Below w.heap.size w W0 from by rw [hW0]; exact (two_at w _ _).2.2)
  have HX0 := hid (show Fb W0 w.heap.size (C7 k1 k2 k3 k4 k5 k6 k7 k8 k9 k10 k11) from by rw [hW0]; exact ⟨(two_at w _ _).1, (two_at w _ _).2.1⟩)
  have HW0 := hid hW0
  clear hf hv hp hG hS hW0 hN hss hn
  go_enter Tryd.func24, Tryd.ntmps24
  go_wp2_with (go_at_call 34; rw [← HW0.out]; (with_reducible refine (HSt.out W0).mono ?_); rintro e w1 ⟨sq, sc, rfl, hnm, hge, hb⟩; have HB1 := hid (below_out HB0.out hb); have HX1 := hid (HX0.out.below hb); have HNm1 := hid hnm; have HGe := hid (show ∀ a, sq = some a → a.block ≠ w.heap.size from fun a e => by have := hge a e; have := lt_of_heap HX0.out.x; omega); clear hb hnm hge)
  go_loopg [7] (n + 1) (fun gk s7 wr => ∃ (i : Nat) (x : JV) (q1 : Int) (q2 : Bool) (q3 : B) (q4 : Int) (q5 : Bool) (q6 : Option Addr) (q7 q8 : Nat) (q9 : Option Addr) (q10 q11 : Nat), i ≤ n ∧ gk = n - i + 1 ∧ s7 = .int .i64 (i : Int) ∧ ValB wr N x [.int .i64 q1, .bool q2, .string (str q3), .int .i64 q4, .bool q5, .slice q6 q7 q8, .slice q9 q10 q11] ∧ Fits x ∧ goto x (ss.drop i) = G ∧ Fb wr w.heap.size (C7 q1 q2 q3 q4 q5 q6 q7 q8 q9 q10 q11) ∧ NamesOn wr ss sq ∧ Below w.heap.size w wr)
  case atStart => exact ⟨0, t, k1, k2, k3, k4, k5, k6, k7, k8, k9, k10, k11, by omega, rfl, rfl, HV.out.below (HB1.out.mono HN.out), HF.out, HG.out, HX1.out, HNm1.out, HB1.out⟩
  case round =>
    obtain ⟨i, x, q1, q2, q3, q4, q5, q6, q7, q8, q9, q10, q11, hi, rfl, rfl, hvx, hfx, hgx, hfb, hnm, hb⟩ := hrel
    have HVx := hid hvx
    have HFx := hid hfx
    have HGx := hid hgx
    have HFb := hid hfb
    have HNm := hid hnm
    have HB := hid hb
    by_cases hin : i < n
    · have hi1 : i < ss.length := by rw [HLn.out]; exact hin
      obtain ⟨sg, so, rfl, hsc⟩ := hnm i ss[i] (List.getElem?_eq_getElem hi1)
      have HDr := hid (show ss.drop i = ss[i] :: ss.drop (i + 1) from drop_get hi1)
      have HSl := hid (HPc.out ss[i] (List.getElem_mem hi1))
      obtain ⟨s, hs⟩ : ∃ s, ss[i] = s := ⟨_, rfl⟩
      rw [hs] at hsc HDr HSl
      rw [HDr.out] at HGx
      obtain ⟨xk, xb, xt, xn, xh, xl, xs⟩ := x
      obtain ⟨pp1, pc1, pp2, pc2, hcs, hparts, _⟩ := hvx.open
      simp only [List.cons.injEq, Value.int.injEq, Value.bool.injEq, Value.string.injEq, Value.slice.injEq, true_and, and_true] at hcs
      obtain ⟨rfl, rfl, hq3, rfl, rfl, ⟨rfl, rfl, rfl⟩, ⟨rfl, rfl, rfl⟩⟩ := hcs
      obtain rfl : q3 = xt := str_inj hq3
      have HPx := hid hparts
      have HStp := hid (rstep_any (.mk q1 q2 q3 q4 q5 xl xs) s HSl.out)
      have HFl := hid (fits_parts hfx)
      have hxl : xl.length ≤ 1048576 := by simp only [Fits] at hfx; unfold maxI at hfx; exact hfx.2.1
      clear hvx hfx hgx hfb hnm hb hparts hq3 hs hi1
      cases hpl : placeN (.mk q1 q2 q3 q4 q5 xl xs) s with
      | none =>
        have HPl := hid hpl
        have HGn := hid (show G = none from by rw [← HGx.out]; exact goto_none hpl)
        clear hpl
        go_wp2
        refine wp_region_noPanic ?_
        refine any_begin 7 (by kernel_rfl) (by kernel_rfl) ?_
        refine late_begin (fun U => Fo U w.heap.size (C7 q1 q2 q3 q4 q5 q6 xl.length q8 q9 xs.length q11) sg (so + i) (str s)) (fun _ => false) ((Fo.mk HFb.out.x HFb.out.y hsc).below (below_drew (Below.refl _ _) 1)) (fun hS => ?_)
        have hbd := (show Below wr.heap.size wr wr.drew from below_drew (Below.refl _ _) 1)
        have HBV := hid (HB.out.trans (hbd.mono HB.out.size))
        have HVv := hid (HVx.out.below (hbd.mono (Nat.le_trans HN.out HB.out.size)))
        have HNv := hid (HNm.out.below hbd)
        have HPv := hid (HPx.out.below (hbd.mono (Nat.le_trans HN.out HB.out.size)))
        clear hbd
        generalize wr.drew = V at hS ⊢ HBV HVv HNv HPv
        refine late_take (i := 0) (some 17) rfl rfl (by kernel_rfl) (by kernel_rfl) (by kernel_rfl) (by kernel_rfl) (by kernel_rfl) (fun _ _ _ h => h) (by rfl) (v := ?v0a) ?hy0a hS ?rest0a
        case hy0a => intro w0 hSw; obtain ⟨e0, e1, e2, e3, e4, e5, e6, _⟩ := seven hSw.x; have hs0 := hSw.s; go_simp; try with_reducible rfl
        simp only [Act.put, List.setIfInBounds_toArray, List.set_cons_zero, List.set_cons_succ]
        refine late_take (i := 1) (some 18) rfl rfl (by kernel_rfl) (by kernel_rfl) (by kernel_rfl) (by kernel_rfl) (by kernel_rfl) (fun _ _ _ h => h) (by rfl) (v := ?v1a) ?hy1a hS ?rest1a
        case hy1a => intro w0 hSw; obtain ⟨e0, e1, e2, e3, e4, e5, e6, _⟩ := seven hSw.x; have hs0 := hSw.s; go_simp; try with_reducible rfl
        simp only [Act.put, List.setIfInBounds_toArray, List.set_cons_zero, List.set_cons_succ]
        refine late_take (i := 2) (some 19) rfl rfl (by kernel_rfl) (by kernel_rfl) (by kernel_rfl) (by kernel_rfl) (by kernel_rfl) (fun _ _ _ h => h) (by rfl) (v := ?v2a) ?hy2a hS ?rest2a
        case hy2a => intro w0 hSw; obtain ⟨e0, e1, e2, e3, e4, e5, e6, _⟩ := seven hSw.x; have hs0 := hSw.s; go_simp; try with_reducible rfl
        simp only [Act.put, List.setIfInBounds_toArray, List.set_cons_zero, List.set_cons_succ]
        refine late_take (i := 3) (some 20) rfl rfl (by kernel_rfl) (by kernel_rfl) (by kernel_rfl) (by kernel_rfl) (by kernel_rfl) (fun _ _ _ h => h) (by rfl) (v := ?v3a) ?hy3a hS ?rest3a
        case hy3a => intro w0 hSw; obtain ⟨e0, e1, e2, e3, e4, e5, e6, _⟩ := seven hSw.x; have hs0 := hSw.s; go_simp; try with_reducible rfl
        simp only [Act.put, List.setIfInBounds_toArray, List.set_cons_zero, List.set_cons_succ]
        refine late_take (i := 4) (some 21) rfl rfl (by kernel_rfl) (by kernel_rfl) (by kernel_rfl) (by kernel_rfl) (by kernel_rfl) (fun _ _ _ h => h) (by rfl) (v := ?v4a) ?hy4a hS ?rest4a
        case hy4a => intro w0 hSw; obtain ⟨e0, e1, e2, e3, e4, e5, e6, _⟩ := seven hSw.x; have hs0 := hSw.s; go_simp; try with_reducible rfl
        simp only [Act.put, List.setIfInBounds_toArray, List.set_cons_zero, List.set_cons_succ]
        refine wpAnyD_one (i := 5) (by kernel_rfl) rfl (fun K hK => ?_)
        go_simp
        go_at_call 35
        have hcall := HStp.out V _ HFx.out (HVv.out.on (Nat.le_trans HN.out HBV.out.size))
        rw [HPl.out] at hcall
        refine hcall.mono ?_
        clear hcall
        rintro e w2 ⟨rfl, hb⟩
        have HB2 := hid (below_out HBV.out hb)
        have HV2 := hid (HVv.out.below (hb.mono (Nat.le_trans HN.out HBV.out.size)))
        have HN2 := hid (HNv.out.below hb)
        have HP2 := hid (HPv.out.below (hb.mono (Nat.le_trans HN.out HBV.out.size)))
        have hS5 := hS.below hb
        clear hb
        refine hK _ _ ⟨fun _ => hS5, ?_⟩
        clear hK K
        replace hS := hS5
        clear hS5
        refine late_take (i := 6) (some 8) rfl rfl (by kernel_rfl) (by kernel_rfl) (by kernel_rfl) (by kernel_rfl) (by kernel_rfl) (fun _ _ _ h => h) (by rfl) (v := ?v6a) ?hy6a hS ?rest6a
        case hy6a => intro w0 hSw; obtain ⟨e0, e1, e2, e3, e4, e5, e6, _⟩ := seven hSw.x; have hs0 := hSw.s; go_simp; try with_reducible rfl
        simp only [Act.put, List.setIfInBounds_toArray, List.set_cons_zero, List.set_cons_succ]
        refine late_done (by kernel_rfl) ?_ _
        refine NoPanic.normal ?_
        have HS2 := hid hS
        obtain ⟨x0, x1, x2, x3, x4, x5, x6, xz⟩ := seven hS.x; have xz0 := xz 0; have xz1 := xz 1; have xz2 := xz 2; have xz3 := xz 3; have xz4 := xz 4; have xz5 := xz 5; have xz6 := xz 6; clear xz
        obtain ⟨y0, y1, y2, y3, y4, y5, y6, yz⟩ := seven hS.y; have yz0 := yz 0; have yz1 := yz 1; have yz2 := yz 2; have yz3 := yz 3; have yz4 := yz 4; have yz5 := yz 5; have yz6 := yz 6; clear yz
        clear hS
        rw [show plZ (none : Option Nat) = -1 from rfl]
        go_wp2
        (try simp only [Exit.inBlock, Exit.then])
        refine bodyPost_ret (results_val2 rfl _ _ _ 25 _ (0, 0) rfl (seven_put (has_seven HS2.out.y) _ _ _ _ _ _ _) rfl) rfl ?_
        rw [HGn.out]
        exact toldR_zero HB2.out (Nat.le_succ _)
      | some j =>
        have HPl := hid hpl
        have hj1 : j < xl.length := placeN_lt hpl
        have HGs := hid (show G = goto xl[j] (ss.drop (i + 1)) from by rw [← HGx.out]; exact goto_some hpl (List.getElem?_eq_getElem hj1))
        clear hpl
        go_wp2
        refine wp_region_noPanic ?_
        refine any_begin 7 (by kernel_rfl) (by kernel_rfl) ?_
        refine late_begin (fun U => Fo U w.heap.size (C7 q1 q2 q3 q4 q5 q6 xl.length q8 q9 xs.length q11) sg (so + i) (str s)) (fun _ => false) ((Fo.mk HFb.out.x HFb.out.y hsc).below (below_drew (Below.refl _ _) 1)) (fun hS => ?_)
        have hbd := (show Below wr.heap.size wr wr.drew from below_drew (Below.refl _ _) 1)
        have HBV := hid (HB.out.trans (hbd.mono HB.out.size))
        have HVv := hid (HVx.out.below (hbd.mono (Nat.le_trans HN.out HB.out.size)))
        have HNv := hid (HNm.out.below hbd)
        have HPv := hid (HPx.out.below (hbd.mono (Nat.le_trans HN.out HB.out.size)))
        clear hbd
        generalize wr.drew = V at hS ⊢ HBV HVv HNv HPv
        refine late_take (i := 0) (some 17) rfl rfl (by kernel_rfl) (by kernel_rfl) (by kernel_rfl) (by kernel_rfl) (by kernel_rfl) (fun _ _ _ h => h) (by rfl) (v := ?v0b) ?hy0b hS ?rest0b
        case hy0b => intro w0 hSw; obtain ⟨e0, e1, e2, e3, e4, e5, e6, _⟩ := seven hSw.x; have hs0 := hSw.s; go_simp; try with_reducible rfl
        simp only [Act.put, List.setIfInBounds_toArray, List.set_cons_zero, List.set_cons_succ]
        refine late_take (i := 1) (some 18) rfl rfl (by kernel_rfl) (by kernel_rfl) (by kernel_rfl) (by kernel_rfl) (by kernel_rfl) (fun _ _ _ h => h) (by rfl) (v := ?v1b) ?hy1b hS ?rest1b
        case hy1b => intro w0 hSw; obtain ⟨e0, e1, e2, e3, e4, e5, e6, _⟩ := seven hSw.x; have hs0 := hSw.s; go_simp; try with_reducible rfl
        simp only [Act.put, List.setIfInBounds_toArray, List.set_cons_zero, List.set_cons_succ]
        refine late_take (i := 2) (some 19) rfl rfl (by kernel_rfl) (by kernel_rfl) (by kernel_rfl) (by kernel_rfl) (by kernel_rfl) (fun _ _ _ h => h) (by rfl) (v := ?v2b) ?hy2b hS ?rest2b
        case hy2b => intro w0 hSw; obtain ⟨e0, e1, e2, e3, e4, e5, e6, _⟩ := seven hSw.x; have hs0 := hSw.s; go_simp; try with_reducible rfl
        simp only [Act.put, List.setIfInBounds_toArray, List.set_cons_zero, List.set_cons_succ]
        refine late_take (i := 3) (some 20) rfl rfl (by kernel_rfl) (by kernel_rfl) (by kernel_rfl) (by kernel_rfl) (by kernel_rfl) (fun _ _ _ h => h) (by rfl) (v := ?v3b) ?hy3b hS ?rest3b
        case hy3b => intro w0 hSw; obtain ⟨e0, e1, e2, e3, e4, e5, e6, _⟩ := seven hSw.x; have hs0 := hSw.s; go_simp; try with_reducible rfl
        simp only [Act.put, List.setIfInBounds_toArray, List.set_cons_zero, List.set_cons_succ]
        refine late_take (i := 4) (some 21) rfl rfl (by kernel_rfl) (by kernel_rfl) (by kernel_rfl) (by kernel_rfl) (by kernel_rfl) (fun _ _ _ h => h) (by rfl) (v := ?v4b) ?hy4b hS ?rest4b
        case hy4b => intro w0 hSw; obtain ⟨e0, e1, e2, e3, e4, e5, e6, _⟩ := seven hSw.x; have hs0 := hSw.s; go_simp; try with_reducible rfl
        simp only [Act.put, List.setIfInBounds_toArray, List.set_cons_zero, List.set_cons_succ]
        refine wpAnyD_one (i := 5) (by kernel_rfl) rfl (fun K hK => ?_)
        go_simp
        go_at_call 35
        have hcall := HStp.out V _ HFx.out (HVv.out.on (Nat.le_trans HN.out HBV.out.size))
        rw [HPl.out] at hcall
        refine hcall.mono ?_
        clear hcall
        rintro e w2 ⟨rfl, hb⟩
        have HB2 := hid (below_out HBV.out hb)
        have HV2 := hid (HVv.out.below (hb.mono (Nat.le_trans HN.out HBV.out.size)))
        have HN2 := hid (HNv.out.below hb)
        have HP2 := hid (HPv.out.below (hb.mono (Nat.le_trans HN.out HBV.out.size)))
        have hS5 := hS.below hb
        clear hb
        refine hK _ _ ⟨fun _ => hS5, ?_⟩
        clear hK K
        replace hS := hS5
        clear hS5
        refine late_take (i := 6) (some 8) rfl rfl (by kernel_rfl) (by kernel_rfl) (by kernel_rfl) (by kernel_rfl) (by kernel_rfl) (fun _ _ _ h => h) (by rfl) (v := ?v6b) ?hy6b hS ?rest6b
        case hy6b => intro w0 hSw; obtain ⟨e0, e1, e2, e3, e4, e5, e6, _⟩ := seven hSw.x; have hs0 := hSw.s; go_simp; try with_reducible rfl
        simp only [Act.put, List.setIfInBounds_toArray, List.set_cons_zero, List.set_cons_succ]
        refine late_done (by kernel_rfl) ?_ _
        refine NoPanic.normal ?_
        have HS2 := hid hS
        obtain ⟨x0, x1, x2, x3, x4, x5, x6, xz⟩ := seven hS.x; have xz0 := xz 0; have xz1 := xz 1; have xz2 := xz 2; have xz3 := xz 3; have xz4 := xz 4; have xz5 := xz 5; have xz6 := xz 6; clear xz
        obtain ⟨y0, y1, y2, y3, y4, y5, y6, yz⟩ := seven hS.y; have yz0 := yz 0; have yz1 := yz 1; have yz2 := yz 2; have yz3 := yz 3; have yz4 := yz 4; have yz5 := yz 5; have yz6 := yz 6; clear yz
        clear hS
        rw [show plZ (some j) = (j : Int) from rfl]
        obtain ⟨pg, po, csx, rfl, hpg, hvj, hcj⟩ := HP2.out j xl[j] (List.getElem?_eq_getElem hj1)
        have HFj := hid (HFl.out xl[j] (List.getElem_mem hj1))
        obtain ⟨z, hz⟩ : ∃ z, xl[j] = z := ⟨_, rfl⟩
        rw [hz] at hvj HFj HGs
        obtain ⟨u1, u2, u3, u4, u5, u6, u7, u8, u9, u10, u11, rfl⟩ := hvj.form
        have HVj := hid hvj
        obtain ⟨r0, r1, r2, r3, r4, r5, r6⟩ := row7 hcj
        clear hvj hcj hz
        go_wp2
        go_roundg (n - (i + 1) + 1)
        case measure => omega
        case rel => exact ⟨i + 1, z, u1, u2, u3, u4, u5, u6, u7, u8, u9, u10, u11, by omega, rfl, by push_cast; rfl, HVj.out.below (below_sevenN (Below.refl N w2) HN.out _ _ _ _ _ _ _), HFj.out, HGs.out.symm, fb_set ⟨HS2.out.x, HS2.out.y⟩ ⟨_, rfl, rfl⟩ _ _ _ _ _ _ _, names_set HN2.out HGe.out _ _ _ _ _ _ _, below_seven HB2.out (Nat.le_refl _) _ _ _ _ _ _ _⟩
    · obtain rfl : i = n := by omega
      have e1 : ss.drop i = [] := List.drop_of_length_le (by rw [HLn.out]; exact Nat.le_refl _)
      rw [e1] at HGx
      have HGs := hid (show G = some x from HGx.out.symm)
      obtain ⟨x0, x1, x2, x3, x4, x5, x6, xz⟩ := seven hfb.x; have xz0 := xz 0; have xz1 := xz 1; have xz2 := xz 2; have xz3 := xz 3; have xz4 := xz 4; have xz5 := xz 5; have xz6 := xz 6; clear xz
      obtain ⟨y0, y1, y2, y3, y4, y5, y6, yz⟩ := seven hfb.y; have yz0 := yz 0; have yz1 := yz 1; have yz2 := yz 2; have yz3 := yz 3; have yz4 := yz 4; have yz5 := yz 5; have yz6 := yz 6; clear yz
      clear e1 hvx hfx hgx hfb hnm hb
      go_wp2
      (try simp only [Exit.inBlock, Exit.then])
      refine bodyPost_ret (results_val2 rfl _ _ _ 25 _ (0, 0) rfl (seven_put (has_seven HFb.out.y) _ _ _ _ _ _ _) rfl) rfl ?_
      rw [HGs.out]
      exact ⟨_, rfl, HVx.out.below (below_sevenN (Below.refl N wr) (Nat.le_trans HN.out (Nat.le_succ _)) _ _ _ _ _ _ _), below_seven HB.out (Nat.le_succ _) _ _ _ _ _ _ _⟩
end Go.Proofs.YtiglabpemlogbaaDoor
