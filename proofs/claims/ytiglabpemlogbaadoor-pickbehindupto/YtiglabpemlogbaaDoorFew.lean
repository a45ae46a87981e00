/- How many parts a value has; whether two values are the same. -/
import Derived.Test.YtiglabpemlogbaaDoorSure
namespace Go.Proofs.YtiglabpemlogbaaDoor
open Go.RowKit

def FewOk (t : JV) : Prop := ∀ (w : World) (cs : List Value) (deep : Nat) (most : Int), Fits t → ValOn w t cs → deep ≤ 201 → 1 ≤ most → most ≤ 3000 →
  Calls Tryd.prog 10 #[.agg cs.toArray, .int .i64 (deep : Int), .int .i64 most] w fun e w' => ∃ r : Int, e = .returned (.int .i64 r) ∧ 1 ≤ r ∧ r ≤ most ∧ Below w.heap.size w w'
set_option maxRecDepth 20000 in
set_option maxHeartbeats 8000000 in
theorem few_one {k : Int} {b : Bool} {t : B} {n : Int} {hh : Bool} {ls : List JV} {ns : List B} (hS : ∀ x ∈ ls, FewOk x) : FewOk (.mk k b t n hh ls ns) := by
  intro w cs deep most hf hv hd h1 h2
  obtain ⟨p1, c1, p2, c2, rfl, hp1, hp2⟩ := hv.open
  simp only [Fits, fitsL_iff] at hf
  have hn := hf.2.1
  unfold maxI at hn
  have HF := hid hf
  have HSO := hid hS
  obtain ⟨n1, e1⟩ : ∃ n1, ls.length = n1 := ⟨_, rfl⟩
  obtain ⟨n2, e2⟩ : ∃ n2, ns.length = n2 := ⟨_, rfl⟩
  have HN := hid e1
  rw [e1, e2]
  rw [e1] at hn
  obtain ⟨W0, hW0⟩ : ∃ W0, W0 = w.alloc (C7 k b t n hh p1 n1 c1 p2 n2 c2) := ⟨_, rfl⟩
  have HW0 := hid hW0
  have HB0 := hid (show Below w.heap.size w W0 from by rw [hW0]; exact below_new _ _)
  have HX0 := hid (show W0.heap[w.heap.size]? = some (C7 k b t n hh p1 n1 c1 p2 n2 c2) from by rw [hW0]; exact heap_alloc_new _ _)
  have HP := hid (hp1.below HB0.out)
  clear hf hv hS hp1 hp2 e1 e2 hW0
  by_cases hd0 : 200 < deep
  · have hd1 : (200 : Int) < (deep : Int) := by omega
    go_enter Tryd.func10, Tryd.ntmps10
    go_wp2
    go_ret
    exact ⟨most, rfl, by omega, by omega, below_new _ _⟩
  · have hd1 : ¬ (200 : Int) < (deep : Int) := by omega
    go_enter Tryd.func10, Tryd.ntmps10
    go_wp2
    go_loopg [7, 8] (n1 + 1) (fun gk s7 s8 wr => ∃ (i : Nat) (L : Int), i ≤ n1 ∧ gk = n1 - i + 1 ∧ s7 = .int .i64 L ∧ s8 = .int .i64 (i : Int) ∧ 1 ≤ L ∧ L ≤ most ∧ Below W0.heap.size W0 wr)
    case atStart => exact ⟨0, 1, by omega, rfl, rfl, rfl, by omega, by omega, by rw [← HW0.out]; exact Below.refl _ _⟩
    case round =>
      obtain ⟨i, L, hi, rfl, rfl, rfl, hL1, hL2, hb⟩ := hrel
      have HB := hid hb
      have HXr := hid (keep7 HX0.out hb)
      obtain ⟨x0, x1, x2, x3, x4, x5, x6, _⟩ := seven HXr.out
      clear hb
      by_cases hin : i < n1
      · have b1 : (i : Int) < (n1 : Int) := by omega
        by_cases hneg : L < most
        · have hi1 : i < ls.length := by rw [HN.out]; exact hin
          obtain ⟨g, o, cs, rfl, hv1, hc1⟩ := HP.out.below HB.out i ls[i] (List.getElem?_eq_getElem hi1)
          have HC := hid (HSO.out ls[i] (List.getElem_mem hi1))
          have HFx := hid (HF.out.2.2.2.2 ls[i] (List.getElem_mem hi1))
          generalize ls[i] = x at hv1 HC HFx
          obtain ⟨k1, k2, k3, k4, k5, k6, k7, k8, k9, k10, k11, rfl⟩ := hv1.form
          obtain ⟨a0, a1, a2, a3, a4, a5, a6⟩ := row7 hc1
          have HV1 := hid hv1
          clear hc1 hv1 hi1
          go_wp2_with (go_at_call 10; have hcall := HC.out _ _ (deep + 1) (most - L) HFx.out HV1.out (by omega) (by omega) (by omega); rw [show ((deep + 1 : Nat) : Int) = (deep : Int) + 1 from by push_cast; rfl] at hcall; (with_reducible refine hcall.mono ?_); clear hcall; rintro e w3 ⟨r, rfl, hr1, hr2, hb⟩; have HB3 := hid (HB.out.trans (hb.mono HB.out.size)); clear hb)
          go_roundg (n1 - (i + 1) + 1)
          case measure => omega
          case rel => exact ⟨i + 1, L + r, by omega, rfl, rfl, by push_cast; rfl, by omega, by omega, HB3.out⟩
        · go_wp2
          go_ret
          exact ⟨L, rfl, hL1, by omega, HB0.out.trans (HB.out.mono HB0.out.size)⟩
      · have b1 : ¬ (i : Int) < (n1 : Int) := by omega
        go_wp2
        go_ret
        exact ⟨L, rfl, hL1, by omega, HB0.out.trans (HB.out.mono HB0.out.size)⟩
mutual
theorem few_any : ∀ t : JV, FewOk t
  | .mk _ _ _ _ _ ls _ => few_one (fews_any ls)
theorem fews_any : ∀ ls : List JV, ∀ x ∈ ls, FewOk x
  | [], x, h => by simp at h
  | y :: ys, x, h => by
    simp only [List.mem_cons] at h
    rcases h with rfl | h
    · exact few_any x
    · exact fews_any ys x h
end
/-- The two boxes, a part of each. -/
structure Sp (U : World) (g : Nat) (o1 o2 : Obj) (ag ao bg bo : Nat) (c0 c1 c2 c3 c4 c5 c6 d0 d1 d2 d3 d4 d5 d6 : Value) : Prop where
  x : U.heap[g]? = some o1
  y : U.heap[g + 1]? = some o2
  r : Row7 U ag ao c0 c1 c2 c3 c4 c5 c6
  s : Row7 U bg bo d0 d1 d2 d3 d4 d5 d6
theorem Sp.below {U V : World} {g ag ao bg bo : Nat} {o1 o2 : Obj} {c0 c1 c2 c3 c4 c5 c6 d0 d1 d2 d3 d4 d5 d6 : Value} (h : Sp U g o1 o2 ag ao bg bo c0 c1 c2 c3 c4 c5 c6 d0 d1 d2 d3 d4 d5 d6) (hb : Below U.heap.size U V) : Sp V g o1 o2 ag ao bg bo c0 c1 c2 c3 c4 c5 c6 d0 d1 d2 d3 d4 d5 d6 :=
  ⟨(hb.block g (lt_of_heap h.x)).trans h.x, (hb.block _ (lt_of_heap h.y)).trans h.y, h.r.below hb, h.s.below hb⟩
def SameOk (t : JV) : Prop := ∀ (w : World) (cs ds : List Value) (deep : Nat), Fits t → ValOn w t cs → ValOn w t ds → deep ≤ 300 →
  Calls Tryd.prog 12 #[.agg cs.toArray, .agg ds.toArray, .int .i64 (deep : Int)] w fun e w' => e = .returned (.bool true) ∧ Below w.heap.size w w'
set_option maxRecDepth 20000 in
set_option maxHeartbeats 8000000 in
theorem same_one {k : Int} {b : Bool} {t : B} {n : Int} {hh : Bool} {ls : List JV} {ns : List B} (hS : ∀ x ∈ ls, SameOk x) : SameOk (.mk k b t n hh ls ns) := by
  intro w cs ds deep hf hv hu hd
  obtain ⟨p1, c1, p2, c2, rfl, hp1, hp2⟩ := hv.open
  obtain ⟨q1, d1, q2, d2, rfl, hq1, hq2⟩ := hu.open
  simp only [Fits, fitsL_iff] at hf
  have hn := hf.2.1
  unfold maxI at hn
  have HF := hid hf
  have HSO := hid hS
  have HTs := hid (texts_same ns hf.2.2.1)
  obtain ⟨n1, e1⟩ : ∃ n1, ls.length = n1 := ⟨_, rfl⟩
  obtain ⟨n2, e2⟩ : ∃ n2, ns.length = n2 := ⟨_, rfl⟩
  have HN := hid e1
  rw [e2] at HTs
  rw [e1, e2]
  rw [e1] at hn
  obtain ⟨W0, hW0⟩ : ∃ W0, W0 = ((w.alloc (C7 k b t n hh p1 n1 c1 p2 n2 c2)).alloc (C7 k b t n hh q1 n1 d1 q2 n2 d2)) := ⟨_, rfl⟩
  have HW0 := hid hW0
  have HB0 := hid (show Below w.heap.size w W0 from by rw [hW0]; exact (two_at w _ _).2.2)
  have HX0 := hid (show W0.heap[w.heap.size]? = some (C7 k b t n hh p1 n1 c1 p2 n2 c2) ∧ W0.heap[w.heap.size + 1]? = some (C7 k b t n hh q1 n1 d1 q2 n2 d2) from by rw [hW0]; exact ⟨(two_at w _ _).1, (two_at w _ _).2.1⟩)
  have HP := hid (hp1.below HB0.out)
  have HQ := hid (hq1.below HB0.out)
  have HPn := hid (hp2.below HB0.out)
  have HQn := hid (hq2.below HB0.out)
  clear hf hv hu hS hp1 hp2 hq1 hq2 e1 e2 hW0
  go_enter Tryd.func12, Tryd.ntmps12
  go_wp2_with (go_at_call 8; have hcall := HTs.out W0 p2 q2 c2 d2 HPn.out HQn.out; rw [← HW0.out]; (with_reducible refine hcall.mono ?_); clear hcall; rintro e w1 ⟨rfl, hb⟩; have HB1 := hid hb; have HXa := hid (keep7 HX0.out.1 hb); have HXb := hid (keep7 HX0.out.2 hb); obtain ⟨x0, x1, x2, x3, x4, x5, x6, _⟩ := seven HXa.out; obtain ⟨y0, y1, y2, y3, y4, y5, y6, _⟩ := seven HXb.out; clear hb)
  go_loopg [7] (n1 + 1) (fun gk s7 wr => ∃ i : Nat, i ≤ n1 ∧ gk = n1 - i + 1 ∧ s7 = .int .i64 (i : Int) ∧ Below W0.heap.size W0 wr)
  case atStart => exact ⟨0, by omega, rfl, rfl, HB1.out⟩
  case round =>
    obtain ⟨i, hi, rfl, rfl, hb⟩ := hrel
    have HB := hid hb
    have HXr := hid (keep7 HX0.out.1 hb)
    have HYr := hid (keep7 HX0.out.2 hb)
    obtain ⟨z0, z1, z2, z3, z4, z5, z6, _⟩ := seven HXr.out
    obtain ⟨v0, v1, v2, v3, v4, v5, v6, _⟩ := seven HYr.out
    clear hb x0 x1 x2 x3 x4 x5 x6 y0 y1 y2 y3 y4 y5 y6
    by_cases hin : i < n1
    · have b1 : (i : Int) < (n1 : Int) := by omega
      by_cases hd0 : deep = 0
      · subst hd0
        go_wp2
        go_ret
        exact ⟨rfl, HB0.out.trans (HB.out.mono HB0.out.size)⟩
      · have hd1 : (0 : Int) < (deep : Int) := by omega
        have hwr : IntKind.i64.wrap ((deep : Int) - 1) = (deep : Int) - 1 := by rw [IntKind.wrap_i64]; omega
        have hi1 : i < ls.length := by rw [HN.out]; exact hin
        obtain ⟨ag, ao, cs, rfl, hv1, hc1⟩ := HP.out.below HB.out i ls[i] (List.getElem?_eq_getElem hi1)
        obtain ⟨bg, bo, ds, rfl, hu1, hc2⟩ := HQ.out.below HB.out i ls[i] (List.getElem?_eq_getElem hi1)
        have HC := hid (HSO.out ls[i] (List.getElem_mem hi1))
        have HFx := hid (HF.out.2.2.2.2 ls[i] (List.getElem_mem hi1))
        generalize ls[i] = x at hv1 hu1 HC HFx
        obtain ⟨k1, k2, k3, k4, k5, k6, k7, k8, k9, k10, k11, rfl⟩ := hv1.form
        obtain ⟨m1, m2, m3, m4, m5, m6, m7, m8, m9, m10, m11, rfl⟩ := hu1.form
        have HR := hid (row7 hc1)
        have HS := hid (row7 hc2)
        have HV1 := hid hv1
        have HU1 := hid hu1
        clear hc1 hc2 hv1 hu1 hi1
        go_wp2
        refine wp_region_noPanic ?_
        refine any_begin 14 (by kernel_rfl) (by kernel_rfl) ?_
        refine late_begin (fun U => Sp U w.heap.size (C7 k b t n hh (some ⟨ag, ao, none⟩) n1 c1 p2 n2 c2) (C7 k b t n hh (some ⟨bg, bo, none⟩) n1 d1 q2 n2 d2) ag (ao + i * 7) bg (bo + i * 7) (.int .i64 k1) (.bool k2) (.string (str k3)) (.int .i64 k4) (.bool k5) (.slice k6 k7 k8) (.slice k9 k10 k11) (.int .i64 m1) (.bool m2) (.string (str m3)) (.int .i64 m4) (.bool m5) (.slice m6 m7 m8) (.slice m9 m10 m11)) (fun _ => false) ((Sp.mk HXr.out HYr.out HR.out HS.out).below (below_drew (Below.refl _ _) 1)) (fun hS => ?_)
        have hbd := (show Below wr.heap.size wr wr.drew from below_drew (Below.refl _ _) 1)
        have HBV := hid (HB.out.trans (hbd.mono HB.out.size))
        have HVv := hid (HV1.out.below hbd)
        have HUv := hid (HU1.out.below hbd)
        clear hbd
        generalize wr.drew = V at hS ⊢ HBV HVv HUv
        refine late_take (i := 0) (some 69) rfl rfl (by kernel_rfl) (by kernel_rfl) (by kernel_rfl) (by kernel_rfl) (by kernel_rfl) (fun _ _ _ h => h) (by rfl) (v := ?v0a) ?hy0a hS ?rest0a
        case hy0a => intro w0 hSw; obtain ⟨e0, e1, e2, e3, e4, e5, e6, _⟩ := seven hSw.x; obtain ⟨f0, f1, f2, f3, f4, f5, f6, _⟩ := seven hSw.y; obtain ⟨r0, r1, r2, r3, r4, r5, r6⟩ := hSw.r; obtain ⟨s0, s1, s2, s3, s4, s5, s6⟩ := hSw.s; go_simp; try with_reducible rfl
        simp only [Act.put, List.setIfInBounds_toArray, List.set_cons_zero, List.set_cons_succ]
        refine late_take (i := 1) (some 70) rfl rfl (by kernel_rfl) (by kernel_rfl) (by kernel_rfl) (by kernel_rfl) (by kernel_rfl) (fun _ _ _ h => h) (by rfl) (v := ?v1a) ?hy1a hS ?rest1a
        case hy1a => intro w0 hSw; obtain ⟨e0, e1, e2, e3, e4, e5, e6, _⟩ := seven hSw.x; obtain ⟨f0, f1, f2, f3, f4, f5, f6, _⟩ := seven hSw.y; obtain ⟨r0, r1, r2, r3, r4, r5, r6⟩ := hSw.r; obtain ⟨s0, s1, s2, s3, s4, s5, s6⟩ := hSw.s; go_simp; try with_reducible rfl
        simp only [Act.put, List.setIfInBounds_toArray, List.set_cons_zero, List.set_cons_succ]
        refine late_take (i := 2) (some 71) rfl rfl (by kernel_rfl) (by kernel_rfl) (by kernel_rfl) (by kernel_rfl) (by kernel_rfl) (fun _ _ _ h => h) (by rfl) (v := ?v2a) ?hy2a hS ?rest2a
        case hy2a => intro w0 hSw; obtain ⟨e0, e1, e2, e3, e4, e5, e6, _⟩ := seven hSw.x; obtain ⟨f0, f1, f2, f3, f4, f5, f6, _⟩ := seven hSw.y; obtain ⟨r0, r1, r2, r3, r4, r5, r6⟩ := hSw.r; obtain ⟨s0, s1, s2, s3, s4, s5, s6⟩ := hSw.s; go_simp; try with_reducible rfl
        simp only [Act.put, List.setIfInBounds_toArray, List.set_cons_zero, List.set_cons_succ]
        refine late_take (i := 3) (some 72) rfl rfl (by kernel_rfl) (by kernel_rfl) (by kernel_rfl) (by kernel_rfl) (by kernel_rfl) (fun _ _ _ h => h) (by rfl) (v := ?v3a) ?hy3a hS ?rest3a
        case hy3a => intro w0 hSw; obtain ⟨e0, e1, e2, e3, e4, e5, e6, _⟩ := seven hSw.x; obtain ⟨f0, f1, f2, f3, f4, f5, f6, _⟩ := seven hSw.y; obtain ⟨r0, r1, r2, r3, r4, r5, r6⟩ := hSw.r; obtain ⟨s0, s1, s2, s3, s4, s5, s6⟩ := hSw.s; go_simp; try with_reducible rfl
        simp only [Act.put, List.setIfInBounds_toArray, List.set_cons_zero, List.set_cons_succ]
        refine late_take (i := 4) (some 73) rfl rfl (by kernel_rfl) (by kernel_rfl) (by kernel_rfl) (by kernel_rfl) (by kernel_rfl) (fun _ _ _ h => h) (by rfl) (v := ?v4a) ?hy4a hS ?rest4a
        case hy4a => intro w0 hSw; obtain ⟨e0, e1, e2, e3, e4, e5, e6, _⟩ := seven hSw.x; obtain ⟨f0, f1, f2, f3, f4, f5, f6, _⟩ := seven hSw.y; obtain ⟨r0, r1, r2, r3, r4, r5, r6⟩ := hSw.r; obtain ⟨s0, s1, s2, s3, s4, s5, s6⟩ := hSw.s; go_simp; try with_reducible rfl
        simp only [Act.put, List.setIfInBounds_toArray, List.set_cons_zero, List.set_cons_succ]
        refine late_take (i := 5) (some 74) rfl rfl (by kernel_rfl) (by kernel_rfl) (by kernel_rfl) (by kernel_rfl) (by kernel_rfl) (fun _ _ _ h => h) (by rfl) (v := ?v5a) ?hy5a hS ?rest5a
        case hy5a => intro w0 hSw; obtain ⟨e0, e1, e2, e3, e4, e5, e6, _⟩ := seven hSw.x; obtain ⟨f0, f1, f2, f3, f4, f5, f6, _⟩ := seven hSw.y; obtain ⟨r0, r1, r2, r3, r4, r5, r6⟩ := hSw.r; obtain ⟨s0, s1, s2, s3, s4, s5, s6⟩ := hSw.s; go_simp; try with_reducible rfl
        simp only [Act.put, List.setIfInBounds_toArray, List.set_cons_zero, List.set_cons_succ]
        refine late_take (i := 6) (some 75) rfl rfl (by kernel_rfl) (by kernel_rfl) (by kernel_rfl) (by kernel_rfl) (by kernel_rfl) (fun _ _ _ h => h) (by rfl) (v := ?v6a) ?hy6a hS ?rest6a
        case hy6a => intro w0 hSw; obtain ⟨e0, e1, e2, e3, e4, e5, e6, _⟩ := seven hSw.x; obtain ⟨f0, f1, f2, f3, f4, f5, f6, _⟩ := seven hSw.y; obtain ⟨r0, r1, r2, r3, r4, r5, r6⟩ := hSw.r; obtain ⟨s0, s1, s2, s3, s4, s5, s6⟩ := hSw.s; go_simp; try with_reducible rfl
        simp only [Act.put, List.setIfInBounds_toArray, List.set_cons_zero, List.set_cons_succ]
        refine late_take (i := 7) (some 76) rfl rfl (by kernel_rfl) (by kernel_rfl) (by kernel_rfl) (by kernel_rfl) (by kernel_rfl) (fun _ _ _ h => h) (by rfl) (v := ?v7a) ?hy7a hS ?rest7a
        case hy7a => intro w0 hSw; obtain ⟨e0, e1, e2, e3, e4, e5, e6, _⟩ := seven hSw.x; obtain ⟨f0, f1, f2, f3, f4, f5, f6, _⟩ := seven hSw.y; obtain ⟨r0, r1, r2, r3, r4, r5, r6⟩ := hSw.r; obtain ⟨s0, s1, s2, s3, s4, s5, s6⟩ := hSw.s; go_simp; try with_reducible rfl
        simp only [Act.put, List.setIfInBounds_toArray, List.set_cons_zero, List.set_cons_succ]
        refine late_take (i := 8) (some 77) rfl rfl (by kernel_rfl) (by kernel_rfl) (by kernel_rfl) (by kernel_rfl) (by kernel_rfl) (fun _ _ _ h => h) (by rfl) (v := ?v8a) ?hy8a hS ?rest8a
        case hy8a => intro w0 hSw; obtain ⟨e0, e1, e2, e3, e4, e5, e6, _⟩ := seven hSw.x; obtain ⟨f0, f1, f2, f3, f4, f5, f6, _⟩ := seven hSw.y; obtain ⟨r0, r1, r2, r3, r4, r5, r6⟩ := hSw.r; obtain ⟨s0, s1, s2, s3, s4, s5, s6⟩ := hSw.s; go_simp; try with_reducible rfl
        simp only [Act.put, List.setIfInBounds_toArray, List.set_cons_zero, List.set_cons_succ]
        refine late_take (i := 9) (some 78) rfl rfl (by kernel_rfl) (by kernel_rfl) (by kernel_rfl) (by kernel_rfl) (by kernel_rfl) (fun _ _ _ h => h) (by rfl) (v := ?v9a) ?hy9a hS ?rest9a
        case hy9a => intro w0 hSw; obtain ⟨e0, e1, e2, e3, e4, e5, e6, _⟩ := seven hSw.x; obtain ⟨f0, f1, f2, f3, f4, f5, f6, _⟩ := seven hSw.y; obtain ⟨r0, r1, r2, r3, r4, r5, r6⟩ := hSw.r; obtain ⟨s0, s1, s2, s3, s4, s5, s6⟩ := hSw.s; go_simp; try with_reducible rfl
        simp only [Act.put, List.setIfInBounds_toArray, List.set_cons_zero, List.set_cons_succ]
        refine late_take (i := 10) (some 79) rfl rfl (by kernel_rfl) (by kernel_rfl) (by kernel_rfl) (by kernel_rfl) (by kernel_rfl) (fun _ _ _ h => h) (by rfl) (v := ?v10a) ?hy10a hS ?rest10a
        case hy10a => intro w0 hSw; obtain ⟨e0, e1, e2, e3, e4, e5, e6, _⟩ := seven hSw.x; obtain ⟨f0, f1, f2, f3, f4, f5, f6, _⟩ := seven hSw.y; obtain ⟨r0, r1, r2, r3, r4, r5, r6⟩ := hSw.r; obtain ⟨s0, s1, s2, s3, s4, s5, s6⟩ := hSw.s; go_simp; try with_reducible rfl
        simp only [Act.put, List.setIfInBounds_toArray, List.set_cons_zero, List.set_cons_succ]
        refine late_take (i := 11) (some 80) rfl rfl (by kernel_rfl) (by kernel_rfl) (by kernel_rfl) (by kernel_rfl) (by kernel_rfl) (fun _ _ _ h => h) (by rfl) (v := ?v11a) ?hy11a hS ?rest11a
        case hy11a => intro w0 hSw; obtain ⟨e0, e1, e2, e3, e4, e5, e6, _⟩ := seven hSw.x; obtain ⟨f0, f1, f2, f3, f4, f5, f6, _⟩ := seven hSw.y; obtain ⟨r0, r1, r2, r3, r4, r5, r6⟩ := hSw.r; obtain ⟨s0, s1, s2, s3, s4, s5, s6⟩ := hSw.s; go_simp; try with_reducible rfl
        simp only [Act.put, List.setIfInBounds_toArray, List.set_cons_zero, List.set_cons_succ]
        refine wpAnyD_one (i := 12) (by kernel_rfl) rfl (fun K hK => ?_)
        go_simp
        go_at_call 12
        have hcall := HC.out V _ _ (deep - 1) HFx.out HVv.out HUv.out (by omega)
        rw [show ((deep - 1 : Nat) : Int) = (deep : Int) - 1 from by omega] at hcall
        refine hcall.mono ?_
        clear hcall
        rintro e w3 ⟨rfl, hb⟩
        have HB3 := hid (HBV.out.trans (hb.mono HBV.out.size))
        have hS5 := hS.below hb
        clear hb
        refine hK _ _ ⟨fun _ => hS5, ?_⟩
        clear hK K
        replace hS := hS5
        clear hS5
        refine late_take (i := 13) (some 82) rfl rfl (by kernel_rfl) (by kernel_rfl) (by kernel_rfl) (by kernel_rfl) (by kernel_rfl) (fun _ _ _ h => h) (by rfl) (v := ?v13a) ?hy13a hS ?rest13a
        case hy13a => intro w0 hSw; obtain ⟨e0, e1, e2, e3, e4, e5, e6, _⟩ := seven hSw.x; obtain ⟨f0, f1, f2, f3, f4, f5, f6, _⟩ := seven hSw.y; obtain ⟨r0, r1, r2, r3, r4, r5, r6⟩ := hSw.r; obtain ⟨s0, s1, s2, s3, s4, s5, s6⟩ := hSw.s; go_simp; try with_reducible rfl
        simp only [Act.put, List.setIfInBounds_toArray, List.set_cons_zero, List.set_cons_succ]
        refine late_done (by kernel_rfl) ?_ _
        refine NoPanic.normal ?_
        clear hS
        go_wp2
        go_roundg (n1 - (i + 1) + 1)
        case measure => omega
        case rel => exact ⟨i + 1, by omega, rfl, by push_cast; rfl, HB3.out⟩
    · have b1 : ¬ (i : Int) < (n1 : Int) := by omega
      go_wp2
      go_ret
      exact ⟨rfl, HB0.out.trans (HB.out.mono HB0.out.size)⟩
mutual
theorem same_any : ∀ t : JV, SameOk t
  | .mk _ _ _ _ _ ls _ => same_one (sames_any ls)
theorem sames_any : ∀ ls : List JV, ∀ x ∈ ls, SameOk x
  | [], x, h => by simp at h
  | y :: ys, x, h => by
    simp only [List.mem_cons] at h
    rcases h with rfl | h
    · exact same_any x
    · exact sames_any ys x h
end
end Go.Proofs.YtiglabpemlogbaaDoor
