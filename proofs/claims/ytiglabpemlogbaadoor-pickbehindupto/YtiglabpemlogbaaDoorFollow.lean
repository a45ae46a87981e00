/- The program's way along a path: the steps, the value at a path, the value of a kind. -/
import Derived.Test.YtiglabpemlogbaaDoorFind
import Derived.Deep.RegionHeld3
namespace Go.Proofs.YtiglabpemlogbaaDoor
open Go.RowKit

/-- The box of the value, the box of the answer, the first step. -/
structure Fo (U : World) (g : Nat) (o : Obj) (sg so : Nat) (S : ByteArray) : Prop where
  x : U.heap[g]? = some o
  y : U.heap[g + 1]? = some (.cells #[.int .i64 0, .bool false, .string ⟨#[]⟩, .int .i64 0, .bool false, .slice none 0 0, .slice none 0 0] 25 (0, 0))
  s : U.cell? ⟨sg, so, none⟩ = some (.string S)
theorem Fo.below {U V : World} {g sg so : Nat} {o : Obj} {S : ByteArray} (h : Fo U g o sg so S) (hb : Below U.heap.size U V) : Fo V g o sg so S :=
  ⟨(hb.block g (lt_of_heap h.x)).trans h.x, (hb.block _ (lt_of_heap h.y)).trans h.y, cell_keep hb h.s⟩
/-- The same with a part's row. -/
structure Fp (U : World) (g : Nat) (o : Obj) (pg po : Nat) (c0 c1 c2 c3 c4 c5 c6 : Value) : Prop where
  x : U.heap[g]? = some o
  y : U.heap[g + 1]? = some (.cells #[.int .i64 0, .bool false, .string ⟨#[]⟩, .int .i64 0, .bool false, .slice none 0 0, .slice none 0 0] 25 (0, 0))
  r : Row7 U pg po c0 c1 c2 c3 c4 c5 c6
theorem Fp.below {U V : World} {g pg po : Nat} {o : Obj} {c0 c1 c2 c3 c4 c5 c6 : Value} (h : Fp U g o pg po c0 c1 c2 c3 c4 c5 c6) (hb : Below U.heap.size U V) : Fp V g o pg po c0 c1 c2 c3 c4 c5 c6 :=
  ⟨(hb.block g (lt_of_heap h.x)).trans h.x, (hb.block _ (lt_of_heap h.y)).trans h.y, h.r.below hb⟩
theorem told_zero {w W : World} {N g : Nat} (hb : Below w.heap.size w W) (hg : w.heap.size ≤ g) : ToldV N JV.zero 8 w (.returned (.tuple #[.agg #[.int .i64 0, .bool false, .string ⟨#[]⟩, .int .i64 0, .bool false, .slice none 0 0, .slice none 0 0], .iface 43 (.int .i64 8)])) (((((((W.setCell ⟨g, 0, none⟩ (.int .i64 0)).setCell ⟨g, 1, none⟩ (.bool false)).setCell ⟨g, 2, none⟩ (.string ⟨#[]⟩)).setCell ⟨g, 3, none⟩ (.int .i64 0)).setCell ⟨g, 4, none⟩ (.bool false)).setCell ⟨g, 5, none⟩ (.slice none 0 0)).setCell ⟨g, 6, none⟩ (.slice none 0 0)) :=
  ⟨_, rfl, zero_b _ _, below_seven hb hg _ _ _ _ _ _ _⟩
theorem names_head {w : World} {s : B} {r : List B} {p : Option Addr} (h : NamesOn w (s :: r) p) : ∃ g o, p = some ⟨g, o, none⟩ ∧ w.cell? ⟨g, o, none⟩ = some (.string (str s)) ∧ NamesOn w r (some ⟨g, o + 1, none⟩) := by
  obtain ⟨g, o, rfl, hc⟩ := h 0 s rfl
  refine ⟨g, o, rfl, hc, fun j t hj => ?_⟩
  obtain ⟨g', o', e, hc'⟩ := h (j + 1) t (by simpa using hj)
  simp only [Option.some.injEq, Addr.mk.injEq] at e
  obtain ⟨rfl, rfl, _⟩ := e
  exact ⟨_, _, rfl, by rw [show o + 1 + j = o + (j + 1) by omega]; exact hc'⟩
/-- What follow answers for some steps. -/
def FollowOk (ss : List B) : Prop := ∀ (t : JV) (w : World) (N : Nat) (cs : List Value) (p : Option Addr) (c : Nat), N ≤ w.heap.size → Fits t → Env w → ValB w N t cs → NamesOn w ss p → ss.length ≤ c → Calls Tryd.prog 26 #[.agg cs.toArray, .slice p ss.length c] w fun e w' => ToldV N ((goto t ss).getD JV.zero) (codeN (goto t ss)) w e w'
set_option maxRecDepth 20000 in
set_option maxHeartbeats 8000000 in
theorem follow_nil : FollowOk [] := by
  intro t w N cs p c hN hf hE hv hp hc
  have e1 : (goto t []).getD JV.zero = t := by simp [goto]
  have e2 : codeN (goto t []) = 0 := by simp [goto, codeN]
  rw [e1, e2]
  obtain ⟨k1, k2, k3, k4, k5, k6, k7, k8, k9, k10, k11, rfl⟩ := hv.form
  have HV := hid hv
  clear hf hE hv hp hc e1 e2
  go_enter Tryd.func26, Tryd.ntmps26
  go_wp2
  (try simp only [Exit.inBlock, Exit.then])
  refine bodyPost_ret (results_val2 rfl _ _ _ 25 _ (0, 0) rfl (two_at w _ _).2.1 rfl) rfl ?_
  exact ⟨_, rfl, HV.out.below ((two_at w _ _).2.2.mono hN), (two_at w _ _).2.2⟩
set_option maxRecDepth 20000 in
set_option maxHeartbeats 8000000 in
theorem follow_cons (s : B) (r : List B) (hs : s.length ≤ 1048577) (hr : r.length ≤ 1048577) (ih : FollowOk r) : FollowOk (s :: r) := by
  intro t w N cs p c hN hf hE hv hp hc
  obtain ⟨k, b, tx, n, hh, ls, ns⟩ := t
  have HV := hid hv
  obtain ⟨p1, c1, p2, c2, rfl, hp1, hp2⟩ := hv.open
  obtain ⟨sg, so, rfl, hsc, hrest⟩ := names_head hp
  obtain ⟨n1, e1⟩ : ∃ n1, ls.length = n1 := ⟨_, rfl⟩
  obtain ⟨n2, e2⟩ : ∃ n2, ns.length = n2 := ⟨_, rfl⟩
  obtain ⟨m, em⟩ : ∃ m, r.length = m := ⟨_, rfl⟩
  rw [show (s :: r).length = m + 1 by simp [em]] at hc ⊢
  simp only [Fits, fitsL_iff] at hf
  unfold maxI at hf
  have hn1 : n1 ≤ 1048576 := by rw [← e1]; exact hf.2.1
  have HF := hid hf
  have HE := hid hE
  have HP := hid hp1
  have HR := hid hrest
  have HM := hid em
  have HI := hid ih
  have HN1 := hid e1
  rw [e1, e2] at HV ⊢
  rw [em] at hr
  obtain ⟨W0, hW0⟩ : ∃ W0, W0 = ((w.alloc (C7 k b tx n hh p1 n1 c1 p2 n2 c2)).alloc (.cells #[.int .i64 0, .bool false, .string ⟨#[]⟩, .int .i64 0, .bool false, .slice none 0 0, .slice none 0 0] 25 (0, 0))) := ⟨_, rfl⟩
  have HT := hid (show W0.heap[w.heap.size]? = some (C7 k b tx n hh p1 n1 c1 p2 n2 c2) ∧ W0.heap[w.heap.size + 1]? = some (.cells #[.int .i64 0, .bool false, .string ⟨#[]⟩, .int .i64 0, .bool false, .slice none 0 0, .slice none 0 0] 25 (0, 0)) ∧ Below w.heap.size w W0 from by rw [hW0]; exact two_at w _ _)
  have HB0 := hid HT.out.2.2
  have HX0 := hid (show Fo W0 w.heap.size (C7 k b tx n hh p1 n1 c1 p2 n2 c2) sg so (str s) from ⟨HT.out.1, HT.out.2.1, cell_keep HB0.out hsc⟩)
  have HPl := hid (placeOf_any (.mk k b tx n hh ls ns) s hs)
  have HNs := hid (show (JV.mk k b tx n hh ls ns).names.length ≤ 1048576 from hf.2.2.1)
  have HW0 := hid hW0
  obtain ⟨G, hG⟩ : ∃ G, goto (.mk k b tx n hh ls ns) (s :: r) = G := ⟨_, rfl⟩
  have HG := hid hG
  rw [hG]
  clear hf hE hv hp1 hp2 hp hsc hrest ih e1 e2 em hs hW0 hG
  go_enter Tryd.func26, Tryd.ntmps26
  go_wp2
  refine wp_region_noPanic ?_
  refine any_begin 6 (by kernel_rfl) (by kernel_rfl) ?_
  rw [← HW0.out]
  refine late_begin (fun U => Fo U w.heap.size (C7 k b tx n hh p1 n1 c1 p2 n2 c2) sg so (str s)) (fun _ => false) (HX0.out.below (below_drew (Below.refl _ _) 1)) (fun hS => ?_)
  have HBV := hid (HB0.out.trans ((show Below W0.heap.size W0 W0.drew from below_drew (Below.refl _ _) 1).mono HB0.out.size))
  generalize W0.drew = V at hS HBV ⊢
  refine late_take (i := 0) (some 11) rfl rfl (by kernel_rfl) (by kernel_rfl) (by kernel_rfl) (by kernel_rfl) (by kernel_rfl) (fun _ _ _ h => h) (by rfl) (v := ?v0a) ?hy0a hS ?rest0a
  case hy0a => intro w0 hSw; obtain ⟨e0, e1, e2, e3, e4, e5, e6, _⟩ := seven hSw.x; have hs0 := hSw.s; go_simp; try with_reducible rfl
  simp only [Act.put, List.setIfInBounds_toArray, List.set_cons_zero, List.set_cons_succ]
  refine late_take (i := 1) (some 12) rfl rfl (by kernel_rfl) (by kernel_rfl) (by kernel_rfl) (by kernel_rfl) (by kernel_rfl) (fun _ _ _ h => h) (by rfl) (v := ?v1a) ?hy1a hS ?rest1a
  case hy1a => intro w0 hSw; obtain ⟨e0, e1, e2, e3, e4, e5, e6, _⟩ := seven hSw.x; have hs0 := hSw.s; go_simp; try with_reducible rfl
  simp only [Act.put, List.setIfInBounds_toArray, List.set_cons_zero, List.set_cons_succ]
  refine late_take (i := 2) (some 13) rfl rfl (by kernel_rfl) (by kernel_rfl) (by kernel_rfl) (by kernel_rfl) (by kernel_rfl) (fun _ _ _ h => h) (by rfl) (v := ?v2a) ?hy2a hS ?rest2a
  case hy2a => intro w0 hSw; obtain ⟨e0, e1, e2, e3, e4, e5, e6, _⟩ := seven hSw.x; have hs0 := hSw.s; go_simp; try with_reducible rfl
  simp only [Act.put, List.setIfInBounds_toArray, List.set_cons_zero, List.set_cons_succ]
  refine late_take (i := 3) (some 14) rfl rfl (by kernel_rfl) (by kernel_rfl) (by kernel_rfl) (by kernel_rfl) (by kernel_rfl) (fun _ _ _ h => h) (by rfl) (v := ?v3a) ?hy3a hS ?rest3a
  case hy3a => intro w0 hSw; obtain ⟨e0, e1, e2, e3, e4, e5, e6, _⟩ := seven hSw.x; have hs0 := hSw.s; go_simp; try with_reducible rfl
  simp only [Act.put, List.setIfInBounds_toArray, List.set_cons_zero, List.set_cons_succ]
  refine wpAnyD_one (i := 4) (by kernel_rfl) rfl (fun K hK => ?_)
  go_simp
  go_at_call 37
  have hcall := HPl.out V _ (HE.out.below HBV.out) ((HV.out.on hN).below HBV.out) HNs.out
  refine hcall.mono ?_
  clear hcall
  rintro e w1 ⟨z, rfl, hz, hb⟩
  have HB1 := hid (below_out HBV.out hb)
  have hS5 := hS.below hb
  have HZ := hid hz
  clear hb hz
  refine hK _ _ ⟨fun _ => hS5, ?_⟩
  clear hK K
  replace hS := hS5
  clear hS5
  refine late_take (i := 5) (some 6) rfl rfl (by kernel_rfl) (by kernel_rfl) (by kernel_rfl) (by kernel_rfl) (by kernel_rfl) (fun _ _ _ h => h) (by rfl) (v := ?v5a) ?hy5a hS ?rest5a
  case hy5a => intro w0 hSw; obtain ⟨e0, e1, e2, e3, e4, e5, e6, _⟩ := seven hSw.x; have hs0 := hSw.s; go_simp; try with_reducible rfl
  simp only [Act.put, List.setIfInBounds_toArray, List.set_cons_zero, List.set_cons_succ]
  refine late_done (by kernel_rfl) ?_ _
  refine NoPanic.normal ?_
  have HS := hid hS
  clear hS
  obtain ⟨x0, x1, x2, x3, x4, x5, x6, xz⟩ := seven HS.out.x; clear xz
  obtain ⟨y0, y1, y2, y3, y4, y5, y6, yz⟩ := seven HS.out.y; have yz0 := yz 0; have yz1 := yz 1; have yz2 := yz 2; have yz3 := yz 3; have yz4 := yz 4; have yz5 := yz 5; have yz6 := yz 6; clear yz
  cases hpl : placeN (.mk k b tx n hh ls ns) s with
  | none =>
    have hz := HZ.out
    rw [hpl] at hz
    have hz2 : z < 0 ∨ (n1 : Int) ≤ z := by rw [← HN1.out]; exact hz
    have HGn := hid (show G = none from by rw [← HG.out]; exact goto_none hpl)
    clear hz HZ hpl
    by_cases h0 : z < 0
    · go_wp2
      (try simp only [Exit.inBlock, Exit.then])
      refine bodyPost_ret (results_val2 rfl _ _ _ 25 _ (0, 0) rfl (seven_put (has_seven HS.out.y) _ _ _ _ _ _ _) rfl) rfl ?_
      rw [HGn.out]
      exact told_zero HB1.out (Nat.le_succ _)
    · have h1 : (n1 : Int) ≤ z := by omega
      go_wp2
      (try simp only [Exit.inBlock, Exit.then])
      refine bodyPost_ret (results_val2 rfl _ _ _ 25 _ (0, 0) rfl (seven_put (has_seven HS.out.y) _ _ _ _ _ _ _) rfl) rfl ?_
      rw [HGn.out]
      exact told_zero HB1.out (Nat.le_succ _)
  | some i =>
    have hz := HZ.out
    rw [hpl] at hz
    obtain rfl : z = (i : Int) := hz
    have hi1 : i < ls.length := placeN_lt hpl
    have hin : i < n1 := by rw [← HN1.out]; exact hi1
    have HGs := hid (show G = goto ls[i] r from by rw [← HG.out]; exact goto_some (r := r) hpl (List.getElem?_eq_getElem hi1))
    have HFx := hid (HF.out.2.2.2.2 ls[i] (List.getElem_mem hi1))
    obtain ⟨pg, po, csx, rfl, hpg, hvx, hcx⟩ := HP.out.below (HB1.out.mono hN) i ls[i] (List.getElem?_eq_getElem hi1)
    obtain ⟨x, hx⟩ : ∃ x, ls[i] = x := ⟨_, rfl⟩
    rw [hx] at hvx HFx HGs
    obtain ⟨q1, q2, q3, q4, q5, q6, q7, q8, q9, q10, q11, rfl⟩ := hvx.form
    have HVx := hid hvx
    have HXp := hid (Fp.mk HS.out.x HS.out.y (row7 hcx))
    obtain ⟨P, hP⟩ : ∃ P, (if c = 1 then some (⟨sg, so, none⟩ : Addr) else some ⟨sg, so + 1, none⟩) = P := ⟨_, rfl⟩
    have HRP := hid (show NamesOn w r P from by
      rw [← hP]
      split
      · have h0 : r = [] := List.eq_nil_of_length_eq_zero (by rw [HM.out]; omega)
        rw [h0]
        intro j t hj
        simp at hj
      · exact HR.out)
    have HPP := hid hP
    clear HZ hpl hx hvx hcx hi1 hP
    go_wp2
    refine wp_region_noPanic ?_
    refine any_begin 12 (by kernel_rfl) (by kernel_rfl) ?_
    refine late_begin (fun U => Fp U w.heap.size (C7 k b tx n hh (some ⟨pg, po, none⟩) n1 c1 p2 n2 c2) pg (po + i * 7) (.int .i64 q1) (.bool q2) (.string (str q3)) (.int .i64 q4) (.bool q5) (.slice q6 q7 q8) (.slice q9 q10 q11)) (fun j => decide (10 ≤ j)) (HXp.out.below (below_drew (Below.refl _ _) 1)) (fun hS => ?_)
    have HBX := hid (HB1.out.trans ((show Below w1.heap.size w1 w1.drew from below_drew (Below.refl _ _) 1).mono HB1.out.size))
    have HVy := hid (HVx.out.below ((show Below w1.heap.size w1 w1.drew from below_drew (Below.refl _ _) 1).mono (Nat.le_trans hN HB1.out.size)))
    generalize w1.drew = X at hS HBX HVy ⊢
    refine late_take (i := 0) (some 27) rfl rfl (by kernel_rfl) (by kernel_rfl) (by kernel_rfl) (by kernel_rfl) (by kernel_rfl) (fun _ _ _ h => h) (by rfl) (v := ?v0b) ?hy0b hS ?rest0b
    case hy0b => intro w0 hSw; obtain ⟨e0, e1, e2, e3, e4, e5, e6, _⟩ := seven hSw.x; obtain ⟨r0, r1, r2, r3, r4, r5, r6⟩ := hSw.r; go_simp; try with_reducible rfl
    simp only [Act.put, List.setIfInBounds_toArray, List.set_cons_zero, List.set_cons_succ]
    refine late_take (i := 1) (some 28) rfl rfl (by kernel_rfl) (by kernel_rfl) (by kernel_rfl) (by kernel_rfl) (by kernel_rfl) (fun _ _ _ h => h) (by rfl) (v := ?v1b) ?hy1b hS ?rest1b
    case hy1b => intro w0 hSw; obtain ⟨e0, e1, e2, e3, e4, e5, e6, _⟩ := seven hSw.x; obtain ⟨r0, r1, r2, r3, r4, r5, r6⟩ := hSw.r; go_simp; try with_reducible rfl
    simp only [Act.put, List.setIfInBounds_toArray, List.set_cons_zero, List.set_cons_succ]
    refine late_take (i := 2) (some 29) rfl rfl (by kernel_rfl) (by kernel_rfl) (by kernel_rfl) (by kernel_rfl) (by kernel_rfl) (fun _ _ _ h => h) (by rfl) (v := ?v2b) ?hy2b hS ?rest2b
    case hy2b => intro w0 hSw; obtain ⟨e0, e1, e2, e3, e4, e5, e6, _⟩ := seven hSw.x; obtain ⟨r0, r1, r2, r3, r4, r5, r6⟩ := hSw.r; go_simp; try with_reducible rfl
    simp only [Act.put, List.setIfInBounds_toArray, List.set_cons_zero, List.set_cons_succ]
    refine late_take (i := 3) (some 30) rfl rfl (by kernel_rfl) (by kernel_rfl) (by kernel_rfl) (by kernel_rfl) (by kernel_rfl) (fun _ _ _ h => h) (by rfl) (v := ?v3b) ?hy3b hS ?rest3b
    case hy3b => intro w0 hSw; obtain ⟨e0, e1, e2, e3, e4, e5, e6, _⟩ := seven hSw.x; obtain ⟨r0, r1, r2, r3, r4, r5, r6⟩ := hSw.r; go_simp; try with_reducible rfl
    simp only [Act.put, List.setIfInBounds_toArray, List.set_cons_zero, List.set_cons_succ]
    refine late_take (i := 4) (some 31) rfl rfl (by kernel_rfl) (by kernel_rfl) (by kernel_rfl) (by kernel_rfl) (by kernel_rfl) (fun _ _ _ h => h) (by rfl) (v := ?v4b) ?hy4b hS ?rest4b
    case hy4b => intro w0 hSw; obtain ⟨e0, e1, e2, e3, e4, e5, e6, _⟩ := seven hSw.x; obtain ⟨r0, r1, r2, r3, r4, r5, r6⟩ := hSw.r; go_simp; try with_reducible rfl
    simp only [Act.put, List.setIfInBounds_toArray, List.set_cons_zero, List.set_cons_succ]
    refine late_take (i := 5) (some 32) rfl rfl (by kernel_rfl) (by kernel_rfl) (by kernel_rfl) (by kernel_rfl) (by kernel_rfl) (fun _ _ _ h => h) (by rfl) (v := ?v5b) ?hy5b hS ?rest5b
    case hy5b => intro w0 hSw; obtain ⟨e0, e1, e2, e3, e4, e5, e6, _⟩ := seven hSw.x; obtain ⟨r0, r1, r2, r3, r4, r5, r6⟩ := hSw.r; go_simp; try with_reducible rfl
    simp only [Act.put, List.setIfInBounds_toArray, List.set_cons_zero, List.set_cons_succ]
    refine late_take (i := 6) (some 33) rfl rfl (by kernel_rfl) (by kernel_rfl) (by kernel_rfl) (by kernel_rfl) (by kernel_rfl) (fun _ _ _ h => h) (by rfl) (v := .slice P m (c - 1)) ?hy6b hS ?rest6b
    case hy6b => intro w0 hSw; obtain ⟨e0, e1, e2, e3, e4, e5, e6, _⟩ := seven hSw.x; obtain ⟨r0, r1, r2, r3, r4, r5, r6⟩ := hSw.r; go_simp; rw [if_pos (by omega), HPP.out]
    simp only [Act.put, List.setIfInBounds_toArray, List.set_cons_zero, List.set_cons_succ]
    refine wpAnyD_one (i := 7) (by kernel_rfl) rfl (fun K hK => ?_)
    go_simp
    go_at_call 26
    have hcall := HI.out x X N _ P (c - 1) (Nat.le_trans hN HBX.out.size) HFx.out (HE.out.below HBX.out) HVy.out (HRP.out.below HBX.out) (by rw [HM.out]; omega)
    rw [HM.out] at hcall
    refine hcall.mono ?_
    clear hcall
    rintro e w2 ⟨cs2, rfl, hv2, hb⟩
    have HB2 := hid (below_out HBX.out hb)
    have hS5 := hS.below hb
    have HV2 := hid hv2
    obtain ⟨u1, u2, u3, u4, u5, u6, u7, u8, u9, u10, u11, rfl⟩ := hv2.form
    clear hb hv2
    refine hK _ _ ⟨fun _ => hS5, ?_⟩
    clear hK K
    replace hS := hS5
    clear hS5
    refine late_take (i := 8) (some 35) rfl rfl (by kernel_rfl) (by kernel_rfl) (by kernel_rfl) (by kernel_rfl) (by kernel_rfl) (fun _ _ _ h => h) (by rfl) (v := ?v8b) ?hy8b hS ?rest8b
    case hy8b => intro w0 hSw; obtain ⟨e0, e1, e2, e3, e4, e5, e6, _⟩ := seven hSw.x; obtain ⟨r0, r1, r2, r3, r4, r5, r6⟩ := hSw.r; go_simp; try with_reducible rfl
    simp only [Act.put, List.setIfInBounds_toArray, List.set_cons_zero, List.set_cons_succ]
    refine late_take (i := 9) (some 36) rfl rfl (by kernel_rfl) (by kernel_rfl) (by kernel_rfl) (by kernel_rfl) (by kernel_rfl) (fun _ _ _ h => h) (by rfl) (v := ?v9b) ?hy9b hS ?rest9b
    case hy9b => intro w0 hSw; obtain ⟨e0, e1, e2, e3, e4, e5, e6, _⟩ := seven hSw.x; obtain ⟨r0, r1, r2, r3, r4, r5, r6⟩ := hSw.r; go_simp; try with_reducible rfl
    simp only [Act.put, List.setIfInBounds_toArray, List.set_cons_zero, List.set_cons_succ]
    have HSe := hid hS
    obtain ⟨v0, v1, v2, v3, v4, v5, v6, vz⟩ := seven hS.y; have vz0 := vz 0; have vz1 := vz 1; have vz2 := vz 2; have vz3 := vz 3; have vz4 := vz 4; have vz5 := vz 5; have vz6 := vz 6; clear vz
    clear hS
    refine late_over (by kernel_rfl) ?_
    refine any_one (i := 10) (by kernel_rfl) rfl (fun K hK => ?_)
    go_simp
    refine hK _ _ ?_
    clear hK K
    refine any_take (i := 11) (some 5) rfl rfl (by kernel_rfl) (by kernel_rfl) (by kernel_rfl) (fun _ _ _ h => h) (by rfl) (v := ?v11b) ?hy11b ?rest11b
    case hy11b => intro w0; go_simp; try with_reducible rfl
    simp only [Act.put, List.setIfInBounds_toArray, List.set_cons_zero, List.set_cons_succ]
    refine any_done (by kernel_rfl) ?_ _
    refine NoPanic.normal ?_
    go_wp2
    (try simp only [Exit.inBlock, Exit.then])
    refine bodyPost_ret (results_val2 rfl _ _ _ 25 _ (0, 0) rfl (seven_put (has_seven HSe.out.y) _ _ _ _ _ _ _) rfl) rfl ?_
    rw [HGs.out]
    exact ⟨_, rfl, HV2.out.below (below_sevenN (Below.refl N w2) (Nat.le_trans hN (Nat.le_succ _)) _ _ _ _ _ _ _), below_seven HB2.out (Nat.le_succ _) _ _ _ _ _ _ _⟩
theorem follow_any : ∀ ss : List B, (∀ z ∈ ss, z.length ≤ 1048577) → ss.length ≤ 1048578 → FollowOk ss
  | [], _, _ => follow_nil
  | s :: r, h, hl => follow_cons s r (h s (by simp)) (by simp at hl; omega) (follow_any r (fun z hz => h z (by simp [hz])) (by simp at hl; omega))
end Go.Proofs.YtiglabpemlogbaaDoor
