/- PickOnly. -/
import Derived.Test.YtiglabpemlogbaaDoorSure
import Derived.Laws.AppendOwnNone
namespace Go.Proofs.YtiglabpemlogbaaDoor
open Go.RowKit

theorem strC_plain (ns : List B) : ∀ u ∈ strC ns, u.oneCell' = true := by
  intro u hu
  obtain ⟨t, _, rfl⟩ := List.mem_map.1 hu
  rfl
/-- A copy of a row of texts is laid. -/
theorem copy_names {ns : List B} {p : Option Addr} {c : Nat} {w : World} {ops : Array Oper} {rest : List Oper} {o : Oper} {a : Act} {Q : Exit → Act → World → Prop} (hgd : o.guard = none) (s x : Operand)
    (ho : o.op = .call { callee := .builtin .append, args := #[s, x], argTypes := #[23, 23] }) (hn : ns.length ≤ 1048576) (hp : NamesOn w ns p) (hc : p = none → ns = [] ∧ c = 0) (hs : a.eval s = .slice none 0 0) (hx : a.eval x = .slice p ns.length c)
    (h : ∀ q d w', NamesOn w' ns q → Below w.heap.size w w' → wpList Tryd.prog ops Q rest (a.put o.dst (.slice q ns.length d)) w') : wpList Tryd.prog ops Q (o :: rest) a w := by
  obtain ⟨i0, hi0, hz0, hz1, hz2⟩ := info_parts infoS
  have hnil := World.ownsRow_nil w w.heap.size 9 1
  cases p with
  | none =>
    obtain ⟨rfl, rfl⟩ := hc rfl
    refine wpList_append_own_none hgd s x 23 ho w.heap.size 9 i0 1 Tryd.underlying23 hi0 _ _ _ hs hnil hx ?_
    exact h none 0 w hp (Below.refl _ _)
  | some ad =>
    have hnews : ∀ j u, (strC ns)[j]? = some u → w.cell? (ad.add j) = some u := by
      intro j u hj
      simp only [strC, List.getElem?_map] at hj
      cases ht : ns[j]? with
      | none => rw [ht] at hj; simp at hj
      | some t =>
        rw [ht] at hj
        simp only [Option.map_some, Option.some.injEq] at hj
        obtain ⟨g, o2, e, hcell⟩ := hp j t ht
        simp only [Option.some.injEq] at e
        subst e hj
        have e2 : (⟨g, o2, none⟩ : Addr).add j = ⟨g, o2 + j, none⟩ := by unfold Addr.add; split <;> simp_all
        rw [e2]
        exact hcell
    refine wpList_append_own_at w hgd s x 23 ho w.heap.size 9 i0 _ 1 16 Tryd.underlying23 hi0 hz0 hz1 hz2 rfl (by decide) (.slice none 0 0) 0 [] hs hnil ad ns.length c (strC ns) hx (by simp [strC]) hnews (strC_plain ns) (by unfold maxLen; omega) (by omega) (Nat.le_refl _) ?_
    intro v' w' hown hgr _ _
    rw [Nat.zero_add, List.nil_append] at hown
    obtain ⟨q, d, rfl, _, hnm, _⟩ := names_own hown
    exact h q d w' hnm ⟨hgr.os, hgr.tape, hgr.output, hgr.size, fun k hk => hgr.block k hk (by simp [Value.ownBlock])⟩
/-- The box of the value. -/
structure Vx (U : World) (g : Nat) (o : Obj) : Prop where
  x : U.heap[g]? = some o
theorem Vx.below {U V : World} {g : Nat} {o : Obj} (h : Vx U g o) (hb : Below U.heap.size U V) : Vx V g o := ⟨(hb.block g (lt_of_heap h.x)).trans h.x⟩
set_option maxRecDepth 20000 in
set_option maxHeartbeats 8000000 in
theorem pickOnly_any (t : JV) (p : B) (ms : List B) (hp : p.length ≤ 1048576) (hm : ms.length ≤ 1048576) (hmz : ∀ z ∈ ms, z.length ≤ 1048576) (w : World) (cs : List Value) (p3 : Option Addr) (c3 : Nat) (hf : Fits t) (hE : Env w) (hv : ValOn w t cs) (h3 : NamesOn w ms p3) (hc3 : p3 = none → ms = [] ∧ c3 = 0) :
    Calls Tryd.prog 3 #[.agg cs.toArray, .string (str p), .slice p3 ms.length c3] w fun e w' => e = .returned (.bool true) ∧ Below w.heap.size w w' := by
  obtain ⟨k1, k2, k3, k4, k5, k6, k7, k8, k9, k10, k11, rfl⟩ := hv.form
  have HV := hid (show ValB w w.heap.size t _ from hv)
  have HF := hid hf
  have HE := hid hE
  have HM3 := hid h3
  have HC3 := hid hc3
  have HMl := hid hm
  have HTs := hid (texts_same ms hm)
  have HO := hid (only_any t p (by omega) ms hm hmz)
  have HR := hid (ronly_any t p (by omega) ms hm)
  obtain ⟨G, hG⟩ : ∃ G, onlyN (ofKind 6 (goto t (steps p))) ms = G := ⟨_, rfl⟩
  rw [hG] at HO HR
  obtain ⟨S, hS⟩ : ∃ S, str p = S := ⟨_, rfl⟩
  rw [hS] at HO HR ⊢
  obtain ⟨n3, e3⟩ : ∃ n3, ms.length = n3 := ⟨_, rfl⟩
  have HN3 := hid e3
  rw [e3] at HO HR HTs ⊢
  have HNum := hid (num_any G)
  obtain ⟨W0, hW0⟩ : ∃ W0, W0 = w.alloc (C7 k1 k2 k3 k4 k5 k6 k7 k8 k9 k10 k11) := ⟨_, rfl⟩
  have HB0 := hid (show Below w.heap.size w W0 from by rw [hW0]; exact below_new _ _)
  have HX0 := hid (show Vx W0 w.heap.size (C7 k1 k2 k3 k4 k5 k6 k7 k8 k9 k10 k11) from ⟨by rw [hW0]; exact heap_alloc_new _ _⟩)
  have HW0 := hid hW0
  obtain ⟨E, hE2⟩ : ∃ E, errOf G = E := ⟨_, rfl⟩
  rw [hE2] at HO HNum
  clear hf hE hv h3 hc3 hm hmz hp hG hS e3 hW0 hE2
  go_enter Tryd.func3, Tryd.ntmps3
  go_wp2_with (first
    | (at_builtin; rw [← HW0.out]; refine copy_names (p := p3) (c := c3) rfl (.tmp 9) (.tmp 10) rfl HMl.out (HM3.out.below HB0.out) HC3.out (by go_simp) (by rw [HN3.out]; go_simp) ?_; intro q d w1 hq hb; have HQ := hid hq; have HB1 := hid (below_out HB0.out hb); have HX1 := hid (HX0.out.below hb); obtain ⟨x0, x1, x2, x3, x4, x5, x6, _⟩ := seven HX1.out.x; rw [HN3.out]; clear hq hb)
    | (go_at_call 5; have hcall := HO.out w1 w.heap.size _ q d HB1.out.size HF.out (HE.out.below HB1.out) (HV.out.below HB1.out) HQ.out; (with_reducible refine hcall.mono ?_); clear hcall; rintro e w2 ⟨rfl, hb⟩; have HB2 := hid (below_out HB1.out hb); have HX2 := hid (HX1.out.below hb); have HQ2 := hid (HQ.out.below hb); clear hb))
  refine wp_region_noPanic ?_
  refine any_begin 16 (by kernel_rfl) (by kernel_rfl) ?_
  refine late_begin (fun U => Vx U w.heap.size (C7 k1 k2 k3 k4 k5 k6 k7 k8 k9 k10 k11)) (fun _ => false) (HX2.out.below (below_drew (Below.refl _ _) 1)) (fun hS => ?_)
  have hbd := (show Below w2.heap.size w2 w2.drew from below_drew (Below.refl _ _) 1)
  have HBV := hid (below_out HB2.out hbd)
  have HQV := hid (HQ2.out.below hbd)
  clear hbd
  generalize w2.drew = V at hS ⊢ HBV HQV
  refine late_take (i := 0) (some 16) rfl rfl (by kernel_rfl) (by kernel_rfl) (by kernel_rfl) (by kernel_rfl) (by kernel_rfl) (fun _ _ _ h => h) (by rfl) (v := ?v0a) ?hy0a hS ?rest0a
  case hy0a => intro w0 hSw; obtain ⟨e0, e1, e2, e3, e4, e5, e6, _⟩ := seven hSw.x; go_simp; try with_reducible rfl
  simp only [Act.put, List.setIfInBounds_toArray, List.set_cons_zero, List.set_cons_succ]
  refine late_take (i := 2) (some 18) rfl rfl (by kernel_rfl) (by kernel_rfl) (by kernel_rfl) (by kernel_rfl) (by kernel_rfl) (fun _ _ _ h => h) (by rfl) (v := ?v2a) ?hy2a hS ?rest2a
  case hy2a => intro w0 hSw; obtain ⟨e0, e1, e2, e3, e4, e5, e6, _⟩ := seven hSw.x; go_simp; try with_reducible rfl
  simp only [Act.put, List.setIfInBounds_toArray, List.set_cons_zero, List.set_cons_succ]
  refine late_take (i := 3) (some 19) rfl rfl (by kernel_rfl) (by kernel_rfl) (by kernel_rfl) (by kernel_rfl) (by kernel_rfl) (fun _ _ _ h => h) (by rfl) (v := ?v3a) ?hy3a hS ?rest3a
  case hy3a => intro w0 hSw; obtain ⟨e0, e1, e2, e3, e4, e5, e6, _⟩ := seven hSw.x; go_simp; try with_reducible rfl
  simp only [Act.put, List.setIfInBounds_toArray, List.set_cons_zero, List.set_cons_succ]
  refine late_take (i := 4) (some 20) rfl rfl (by kernel_rfl) (by kernel_rfl) (by kernel_rfl) (by kernel_rfl) (by kernel_rfl) (fun _ _ _ h => h) (by rfl) (v := ?v4a) ?hy4a hS ?rest4a
  case hy4a => intro w0 hSw; obtain ⟨e0, e1, e2, e3, e4, e5, e6, _⟩ := seven hSw.x; go_simp; try with_reducible rfl
  simp only [Act.put, List.setIfInBounds_toArray, List.set_cons_zero, List.set_cons_succ]
  refine wpAnyD_one (i := 1) (by kernel_rfl) rfl (fun K hK => ?_)
  go_simp
  go_at_call 6
  have hcall := HNum.out V (HE.out.below HBV.out)
  refine hcall.mono ?_
  clear hcall
  rintro e w3 ⟨rfl, hb⟩
  have HB3 := hid (below_out HBV.out hb)
  have HQ3 := hid (HQV.out.below hb)
  have hS5 := hS.below hb
  clear hb
  refine hK _ _ ⟨fun _ => hS5, ?_⟩
  clear hK K
  replace hS := hS5
  clear hS5
  refine wpAnyD_one (i := 5) (by kernel_rfl) rfl (fun K hK => ?_)
  go_simp
  go_at_call 7
  have hcall := HR.out w3 w.heap.size _ p3 c3 HB3.out.size HF.out (HV.out.below HB3.out) (HM3.out.below HB3.out)
  refine hcall.mono ?_
  clear hcall
  rintro e w4 ⟨rfl, hb⟩
  have HB4 := hid (below_out HB3.out hb)
  have HQ4 := hid (HQ3.out.below hb)
  have hS5 := hS.below hb
  clear hb
  refine hK _ _ ⟨fun _ => hS5, ?_⟩
  clear hK K
  replace hS := hS5
  clear hS5
  refine late_take (i := 6) (some 22) rfl rfl (by kernel_rfl) (by kernel_rfl) (by kernel_rfl) (by kernel_rfl) (by kernel_rfl) (fun _ _ _ h => h) (by rfl) (v := ?v6a) ?hy6a hS ?rest6a
  case hy6a => intro w0 hSw; obtain ⟨e0, e1, e2, e3, e4, e5, e6, _⟩ := seven hSw.x; go_simp; try with_reducible rfl
  simp only [Act.put, List.setIfInBounds_toArray, List.set_cons_zero, List.set_cons_succ]
  refine late_take (i := 7) (some 23) rfl rfl (by kernel_rfl) (by kernel_rfl) (by kernel_rfl) (by kernel_rfl) (by kernel_rfl) (fun _ _ _ h => h) (by rfl) (v := ?v7a) ?hy7a hS ?rest7a
  case hy7a => intro w0 hSw; obtain ⟨e0, e1, e2, e3, e4, e5, e6, _⟩ := seven hSw.x; go_simp; try with_reducible rfl
  simp only [Act.put, List.setIfInBounds_toArray, List.set_cons_zero, List.set_cons_succ]
  refine late_take (i := 8) (some 24) rfl rfl (by kernel_rfl) (by kernel_rfl) (by kernel_rfl) (by kernel_rfl) (by kernel_rfl) (fun _ _ _ h => h) (by rfl) (v := ?v8a) ?hy8a hS ?rest8a
  case hy8a => intro w0 hSw; obtain ⟨e0, e1, e2, e3, e4, e5, e6, _⟩ := seven hSw.x; go_simp; try with_reducible rfl
  simp only [Act.put, List.setIfInBounds_toArray, List.set_cons_zero, List.set_cons_succ]
  refine late_take (i := 9) (some 25) rfl rfl (by kernel_rfl) (by kernel_rfl) (by kernel_rfl) (by kernel_rfl) (by kernel_rfl) (fun _ _ _ h => h) (by rfl) (v := ?v9a) ?hy9a hS ?rest9a
  case hy9a => intro w0 hSw; obtain ⟨e0, e1, e2, e3, e4, e5, e6, _⟩ := seven hSw.x; go_simp; try with_reducible rfl
  simp only [Act.put, List.setIfInBounds_toArray, List.set_cons_zero, List.set_cons_succ]
  refine wpAnyD_one (i := 10) (by kernel_rfl) rfl (fun K hK => ?_)
  go_simp
  go_at_call 8
  have hcall := HTs.out w4 q p3 d c3 HQ4.out (HM3.out.below HB4.out)
  refine hcall.mono ?_
  clear hcall
  rintro e w5 ⟨rfl, hb⟩
  have HB5 := hid (below_out HB4.out hb)
  have hS5 := hS.below hb
  clear hb
  refine hK _ _ ⟨fun _ => hS5, ?_⟩
  clear hK K
  replace hS := hS5
  clear hS5
  refine late_take (i := 11) (some 27) rfl rfl (by kernel_rfl) (by kernel_rfl) (by kernel_rfl) (by kernel_rfl) (by kernel_rfl) (fun _ _ _ h => h) (by rfl) (v := ?v11a) ?hy11a hS ?rest11a
  case hy11a => intro w0 hSw; obtain ⟨e0, e1, e2, e3, e4, e5, e6, _⟩ := seven hSw.x; go_simp; try with_reducible rfl
  simp only [Act.put, List.setIfInBounds_toArray, List.set_cons_zero, List.set_cons_succ]
  refine late_take (i := 12) (some 28) rfl rfl (by kernel_rfl) (by kernel_rfl) (by kernel_rfl) (by kernel_rfl) (by kernel_rfl) (fun _ _ _ h => h) (by rfl) (v := ?v12a) ?hy12a hS ?rest12a
  case hy12a => intro w0 hSw; obtain ⟨e0, e1, e2, e3, e4, e5, e6, _⟩ := seven hSw.x; go_simp; try with_reducible rfl
  simp only [Act.put, List.setIfInBounds_toArray, List.set_cons_zero, List.set_cons_succ]
  refine wpAnyD_one (i := 13) (by kernel_rfl) rfl (fun K hK => ?_)
  go_simp
  go_at_call 9
  have hcall := sure_any w5 (HE.out.below HB5.out)
  refine hcall.mono ?_
  clear hcall
  rintro e w6 ⟨rfl, hb⟩
  have HB6 := hid (below_out HB5.out hb)
  have hS5 := hS.below hb
  clear hb
  refine hK _ _ ⟨fun _ => hS5, ?_⟩
  clear hK K
  replace hS := hS5
  clear hS5
  refine late_take (i := 14) (some 30) rfl rfl (by kernel_rfl) (by kernel_rfl) (by kernel_rfl) (by kernel_rfl) (by kernel_rfl) (fun _ _ _ h => h) (by rfl) (v := ?v14a) ?hy14a hS ?rest14a
  case hy14a => intro w0 hSw; obtain ⟨e0, e1, e2, e3, e4, e5, e6, _⟩ := seven hSw.x; go_simp; try with_reducible rfl
  simp only [Act.put, List.setIfInBounds_toArray, List.set_cons_zero, List.set_cons_succ]
  refine late_take (i := 15) (some 6) rfl rfl (by kernel_rfl) (by kernel_rfl) (by kernel_rfl) (by kernel_rfl) (by kernel_rfl) (fun _ _ _ h => h) (by rfl) (v := ?v15a) ?hy15a hS ?rest15a
  case hy15a => intro w0 hSw; obtain ⟨e0, e1, e2, e3, e4, e5, e6, _⟩ := seven hSw.x; go_simp; try with_reducible rfl
  simp only [Act.put, List.setIfInBounds_toArray, List.set_cons_zero, List.set_cons_succ]
  refine late_done (by kernel_rfl) ?_ _
  refine NoPanic.normal ?_
  clear hS
  go_wp2
  go_ret
  exact ⟨rfl, HB6.out⟩
end Go.Proofs.YtiglabpemlogbaaDoor
