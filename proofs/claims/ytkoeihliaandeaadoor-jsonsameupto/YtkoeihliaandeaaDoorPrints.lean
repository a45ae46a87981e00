/- many, small; JsonPrints: what is printed of a value that may be is read as it. -/
import Derived.Test.YtkoeihliaandeaaDoorBack
namespace Go.Proofs.YtkoeihliaandeaaDoor
open Go.RowKit

def ManyOk (t : JV) : Prop := ∀ (w : World) (cs : List Value) (left : Int) (deep : Nat), Fits t → ValOn w t cs → 0 ≤ left → left ≤ 3000 → deep ≤ 200 →
  Calls Tryd.prog 20 #[.agg cs.toArray, .int .i64 left, .int .i64 (deep : Int)] w fun e w' => ∃ r : Int, e = .returned (.int .i64 r) ∧ -1 ≤ r ∧ r ≤ left ∧ Below w.heap.size w w'
set_option maxRecDepth 20000 in
set_option maxHeartbeats 4000000 in
theorem many_one {k : Int} {b : Bool} {t : B} {n : Int} {hh : Bool} {ls : List JV} {ns : List B} (hS : ∀ x ∈ ls, ManyOk x) : ManyOk (.mk k b t n hh ls ns) := by
  intro w cs left deep hf hv h0 h1 hd
  obtain ⟨p1, c1, p2, c2, rfl, hp1, hp2⟩ := hv.open
  simp only [Fits, fitsL_iff] at hf
  have hn := hf.2.1
  unfold maxI at hn
  have HF := hid hf
  have HSO := hid hS
  obtain ⟨n1, e1⟩ : ∃ n1, ls.length = n1 := ⟨_, rfl⟩
  obtain ⟨n2, e2⟩ : ∃ n2, ns.length = n2 := ⟨_, rfl⟩
  have HN := hid e1
  rw [e1, e2]
  rw [e1] at hn
  obtain ⟨W0, hW0⟩ : ∃ W0, W0 = w.alloc (C7 k b t n hh p1 n1 c1 p2 n2 c2) := ⟨_, rfl⟩
  have HW0 := hid hW0
  have HB0 := hid (show Below w.heap.size w W0 from by rw [hW0]; exact below_new _ _)
  have HX0 := hid (show W0.heap[w.heap.size]? = some (C7 k b t n hh p1 n1 c1 p2 n2 c2) from by rw [hW0]; exact heap_alloc_new _ _)
  have HP := hid (hp1.below HB0.out)
  clear hf hv hS hp1 hp2 e1 e2 hW0
  by_cases hd0 : deep = 0
  · subst hd0
    show Calls Tryd.prog 20 #[.agg _, .int .i64 left, .int .i64 0] w _
    go_enter Tryd.func20, Tryd.ntmps20
    go_wp2
    go_ret
    exact ⟨-1, rfl, by omega, by omega, below_new _ _⟩
  · obtain ⟨dp, hdp⟩ : ∃ dp, deep = dp + 1 := ⟨deep - 1, by omega⟩
    subst hdp
    have hc : ((dp + 1 : Nat) : Int) = (dp : Int) + 1 := by push_cast; rfl
    rw [hc]
    have z0 : ((dp : Int) + 1 == 0) = false := by simp only [beq_eq_false_iff_ne, ne_eq]; omega
    clear hc hd0
    go_enter Tryd.func20, Tryd.ntmps20
    go_wp2
    go_loopg [1, 7] (n1 + 1) (fun gk s1 s7 wr => ∃ (i : Nat) (L : Int), i ≤ n1 ∧ gk = n1 - i + 1 ∧ s1 = .int .i64 L ∧ s7 = .int .i64 (i : Int) ∧ -1 ≤ L ∧ L ≤ left - 1 ∧ Below W0.heap.size W0 wr)
    case atStart => exact ⟨0, left - 1, by omega, rfl, rfl, rfl, by omega, by omega, by rw [← HW0.out]; exact Below.refl _ _⟩
    case round =>
      obtain ⟨i, L, hi, rfl, rfl, rfl, hL1, hL2, hb⟩ := hrel
      have HB := hid hb
      have HXr := hid (keep7 HX0.out hb)
      obtain ⟨x0, x1, x2, x3, x4, x5, x6, _⟩ := seven HXr.out
      clear hb
      by_cases hin : i < n1
      · have b1 : (i : Int) < (n1 : Int) := by omega
        by_cases hneg : 0 ≤ L
        · have hi1 : i < ls.length := by rw [HN.out]; exact hin
          obtain ⟨g, o, cs, rfl, hv1, hc1⟩ := HP.out.below HB.out i ls[i] (List.getElem?_eq_getElem hi1)
          have HC := hid (HSO.out ls[i] (List.getElem_mem hi1))
          have HFx := hid (HF.out.2.2.2.2 ls[i] (List.getElem_mem hi1))
          generalize ls[i] = x at hv1 HC HFx
          obtain ⟨k1, k2, k3, k4, k5, k6, k7, k8, k9, k10, k11, rfl⟩ := hv1.form
          obtain ⟨a0, a1, a2, a3, a4, a5, a6⟩ := row7 hc1
          have HV1 := hid hv1
          clear hc1 hv1 hi1
          go_wp2_with (go_at_call 20; have hcall := HC.out _ _ L dp HFx.out HV1.out hneg (by omega) (by omega); (with_reducible refine hcall.mono ?_); clear hcall; rintro e w3 ⟨r, rfl, hr1, hr2, hb⟩; have HB3 := hid (HB.out.trans (hb.mono HB.out.size)); clear hb)
          go_roundg (n1 - (i + 1) + 1)
          case measure => omega
          case rel => exact ⟨i + 1, r, by omega, rfl, rfl, by push_cast; rfl, hr1, by omega, HB3.out⟩
        · go_wp2
          go_ret
          exact ⟨L, rfl, hL1, by omega, HB0.out.trans (HB.out.mono HB0.out.size)⟩
      · have b1 : ¬ (i : Int) < (n1 : Int) := by omega
        go_wp2
        go_ret
        exact ⟨L, rfl, hL1, by omega, HB0.out.trans (HB.out.mono HB0.out.size)⟩
mutual
theorem many_any : ∀ t : JV, ManyOk t
  | .mk _ _ _ _ _ ls _ => many_one (manys_any ls)
theorem manys_any : ∀ ls : List JV, ∀ x ∈ ls, ManyOk x
  | [], x, h => by simp at h
  | y :: ys, x, h => by
    simp only [List.mem_cons] at h
    rcases h with rfl | h
    · exact many_any x
    · exact manys_any ys x h
end
set_option maxRecDepth 20000 in
set_option maxHeartbeats 4000000 in
theorem small_any (t : JV) (w : World) (cs : List Value) (hf : Fits t) (hv : ValOn w t cs) : Calls Tryd.prog 11 #[.agg cs.toArray] w fun e w' => ∃ bb : Bool, e = .returned (.bool bb) ∧ Below w.heap.size w w' := by
  obtain ⟨k1, k2, k3, k4, k5, k6, k7, k8, k9, k10, k11, rfl⟩ := hv.form
  have HF := hid hf
  have HB0 := hid (below_new w (C7 k1 k2 k3 k4 k5 k6 k7 k8 k9 k10 k11))
  have HV := hid (hv.below HB0.out)
  clear hf hv
  go_enter Tryd.func11, Tryd.ntmps11
  go_wp2_with (go_at_call 20; have hcall : Calls Tryd.prog 20 #[.agg #[.int .i64 k1, .bool k2, .string (str k3), .int .i64 k4, .bool k5, .slice k6 k7 k8, .slice k9 k10 k11], .int .i64 3000, .int .i64 200] (w.alloc (C7 k1 k2 k3 k4 k5 k6 k7 k8 k9 k10 k11)) _ := many_any t _ _ 3000 200 HF.out HV.out (by omega) (by omega) (by omega); (with_reducible refine hcall.mono ?_); clear hcall; rintro e w1 ⟨r, rfl, hr1, hr2, hb⟩; have HB := hid (below_out HB0.out hb); clear hb)
  go_ret
  exact ⟨_, rfl, HB.out⟩
set_option maxRecDepth 20000 in
set_option maxHeartbeats 4000000 in
theorem prints_any (t : JV) (w : World) (cs : List Value) (hE : Env w) (hf : Fits t) (hv : ValOn w t cs) (hlen : validN t = 0 → (printV t).length ≤ 4611686018427387904) :
    Calls Tryd.prog 6 #[.agg cs.toArray] w fun e w' => e = .returned (.bool true) ∧ Below w.heap.size w w' := by
  obtain ⟨k1, k2, k3, k4, k5, k6, k7, k8, k9, k10, k11, rfl⟩ := hv.form
  have HE := hid hE
  have HF := hid hf
  have HV := hid hv
  have HB0 := hid (below_new w (C7 k1 k2 k3 k4 k5 k6 k7 k8 k9 k10 k11))
  have HL := hid hlen
  obtain ⟨P, K, hP⟩ : ∃ P K, printS t = (P, K) := ⟨_, _, rfl⟩
  have HPr := hid (fun W ds (h1 : Env W) (h2 : ValOn W t ds) => print_any t W ds h1 hf h2 hlen)
  simp only [hP, ToldPr] at HPr
  have HPS := hid hP
  have HSm := hid (sameV_refl t)
  clear hE hf hv hlen
  obtain ⟨Q, hQ⟩ : ∃ Q, str P = Q := ⟨_, rfl⟩
  simp only [hQ] at HPr
  by_cases hK : K = 0
  · subst hK
    have hv0 : validN t = 0 := by
      have := hP
      unfold printS at this
      split at this
      · rename_i hne
        simp only [Prod.mk.injEq] at this
        exact absurd this.2 hne
      · rename_i hne
        simpa using hne
    have hP2 : P = printV t ∧ (printV t).length ≤ 1048576 := by
      have := hP
      unfold printS at this
      rw [if_neg (by rw [hv0]; simp)] at this
      split at this
      · simp at this
      · simp only [Prod.mk.injEq] at this
        exact ⟨this.1.symm, by omega⟩
    have HQs := hid (show Q.size ≤ 9223372036854775807 from by rw [← hQ, str_size, hP2.1]; omega)
    have HP2 := hid (show parse Q.data.toList = (t, Q.size, 0) from by
      have e : Q.data.toList = P := by rw [← hQ]
      have e2 : Q.size = P.length := by rw [← hQ, str_size]
      rw [e, e2, hP2.1]
      exact parse_print hv0 hP2.2)
    clear hP hQ hv0 hP2
    go_enter Tryd.func6, Tryd.ntmps6
    go_wp2_with (first
      | (go_at_call 11; have hcall := small_any t _ _ HF.out (HV.out.below HB0.out); (with_reducible refine hcall.mono ?_); clear hcall; rintro e w1 ⟨bb, rfl, hb⟩; have HB1 := hid (below_out HB0.out hb); have HX1 := hid (keep7 (heap_alloc_new w (C7 k1 k2 k3 k4 k5 k6 k7 k8 k9 k10 k11)) hb); obtain ⟨x0, x1, x2, x3, x4, x5, x6, _⟩ := seven HX1.out; clear hb; cases bb)
      | (go_at_call 16; have hcall := HPr.out _ _ (HE.out.below HB1.out) (HV.out.below HB1.out); (with_reducible refine hcall.mono ?_); clear hcall; rintro e w2 ⟨rfl, hb⟩; simp only [show errOf 0 = Value.nilIface from rfl]; have HB2 := hid (below_out HB1.out hb); have HX2 := hid (keep7 HX1.out hb); clear hb)
      | (go_at_call 14; have hcall := parse_any (w := w2) Q HQs.out (HE.out.below HB2.out); rw [HP2.out] at hcall; (with_reducible refine hcall.mono ?_); clear hcall; rintro e w4 ⟨cs, rfl, z1, z2⟩; obtain ⟨b1, b2, b3, b4, b5, b6, b7, b8, b9, b10, b11, rfl⟩ := z1.form; have ZW := hid ((ValOn.of z1).below (below_new _ (C7 b1 b2 b3 b4 b5 b6 b7 b8 b9 b10 b11))); have HB4 := hid (HB2.out.trans ((z2.mono HB2.out.size).trans ((below_new w4 (C7 b1 b2 b3 b4 b5 b6 b7 b8 b9 b10 b11)).mono (Nat.le_trans HB2.out.size z2.size)))); have HX4 := hid (keep7 (keep7 HX2.out z2) (below_new w4 (C7 b1 b2 b3 b4 b5 b6 b7 b8 b9 b10 b11))); obtain ⟨s0, s1, s2, s3, s4, s5, s6, _⟩ := seven HX4.out; simp only [show errOf 0 = Value.nilIface from rfl]; clear z1 z2)
      | (go_at_call 12; have hcall := same_any t t _ _ _ HF.out HF.out (HV.out.below HB4.out) ZW.out; rw [HSm.out] at hcall; (with_reducible refine hcall.mono ?_); clear hcall; rintro e w6 ⟨rfl, hb⟩; have HB6 := hid (below_out HB4.out hb); clear hb)
      | (go_at_call 10; have hcall := works_any _ (HE.out.below HB6.out); (with_reducible refine hcall.mono ?_); clear hcall; rintro e wk ⟨rfl, hb⟩; have HBk := hid (below_out HB6.out hb); clear hb)
      | (go_at_call 10; have hcall := works_any _ (HE.out.below HB1.out); (with_reducible refine hcall.mono ?_); clear hcall; rintro e wk ⟨rfl, hb⟩; have HBk := hid (below_out HB1.out hb); clear hb))
    all_goals
      go_ret
      exact ⟨rfl, HBk.out⟩
  · have hP3 : P = [] := by
      have := hP
      unfold printS at this
      split at this
      · simp only [Prod.mk.injEq] at this
        exact this.1.symm
      · split at this
        · simp only [Prod.mk.injEq] at this
          exact this.1.symm
        · simp only [Prod.mk.injEq] at this
          omega
    obtain rfl : Q = ⟨#[]⟩ := by rw [← hQ, hP3]
    have HEk := hid (show errOf K = .iface 41 (.int .i64 (K : Int)) from errOf_pos hK)
    clear hP hQ hP3 hK
    go_enter Tryd.func6, Tryd.ntmps6
    go_wp2_with (first
      | (go_at_call 11; have hcall := small_any t _ _ HF.out (HV.out.below HB0.out); (with_reducible refine hcall.mono ?_); clear hcall; rintro e w1 ⟨bb, rfl, hb⟩; have HB1 := hid (below_out HB0.out hb); have HX1 := hid (keep7 (heap_alloc_new w (C7 k1 k2 k3 k4 k5 k6 k7 k8 k9 k10 k11)) hb); obtain ⟨x0, x1, x2, x3, x4, x5, x6, _⟩ := seven HX1.out; clear hb; cases bb)
      | (go_at_call 16; have hcall := HPr.out _ _ (HE.out.below HB1.out) (HV.out.below HB1.out); (with_reducible refine hcall.mono ?_); clear hcall; rintro e w2 ⟨rfl, hb⟩; simp only [HEk.out]; have HB2 := hid (below_out HB1.out hb); clear hb)
      | (go_at_call 10; have hcall := works_any _ (HE.out.below HB2.out); (with_reducible refine hcall.mono ?_); clear hcall; rintro e wk ⟨rfl, hb⟩; have HBk := hid (below_out HB2.out hb); clear hb)
      | (go_at_call 10; have hcall := works_any _ (HE.out.below HB1.out); (with_reducible refine hcall.mono ?_); clear hcall; rintro e wk ⟨rfl, hb⟩; have HBk := hid (below_out HB1.out hb); clear hb))
    all_goals
      go_ret
      exact ⟨rfl, HBk.out⟩
end Go.Proofs.YtkoeihliaandeaaDoor
