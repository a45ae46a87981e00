/- many, small; JsonPrints: what is printed of a value that may be is read as it. -/
import Derived.Test.YtkoeihliaandeabDoorFit
namespace Go.Proofs.YtkoeihliaandeabDoor
open Go.RowKit

def ManyOk (t : JV) : Prop := ∀ (w : World) (cs : List Value) (left : Int) (deep : Nat), Fits t → ValOn w t cs → 0 ≤ left → left ≤ 3000 → deep ≤ 200 →
  Calls Tryd.prog 9 #[.agg cs.toArray, .int .i64 left, .int .i64 (deep : Int)] w fun e w' => ∃ r : Int, e = .returned (.int .i64 r) ∧ -1 ≤ r ∧ r ≤ left ∧ Below w.heap.size w w'
set_option maxRecDepth 20000 in
set_option maxHeartbeats 4000000 in
theorem many_one {k : Int} {b : Bool} {t : B} {n : Int} {hh : Bool} {ls : List JV} {ns : List B} (hS : ∀ x ∈ ls, ManyOk x) : ManyOk (.mk k b t n hh ls ns) := by
  intro w cs left deep hf hv h0 h1 hd
  obtain ⟨p1, c1, p2, c2, rfl, hp1, hp2⟩ := hv.open
  simp only [Fits, fitsL_iff] at hf
  have hn := hf.2.1
  unfold maxI at hn
  have HF := hid hf
  have HSO := hid hS
  obtain ⟨n1, e1⟩ : ∃ n1, ls.length = n1 := ⟨_, rfl⟩
  obtain ⟨n2, e2⟩ : ∃ n2, ns.length = n2 := ⟨_, rfl⟩
  have HN := hid e1
  rw [e1, e2]
  rw [e1] at hn
  obtain ⟨W0, hW0⟩ : ∃ W0, W0 = w.alloc (C7 k b t n hh p1 n1 c1 p2 n2 c2) := ⟨_, rfl⟩
  have HW0 := hid hW0
  have HB0 := hid (show Below w.heap.size w W0 from by rw [hW0]; exact below_new _ _)
  have HX0 := hid (show W0.heap[w.heap.size]? = some (C7 k b t n hh p1 n1 c1 p2 n2 c2) from by rw [hW0]; exact heap_alloc_new _ _)
  have HP := hid (hp1.below HB0.out)
  clear hf hv hS hp1 hp2 e1 e2 hW0
  by_cases hd0 : deep = 0
  · subst hd0
    show Calls Tryd.prog 9 #[.agg _, .int .i64 left, .int .i64 0] w _
    go_enter Tryd.func9, Tryd.ntmps9
    go_wp2
    go_ret
    exact ⟨-1, rfl, by omega, by omega, below_new _ _⟩
  · obtain ⟨dp, hdp⟩ : ∃ dp, deep = dp + 1 := ⟨deep - 1, by omega⟩
    subst hdp
    have hc : ((dp + 1 : Nat) : Int) = (dp : Int) + 1 := by push_cast; rfl
    rw [hc]
    have z0 : ((dp : Int) + 1 == 0) = false := by simp only [beq_eq_false_iff_ne, ne_eq]; omega
    clear hc hd0
    go_enter Tryd.func9, Tryd.ntmps9
    go_wp2
    go_loopg [1, 7] (n1 + 1) (fun gk s1 s7 wr => ∃ (i : Nat) (L : Int), i ≤ n1 ∧ gk = n1 - i + 1 ∧ s1 = .int .i64 L ∧ s7 = .int .i64 (i : Int) ∧ -1 ≤ L ∧ L ≤ left - 1 ∧ Below W0.heap.size W0 wr)
    case atStart => exact ⟨0, left - 1, by omega, rfl, rfl, rfl, by omega, by omega, by rw [← HW0.out]; exact Below.refl _ _⟩
    case round =>
      obtain ⟨i, L, hi, rfl, rfl, rfl, hL1, hL2, hb⟩ := hrel
      have HB := hid hb
      have HXr := hid (keep7 HX0.out hb)
      obtain ⟨x0, x1, x2, x3, x4, x5, x6, _⟩ := seven HXr.out
      clear hb
      by_cases hin : i < n1
      · have b1 : (i : Int) < (n1 : Int) := by omega
        by_cases hneg : 0 ≤ L
        · have hi1 : i < ls.length := by rw [HN.out]; exact hin
          obtain ⟨g, o, cs, rfl, hv1, hc1⟩ := HP.out.below HB.out i ls[i] (List.getElem?_eq_getElem hi1)
          have HC := hid (HSO.out ls[i] (List.getElem_mem hi1))
          have HFx := hid (HF.out.2.2.2.2 ls[i] (List.getElem_mem hi1))
          generalize ls[i] = x at hv1 HC HFx
          obtain ⟨k1, k2, k3, k4, k5, k6, k7, k8, k9, k10, k11, rfl⟩ := hv1.form
          obtain ⟨a0, a1, a2, a3, a4, a5, a6⟩ := row7 hc1
          have HV1 := hid hv1
          clear hc1 hv1 hi1
          go_wp2_with (go_at_call 9; have hcall := HC.out _ _ L dp HFx.out HV1.out hneg (by omega) (by omega); (with_reducible refine hcall.mono ?_); clear hcall; rintro e w3 ⟨r, rfl, hr1, hr2, hb⟩; have HB3 := hid (HB.out.trans (hb.mono HB.out.size)); clear hb)
          go_roundg (n1 - (i + 1) + 1)
          case measure => omega
          case rel => exact ⟨i + 1, r, by omega, rfl, rfl, by push_cast; rfl, hr1, by omega, HB3.out⟩
        · go_wp2
          go_ret
          exact ⟨L, rfl, hL1, by omega, HB0.out.trans (HB.out.mono HB0.out.size)⟩
      · have b1 : ¬ (i : Int) < (n1 : Int) := by omega
        go_wp2
        go_ret
        exact ⟨L, rfl, hL1, by omega, HB0.out.trans (HB.out.mono HB0.out.size)⟩
mutual
theorem many_any : ∀ t : JV, ManyOk t
  | .mk _ _ _ _ _ ls _ => many_one (manys_any ls)
theorem manys_any : ∀ ls : List JV, ∀ x ∈ ls, ManyOk x
  | [], x, h => by simp at h
  | y :: ys, x, h => by
    simp only [List.mem_cons] at h
    rcases h with rfl | h
    · exact many_any x
    · exact manys_any ys x h
end
set_option maxRecDepth 20000 in
set_option maxHeartbeats 4000000 in
theorem small_any (t : JV) (w : World) (cs : List Value) (hf : Fits t) (hv : ValOn w t cs) : Calls Tryd.prog 4 #[.agg cs.toArray] w fun e w' => ∃ bb : Bool, e = .returned (.bool bb) ∧ Below w.heap.size w w' := by
  obtain ⟨k1, k2, k3, k4, k5, k6, k7, k8, k9, k10, k11, rfl⟩ := hv.form
  have HF := hid hf
  have HB0 := hid (below_new w (C7 k1 k2 k3 k4 k5 k6 k7 k8 k9 k10 k11))
  have HV := hid (hv.below HB0.out)
  clear hf hv
  go_enter Tryd.func4, Tryd.ntmps4
  go_wp2_with (go_at_call 9; have hcall : Calls Tryd.prog 9 #[.agg #[.int .i64 k1, .bool k2, .string (str k3), .int .i64 k4, .bool k5, .slice k6 k7 k8, .slice k9 k10 k11], .int .i64 3000, .int .i64 200] (w.alloc (C7 k1 k2 k3 k4 k5 k6 k7 k8 k9 k10 k11)) _ := many_any t _ _ 3000 200 HF.out HV.out (by omega) (by omega) (by omega); (with_reducible refine hcall.mono ?_); clear hcall; rintro e w1 ⟨r, rfl, hr1, hr2, hb⟩; have HB := hid (below_out HB0.out hb); clear hb)
  go_ret
  exact ⟨_, rfl, HB.out⟩
end Go.Proofs.YtkoeihliaandeabDoor
