/- The document's value of a kind; whether an object has other names than some; whether two rows of texts are the same. -/
import Derived.Test.YtiglabpemlogbaaDoorRAt
namespace Go.Proofs.YtiglabpemlogbaaDoor
open Go.RowKit

set_option maxRecDepth 20000 in
set_option maxHeartbeats 8000000 in
theorem of_any (k : Int) (t : JV) (p : B) (hp : p.length ≤ 1048577) (w : World) (N : Nat) (cs : List Value) (hN : N ≤ w.heap.size) (hf : Fits t) (hv : ValB w N t cs) : Calls Tryd.prog 15 #[.agg cs.toArray, .string (str p), .int .i64 k] w fun e w' => ToldR N (ofKind k (goto t (steps p))).1 (ofKind k (goto t (steps p))).2 w e w' := by
  obtain ⟨k1, k2, k3, k4, k5, k6, k7, k8, k9, k10, k11, rfl⟩ := hv.form
  have HFi := hid (rat_any t p hp)
  obtain ⟨S, hS⟩ : ∃ S, str p = S := ⟨_, rfl⟩
  have HS := hid hS
  rw [hS]
  have HF := hid hf
  have HV := hid hv
  have HN := hid hN
  obtain ⟨W0, hW0⟩ : ∃ W0, W0 = ((w.alloc (C7 k1 k2 k3 k4 k5 k6 k7 k8 k9 k10 k11)).alloc (.cells #[.int .i64 0, .bool false, .string ⟨#[]⟩, .int .i64 0, .bool false, .slice none 0 0, .slice none 0 0] 25 (0, 0))) := ⟨_, rfl⟩
  have HB0 := hid (show Below w.heap.size w W0 from by rw [hW0]; exact (two_at w _ _).2.2)
  have HX0 := hid (show Fb W0 w.heap.size (C7 k1 k2 k3 k4 k5 k6 k7 k8 k9 k10 k11) from by rw [hW0]; exact ⟨(two_at w _ _).1, (two_at w _ _).2.1⟩)
  have HN0 := hid (show N ≤ W0.heap.size from Nat.le_trans hN HB0.out.size)
  have HW0 := hid hW0
  obtain ⟨G, hG⟩ : ∃ G, goto t (steps p) = G := ⟨_, rfl⟩
  have HG := hid hG
  rw [hG]
  clear hf hv hp hG hS hW0 hN
  cases G with
  | none =>
    show Calls _ _ _ _ fun e w' => ToldR N JV.zero 8 w e w'
    go_enter Tryd.func15, Tryd.ntmps15
    go_wp2_with (go_at_call 24; have hcall := HFi.out W0 N _ HN0.out HF.out (HV.out.below (HB0.out.mono HN.out)); rw [HG.out, HS.out] at hcall; rw [← HW0.out]; (with_reducible refine hcall.mono ?_); clear hcall; rintro e w1 ⟨cs1, rfl, hv1, hb⟩; have HB1 := hid (below_out HB0.out hb); have HY1 := hid ((hb.block _ (lt_of_heap HX0.out.y)).trans HX0.out.y); have HV1 := hid hv1; rw [show ((codeN (none : Option JV) : Nat) : Int) = 8 from rfl]; obtain ⟨u1, u2, u3, u4, u5, u6, u7, u8, u9, u10, u11, rfl⟩ := hv1.form; obtain ⟨y0, y1, y2, y3, y4, y5, y6, yz⟩ := seven (cells_old (o := C7 u1 u2 u3 u4 u5 u6 u7 u8 u9 u10 u11) HY1.out); have yz0 := yz 0; have yz1 := yz 1; have yz2 := yz 2; have yz3 := yz 3; have yz4 := yz 4; have yz5 := yz 5; have yz6 := yz 6; clear yz; clear hb hv1)
    (try simp only [Exit.inBlock, Exit.then])
    refine bodyPost_ret (results_val2 rfl _ _ _ 25 _ (0, 0) rfl (seven_put (has_seven (cells_old HY1.out)) _ _ _ _ _ _ _) rfl) rfl ?_
    exact toldR_zero (HB1.out.trans ((below_new w1 _).mono HB1.out.size)) (Nat.le_succ _)
  | some v =>
    obtain ⟨xk, xb, xt, xn, xh, xl, xs⟩ := v
    by_cases hkk : xk = k
    · have e1 : ofKind k (some (.mk xk xb xt xn xh xl xs)) = (.mk xk xb xt xn xh xl xs, 0) := by simp [ofKind, JV.kind, hkk]
      rw [e1]
      subst hkk
      clear e1
      go_enter Tryd.func15, Tryd.ntmps15
      go_wp2_with (go_at_call 24; have hcall := HFi.out W0 N _ HN0.out HF.out (HV.out.below (HB0.out.mono HN.out)); rw [HG.out, HS.out] at hcall; rw [← HW0.out]; (with_reducible refine hcall.mono ?_); clear hcall; rintro e w1 ⟨cs1, rfl, hv1, hb⟩; have HB1 := hid (below_out HB0.out hb); have HY1 := hid ((hb.block _ (lt_of_heap HX0.out.y)).trans HX0.out.y); have HV1 := hid hv1; rw [show ((codeN (some (JV.mk xk xb xt xn xh xl xs)) : Nat) : Int) = 0 from rfl]; replace hv1 : ValB w1 N (.mk xk xb xt xn xh xl xs) cs1 := hv1; obtain ⟨p1, c1, p2, c2, rfl, _, _⟩ := hv1.open; obtain ⟨y0, y1, y2, y3, y4, y5, y6, yz⟩ := seven (cells_old (o := (C7 xk xb xt xn xh p1 xl.length c1 p2 xs.length c2)) HY1.out); have yz0 := yz 0; have yz1 := yz 1; have yz2 := yz 2; have yz3 := yz 3; have yz4 := yz 4; have yz5 := yz 5; have yz6 := yz 6; clear yz; clear hb hv1)
      (try simp only [Exit.inBlock, Exit.then])
      refine bodyPost_ret (results_val2 rfl _ _ _ 25 _ (0, 0) rfl (seven_put (has_seven (cells_old HY1.out)) _ _ _ _ _ _ _) rfl) rfl ?_
      exact ⟨_, rfl, HV1.out.below (below_sevenN ((below_new w1 _).mono (Nat.le_trans HN.out HB1.out.size)) (Nat.le_trans HN.out (Nat.le_succ _)) _ _ _ _ _ _ _), below_seven (HB1.out.trans ((below_new w1 _).mono HB1.out.size)) (Nat.le_succ _) _ _ _ _ _ _ _⟩
    · have e1 : ofKind k (some (.mk xk xb xt xn xh xl xs)) = (.zero, 7) := by simp [ofKind, JV.kind, hkk]
      rw [e1]
      have hk2 : (xk == k) = false := by simpa using hkk
      clear e1
      go_enter Tryd.func15, Tryd.ntmps15
      go_wp2_with (go_at_call 24; have hcall := HFi.out W0 N _ HN0.out HF.out (HV.out.below (HB0.out.mono HN.out)); rw [HG.out, HS.out] at hcall; rw [← HW0.out]; (with_reducible refine hcall.mono ?_); clear hcall; rintro e w1 ⟨cs1, rfl, hv1, hb⟩; have HB1 := hid (below_out HB0.out hb); have HY1 := hid ((hb.block _ (lt_of_heap HX0.out.y)).trans HX0.out.y); have HV1 := hid hv1; rw [show ((codeN (some (JV.mk xk xb xt xn xh xl xs)) : Nat) : Int) = 0 from rfl]; replace hv1 : ValB w1 N (.mk xk xb xt xn xh xl xs) cs1 := hv1; obtain ⟨p1, c1, p2, c2, rfl, _, _⟩ := hv1.open; obtain ⟨y0, y1, y2, y3, y4, y5, y6, yz⟩ := seven (cells_old (o := (C7 xk xb xt xn xh p1 xl.length c1 p2 xs.length c2)) HY1.out); have yz0 := yz 0; have yz1 := yz 1; have yz2 := yz 2; have yz3 := yz 3; have yz4 := yz 4; have yz5 := yz 5; have yz6 := yz 6; clear yz; clear hb hv1)
      (try simp only [Exit.inBlock, Exit.then])
      refine bodyPost_ret (results_val2 rfl _ _ _ 25 _ (0, 0) rfl (seven_put (has_seven (cells_old HY1.out)) _ _ _ _ _ _ _) rfl) rfl ?_
      exact ⟨_, rfl, zero_b _ _, below_seven (HB1.out.trans ((below_new w1 _).mono HB1.out.size)) (Nat.le_succ _) _ _ _ _ _ _ _⟩
theorem con_step {ms : List B} {y : B} {k : Nat} (h : k < ms.length) : (ms.take (k + 1)).contains y = ((ms.take k).contains y || ms[k] == y) := by
  rw [List.take_add_one, List.getElem?_eq_getElem h]
  simp only [Option.toList_some, List.contains_eq_any_beq, List.any_append, List.any_cons, List.any_nil, Bool.or_false]
  congr 1
  exact Bool.eq_iff_iff.2 ⟨fun h => by rw [beq_iff_eq] at h ⊢; exact h.symm, fun h => by rw [beq_iff_eq] at h ⊢; exact h.symm⟩
set_option maxRecDepth 20000 in
set_option maxHeartbeats 8000000 in
theorem ronly_any (t : JV) (p : B) (hp : p.length ≤ 1048577) (ms : List B) (hm : ms.length ≤ 1048576) (w : World) (N : Nat) (cs : List Value) (p3 : Option Addr) (c3 : Nat) (hN : N ≤ w.heap.size) (hf : Fits t) (hv : ValB w N t cs) (h3 : NamesOn w ms p3) : Calls Tryd.prog 7 #[.agg cs.toArray, .string (str p), .slice p3 ms.length c3] w fun e w' => e = .returned (.int .i64 ((onlyN (ofKind 6 (goto t (steps p))) ms : Nat) : Int)) ∧ Below w.heap.size w w' := by
  obtain ⟨k1, k2, k3, k4, k5, k6, k7, k8, k9, k10, k11, rfl⟩ := hv.form
  have HFk := hid (of_any 6 t p hp)
  obtain ⟨S, hS⟩ : ∃ S, str p = S := ⟨_, rfl⟩
  have HS := hid hS
  rw [hS]
  have HF := hid hf
  have HV := hid hv
  have HN := hid hN
  have HM3 := hid h3
  obtain ⟨n3, e3⟩ : ∃ n3, ms.length = n3 := ⟨_, rfl⟩
  have HN3 := hid e3
  rw [e3] at hm ⊢
  obtain ⟨W1, hW1⟩ : ∃ W1, W1 = (w.alloc (C7 k1 k2 k3 k4 k5 k6 k7 k8 k9 k10 k11)) := ⟨_, rfl⟩
  have HB0 := hid (show Below w.heap.size w W1 from by rw [hW1]; exact below_new _ _)
  have HN1 := hid (show N ≤ W1.heap.size from Nat.le_trans hN HB0.out.size)
  have HW1 := hid hW1
  obtain ⟨G, hG⟩ : ∃ G, ofKind 6 (goto t (steps p)) = G := ⟨_, rfl⟩
  have HG := hid hG
  rw [hG]
  have hG2 : G.2 ≠ 0 ∨ G.2 = 0 := by omega
  have HFx := hid (show Fits G.1 from by rw [← hG]; exact fits_kind t (steps p) hf)
  clear hf hv hp hG hS hW1 hN h3 e3
  obtain ⟨x, cd⟩ := G
  simp only at hG2
  rcases hG2 with h0 | rfl
  · have e1 : onlyN (x, cd) ms = cd := by simp [onlyN, h0]
    rw [e1]
    have hcd : ((cd : Int) == 0) = false := by simp only [beq_eq_false_iff_ne, ne_eq]; omega
    have hcd2 : ¬ (cd : Int) = 0 := by omega
    clear e1
    go_enter Tryd.func7, Tryd.ntmps7
    go_wp2_with (go_at_call 15; have hcall := HFk.out W1 N _ HN1.out HF.out (HV.out.below (HB0.out.mono HN.out)); rw [HG.out, HS.out] at hcall; rw [← HW1.out]; (with_reducible refine hcall.mono ?_); clear hcall; rintro e w1 ⟨cs1, rfl, hv1, hb⟩; have HB1 := hid (below_out HB0.out hb); have HV1 := hid hv1; obtain ⟨u1, u2, u3, u4, u5, u6, u7, u8, u9, u10, u11, rfl⟩ := hv1.form; clear hb hv1)
    go_ret
    exact ⟨rfl, HB1.out.trans ((below_new w1 _).mono HB1.out.size)⟩
  · obtain ⟨xk, xb, xt, xn, xh, xl, xs⟩ := x
    have HOn := hid (show onlyN (.mk xk xb xt xn xh xl xs, 0) ms = if xs.all (ms.contains ·) then 0 else 10 from by simp [onlyN, JV.names])
    simp only [Fits] at HFx
    obtain ⟨n2, e2⟩ : ∃ n2, xs.length = n2 := ⟨_, rfl⟩
    have HN2 := hid e2
    have hn2 : n2 ≤ 1048576 := by rw [← e2]; exact HFx.out.2.2.1
    clear e2
    go_enter Tryd.func7, Tryd.ntmps7
    go_wp2_with (go_at_call 15; have hcall := HFk.out W1 N _ HN1.out HF.out (HV.out.below (HB0.out.mono HN.out)); rw [HG.out, HS.out] at hcall; rw [← HW1.out]; (with_reducible refine hcall.mono ?_); clear hcall; rintro e w1 ⟨cs1, rfl, hv1, hb⟩; have HB1 := hid (below_out HB0.out hb); have HV1 := hid hv1; rw [show ((0 : Nat) : Int) = 0 from rfl]; obtain ⟨p1, c1, p2, c2, rfl, _, hnames⟩ := hv1.open; rw [HN2.out]; have HNa := hid hnames; clear hnames; clear hb hv1)
    have HXB := hid (show (w1.alloc (C7 xk xb xt xn xh p1 xl.length c1 p2 n2 c2)).heap[w1.heap.size]? = some (C7 xk xb xt xn xh p1 xl.length c1 p2 n2 c2) from heap_alloc_new _ _)
    have HXL := hid (below_new w1 (C7 xk xb xt xn xh p1 xl.length c1 p2 n2 c2))
    generalize (w1.alloc (C7 xk xb xt xn xh p1 xl.length c1 p2 n2 c2)) = X at HXB HXL ⊢
    have HBX := hid (HB1.out.trans (HXL.out.mono HB1.out.size))
    go_loopg [9] (n2 + 1) (fun gk s9 wr => ∃ i : Nat, i ≤ n2 ∧ gk = n2 - i + 1 ∧ s9 = .int .i64 (i : Int) ∧ (xs.take i).all (ms.contains ·) = true ∧ Below X.heap.size X wr)
    case atStart => exact ⟨0, by omega, rfl, rfl, rfl, Below.refl _ _⟩
    case round =>
      obtain ⟨i, hi, rfl, rfl, hall, hb⟩ := hrel
      have HBr := hid hb
      have HAll := hid hall
      have HBw := hid (HBX.out.trans (hb.mono HBX.out.size))
      have HXr := hid ((hb.block _ (lt_of_heap HXB.out)).trans HXB.out)
      obtain ⟨bx0, bx1, bx2, bx3, bx4, bx5, bx6, bxz⟩ := seven HXr.out; clear bxz
      clear hb hall
      by_cases hin : i < n2
      · have hi1 : i < xs.length := by rw [HN2.out]; exact hin
        obtain ⟨g2, o2, rfl, hg2, hc2⟩ := (HNa.out.below (HXL.out.mono (Nat.le_trans HN.out HB1.out.size))).below (HBr.out.mono (Nat.le_trans HN.out HBX.out.size)) i xs[i] (List.getElem?_eq_getElem hi1)
        have HStep := hid (all_step (ms := ms) hi1)
        have HStop := hid (all_stop (ms := ms) hi1)
        generalize xs[i] = y at hc2 HStep HStop
        have HC2 := hid hc2
        clear hi1 hc2
        go_wp2
        go_loopg [10, 11] (n3 + 1) (fun gk s10 s11 ur => ∃ k : Nat, k ≤ n3 ∧ gk = n3 - k + 1 ∧ s10 = .bool ((ms.take k).contains y) ∧ s11 = .int .i64 (k : Int) ∧ Below wr.heap.size wr ur)
        case atStart => exact ⟨0, by omega, rfl, rfl, rfl, Below.refl _ _⟩
        case round =>
          obtain ⟨k, hk, rfl, rfl, rfl, hbu⟩ := hrel
          rename World => ur
          have HBu := hid hbu
          have HXu := hid ((hbu.block _ (lt_of_heap HXr.out)).trans HXr.out)
          obtain ⟨cx0, cx1, cx2, cx3, cx4, cx5, cx6, cxz⟩ := seven HXu.out; clear cxz
          clear hbu bx0 bx1 bx2 bx3 bx4 bx5 bx6
          by_cases hkn : k < n3
          · have hk1 : k < ms.length := by rw [HN3.out]; exact hkn
            obtain ⟨g3, o3, rfl, hc3⟩ := (HM3.out.below HBw.out).below HBu.out k ms[k] (List.getElem?_eq_getElem hk1)
            have HCs := hid (con_step (y := y) hk1)
            have hcy := cell_keep HBu.out HC2.out
            obtain ⟨z, hz⟩ : ∃ z, ms[k] = z := ⟨_, rfl⟩
            rw [hz] at hc3 HCs
            clear hz hk1
            cases hcon : (ms.take k).contains y with
            | true =>
              rw [hcon] at HCs
              clear hcon
              go_wp2
              go_quiet (fail)
              go_wp2
              go_roundg (n3 - (k + 1) + 1)
              case measure => omega
              case rel => exact ⟨k + 1, by omega, rfl, by rw [HCs.out]; simp, by push_cast; rfl, HBu.out.trans ((below_drew (Below.refl ur.heap.size ur) nq).mono HBu.out.size)⟩
            | false =>
              rw [hcon] at HCs
              clear hcon
              by_cases hzy : z = y
              · subst hzy
                go_wp2
                go_quiet (fail)
                go_wp2
                go_roundg (n3 - (k + 1) + 1)
                case measure => omega
                case rel => exact ⟨k + 1, by omega, rfl, by rw [HCs.out]; simp, by push_cast; rfl, HBu.out.trans ((below_drew (Below.refl ur.heap.size ur) nq).mono HBu.out.size)⟩
              · have hne := ne_list (str_ne hzy)
                have hzb : (z == y) = false := by simpa using hzy
                rw [hzb] at HCs
                obtain ⟨ZZ, hZZ⟩ : ∃ ZZ, str z = ZZ := ⟨_, rfl⟩
                obtain ⟨YY, hYY⟩ : ∃ YY, str y = YY := ⟨_, rfl⟩
                rw [hZZ] at hne hc3
                rw [hYY] at hne hcy
                clear hZZ hYY
                go_wp2
                go_quiet (fail)
                go_wp2
                go_roundg (n3 - (k + 1) + 1)
                case measure => omega
                case rel => exact ⟨k + 1, by omega, rfl, by rw [HCs.out]; rfl, by push_cast; rfl, HBu.out.trans ((below_drew (Below.refl ur.heap.size ur) nq).mono HBu.out.size)⟩
          · obtain rfl : k = n3 := by omega
            have e1 : ms.take k = ms := List.take_of_length_le (by rw [HN3.out]; exact Nat.le_refl _)
            rw [e1]
            clear e1
            cases hcon : ms.contains y with
            | true =>
              rw [hcon] at HStep
              clear hcon
              go_wp2
              go_roundg (n2 - (i + 1) + 1)
              case measure => omega
              case rel => exact ⟨i + 1, by omega, rfl, by push_cast; rfl, by rw [HStep.out, HAll.out]; rfl, HBr.out.trans (HBu.out.mono HBr.out.size)⟩
            | false =>
              have HEnd := hid (HStop.out hcon)
              clear hcon
              go_wp2
              go_ret
              rw [HOn.out, HEnd.out]
              exact ⟨rfl, HBw.out.trans (HBu.out.mono HBw.out.size)⟩
      · obtain rfl : i = n2 := by omega
        have e1 : xs.take i = xs := List.take_of_length_le (by rw [HN2.out]; exact Nat.le_refl _)
        rw [e1] at HAll
        clear e1
        go_wp2
        go_ret
        rw [HOn.out, HAll.out]
        exact ⟨rfl, HBw.out⟩
end Go.Proofs.YtiglabpemlogbaaDoor
