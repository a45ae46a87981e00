/- The value of a kind at a path; whether an object has other names than some. -/
import Derived.Test.YtiglabpemlogbaaDoorKind
import Derived.Maps.OwnSet
import Derived.StringKeys
namespace Go.Proofs.YtiglabpemlogbaaDoor
open Go.RowKit Go.Maps

theorem contains_one (k x : Int) : ([k].take 1).contains x = decide (x = k) := by
  simp only [List.take_succ_cons, List.take_zero, List.contains_cons, List.contains_nil, Bool.or_false]
  by_cases h : x = k <;> simp [h]
theorem heap_alloc_old (w : World) (o : Obj) (k : Nat) (h : k < w.heap.size) : (w.alloc o).heap[k]? = w.heap[k]? := (below_new w o).block k h
/-- The box of the answer behind a new block. -/
theorem cells_old {w : World} {o : Obj} {g : Nat} {c0 c1 c2 c3 c4 c5 c6 : Value} {T : TypeId} (h : w.heap[g]? = some (.cells #[c0, c1, c2, c3, c4, c5, c6] T (0, 0))) : (w.alloc o).heap[g]? = some (.cells #[c0, c1, c2, c3, c4, c5, c6] T (0, 0)) := (heap_alloc_old w o g (lt_of_heap h)).trans h
set_option maxRecDepth 20000 in
set_option maxHeartbeats 8000000 in
theorem findKind_any (k : Int) (t : JV) (p : B) (hp : p.length ≤ 1048577) (w : World) (N g o : Nat) (cs : List Value) (hN : N ≤ w.heap.size) (hf : Fits t) (hE : Env w) (hv : ValB w N t cs) (hk : w.cell? ⟨g, o, none⟩ = some (.int .i64 k)) : Calls Tryd.prog 13 #[.agg cs.toArray, .string (str p), .slice (some ⟨g, o, none⟩) 1 1] w fun e w' => ToldV N (ofKind k (goto t (steps p))).1 (ofKind k (goto t (steps p))).2 w e w' := by
  obtain ⟨k1, k2, k3, k4, k5, k6, k7, k8, k9, k10, k11, rfl⟩ := hv.form
  have HFi := hid (find_any t p hp)
  obtain ⟨S, hS⟩ : ∃ S, str p = S := ⟨_, rfl⟩
  have HS := hid hS
  rw [hS]
  have HF := hid hf
  have HE := hid hE
  have HV := hid hv
  have HN := hid hN
  have HK := hid hk
  obtain ⟨W0, hW0⟩ : ∃ W0, W0 = ((w.alloc (C7 k1 k2 k3 k4 k5 k6 k7 k8 k9 k10 k11)).alloc (.cells #[.int .i64 0, .bool false, .string ⟨#[]⟩, .int .i64 0, .bool false, .slice none 0 0, .slice none 0 0] 25 (0, 0))) := ⟨_, rfl⟩
  have HB0 := hid (show Below w.heap.size w W0 from by rw [hW0]; exact (two_at w _ _).2.2)
  have HX0 := hid (show Fb W0 w.heap.size (C7 k1 k2 k3 k4 k5 k6 k7 k8 k9 k10 k11) from by rw [hW0]; exact ⟨(two_at w _ _).1, (two_at w _ _).2.1⟩)
  have HN0 := hid (show N ≤ W0.heap.size from Nat.le_trans hN HB0.out.size)
  have HW0 := hid hW0
  obtain ⟨G, hG⟩ : ∃ G, goto t (steps p) = G := ⟨_, rfl⟩
  have HG := hid hG
  rw [hG]
  clear hf hE hv hp hG hS hW0 hN hk
  cases G with
  | none =>
    show Calls _ _ _ _ fun e w' => ToldV N JV.zero 8 w e w'
    go_enter Tryd.func13, Tryd.ntmps13
    go_wp2_with (go_at_call 17; have hcall := HFi.out W0 N _ HN0.out HF.out (HE.out.below HB0.out) (HV.out.below (HB0.out.mono HN.out)); rw [HG.out, HS.out] at hcall; rw [← HW0.out]; (with_reducible refine hcall.mono ?_); clear hcall; rintro e w1 ⟨cs1, rfl, hv1, hb⟩; have HB1 := hid (below_out HB0.out hb); have HY1 := hid ((hb.block _ (lt_of_heap HX0.out.y)).trans HX0.out.y); have HX1 := hid (HX0.out.below hb); have HK1 := hid (cell_keep HB1.out HK.out); have HV1 := hid hv1; rw [show errOf (codeN (none : Option JV)) = .iface 43 (.int .i64 8) from rfl]; obtain ⟨u1, u2, u3, u4, u5, u6, u7, u8, u9, u10, u11, rfl⟩ := hv1.form; obtain ⟨y0, y1, y2, y3, y4, y5, y6, yz⟩ := seven (cells_old (o := C7 u1 u2 u3 u4 u5 u6 u7 u8 u9 u10 u11) HY1.out); have yz0 := yz 0; have yz1 := yz 1; have yz2 := yz 2; have yz3 := yz 3; have yz4 := yz 4; have yz5 := yz 5; have yz6 := yz 6; clear yz; clear hb hv1)
    (try simp only [Exit.inBlock, Exit.then])
    refine bodyPost_ret (results_val2 rfl _ _ _ 25 _ (0, 0) rfl (seven_put (has_seven (cells_old HY1.out)) _ _ _ _ _ _ _) rfl) rfl ?_
    exact told_zero (HB1.out.trans ((below_new w1 _).mono HB1.out.size)) (Nat.le_succ _)
  | some v =>
    obtain ⟨xk, xb, xt, xn, xh, xl, xs⟩ := v
    have HCo := hid (contains_one k xk)
    by_cases hkk : xk = k
    · have e1 : ofKind k (some (.mk xk xb xt xn xh xl xs)) = (.mk xk xb xt xn xh xl xs, 0) := by simp [ofKind, JV.kind, hkk]
      rw [e1]
      have d1 : decide (xk = k) = true := by simpa using hkk
      rw [d1] at HCo
      clear e1 hkk d1
      go_enter Tryd.func13, Tryd.ntmps13
      go_wp2_with (first
        | (go_at_call 17; have hcall := HFi.out W0 N _ HN0.out HF.out (HE.out.below HB0.out) (HV.out.below (HB0.out.mono HN.out)); rw [HG.out, HS.out] at hcall; rw [← HW0.out]; (with_reducible refine hcall.mono ?_); clear hcall; rintro e w1 ⟨cs1, rfl, hv1, hb⟩; have HB1 := hid (below_out HB0.out hb); have HY1 := hid ((hb.block _ (lt_of_heap HX0.out.y)).trans HX0.out.y); have HX1 := hid (HX0.out.below hb); have HK1 := hid (cell_keep HB1.out HK.out); have HV1 := hid hv1; rw [show errOf (codeN (some (JV.mk xk xb xt xn xh xl xs))) = .nilIface from rfl]; replace hv1 : ValB w1 N (.mk xk xb xt xn xh xl xs) cs1 := hv1; obtain ⟨p1, c1, p2, c2, rfl, _, _⟩ := hv1.open; obtain ⟨y0, y1, y2, y3, y4, y5, y6, yz⟩ := seven (cells_old (o := C7 xk xb xt xn xh p1 xl.length c1 p2 xs.length c2) HY1.out); have yz0 := yz 0; have yz1 := yz 1; have yz2 := yz 2; have yz3 := yz 3; have yz4 := yz 4; have yz5 := yz 5; have yz6 := yz 6; clear yz; clear hb hv1)
        | (go_at_call 19; have hcall := Tryd.slices_Contains_int g o 1 1 [k] xk (w1.alloc (C7 xk xb xt xn xh p1 xl.length c1 p2 xs.length c2)) (by simp) (by omega) (fun j hj => by obtain rfl : j = 0 := (by simpa using hj); exact cell_keep (below_new w1 _) HK1.out); rw [HCo.out] at hcall; (with_reducible refine hcall.mono ?_); clear hcall; rintro e w2 ⟨rfl, rfl⟩))
      (try simp only [Exit.inBlock, Exit.then])
      refine bodyPost_ret (results_val2 rfl _ _ _ 25 _ (0, 0) rfl (seven_put (has_seven (cells_old HY1.out)) _ _ _ _ _ _ _) rfl) rfl ?_
      exact ⟨_, rfl, HV1.out.below (below_sevenN ((below_new w1 _).mono (Nat.le_trans HN.out HB1.out.size)) (Nat.le_trans HN.out (Nat.le_succ _)) _ _ _ _ _ _ _), below_seven (HB1.out.trans ((below_new w1 _).mono HB1.out.size)) (Nat.le_succ _) _ _ _ _ _ _ _⟩
    · have e1 : ofKind k (some (.mk xk xb xt xn xh xl xs)) = (.zero, 7) := by simp [ofKind, JV.kind, hkk]
      rw [e1]
      have d1 : decide (xk = k) = false := by simpa using hkk
      rw [d1] at HCo
      clear e1 hkk d1
      go_enter Tryd.func13, Tryd.ntmps13
      go_wp2_with (first
        | (go_at_call 17; have hcall := HFi.out W0 N _ HN0.out HF.out (HE.out.below HB0.out) (HV.out.below (HB0.out.mono HN.out)); rw [HG.out, HS.out] at hcall; rw [← HW0.out]; (with_reducible refine hcall.mono ?_); clear hcall; rintro e w1 ⟨cs1, rfl, hv1, hb⟩; have HB1 := hid (below_out HB0.out hb); have HY1 := hid ((hb.block _ (lt_of_heap HX0.out.y)).trans HX0.out.y); have HX1 := hid (HX0.out.below hb); have HK1 := hid (cell_keep HB1.out HK.out); have HV1 := hid hv1; rw [show errOf (codeN (some (JV.mk xk xb xt xn xh xl xs))) = .nilIface from rfl]; replace hv1 : ValB w1 N (.mk xk xb xt xn xh xl xs) cs1 := hv1; obtain ⟨p1, c1, p2, c2, rfl, _, _⟩ := hv1.open; obtain ⟨y0, y1, y2, y3, y4, y5, y6, yz⟩ := seven (cells_old (o := C7 xk xb xt xn xh p1 xl.length c1 p2 xs.length c2) HY1.out); have yz0 := yz 0; have yz1 := yz 1; have yz2 := yz 2; have yz3 := yz 3; have yz4 := yz 4; have yz5 := yz 5; have yz6 := yz 6; clear yz; clear hb hv1)
        | (go_at_call 19; have hcall := Tryd.slices_Contains_int g o 1 1 [k] xk (w1.alloc (C7 xk xb xt xn xh p1 xl.length c1 p2 xs.length c2)) (by simp) (by omega) (fun j hj => by obtain rfl : j = 0 := (by simpa using hj); exact cell_keep (below_new w1 _) HK1.out); rw [HCo.out] at hcall; (with_reducible refine hcall.mono ?_); clear hcall; rintro e w2 ⟨rfl, rfl⟩))
      (try simp only [Exit.inBlock, Exit.then])
      refine bodyPost_ret (results_val2 rfl _ _ _ 25 _ (0, 0) rfl (seven_put (has_seven (cells_old HY1.out)) _ _ _ _ _ _ _) rfl) rfl ?_
      exact ⟨_, rfl, zero_b _ _, below_seven (HB1.out.trans ((below_new w1 _).mono HB1.out.size)) (Nat.le_succ _) _ _ _ _ _ _ _⟩
theorem law : Keyed Tryd.prog 9 := string_keyed Tryd.underlying9
theorem zeroU (w : World) : (zeroValue 41).run Tryd.prog w = .ok (.agg #[]) w := by kernel_rfl
/-- Block m is a map of just these names. -/
def SetAt (w : World) (m : Nat) (ns : List B) : Prop := w.ownsMap Tryd.prog 9 (unitElem (H := Unit)) m ns.length (Maps.setOf (.agg []) (ns.map Lit.string))
theorem has_names (ns : List B) (nm : B) : Maps.has (Maps.setOf (H := Unit) (.agg []) (ns.map Lit.string)) (Lit.string nm) = ns.contains nm := by
  rw [Maps.has_setOf]
  · induction ns with
    | nil => rfl
    | cons a l ih =>
      rw [List.map_cons, List.any_cons, ih, List.contains_cons]
      congr 1
      show (a == nm) = (nm == a)
      exact Bool.eq_iff_iff.2 ⟨fun h => by rw [beq_iff_eq] at h ⊢; exact h.symm, fun h => by rw [beq_iff_eq] at h ⊢; exact h.symm⟩
  · intro x hx
    obtain ⟨t, _, rfl⟩ := List.mem_map.1 hx
    trivial
theorem all_step {ns ms : List B} {i : Nat} (h : i < ns.length) : (ns.take (i + 1)).all (ms.contains ·) = ((ns.take i).all (ms.contains ·) && ms.contains ns[i]) := by
  rw [List.take_add_one, List.getElem?_eq_getElem h, List.all_append]
  simp
theorem all_stop {ns ms : List B} {i : Nat} (h : i < ns.length) (hc : ms.contains ns[i] = false) : ns.all (ms.contains ·) = false := by
  rw [List.all_eq_false]
  exact ⟨ns[i], List.getElem_mem h, by simpa using hc⟩
set_option maxRecDepth 20000 in
set_option maxHeartbeats 8000000 in
theorem only_any (t : JV) (p : B) (hp : p.length ≤ 1048577) (ms : List B) (hm : ms.length ≤ 1048576) (hmz : ∀ z ∈ ms, z.length ≤ 1048576) (w : World) (N : Nat) (cs : List Value) (p3 : Option Addr) (c3 : Nat) (hN : N ≤ w.heap.size) (hf : Fits t) (hE : Env w) (hv : ValB w N t cs) (h3 : NamesOn w ms p3) : Calls Tryd.prog 5 #[.agg cs.toArray, .string (str p), .slice p3 ms.length c3] w fun e w' => e = .returned (errOf (onlyN (ofKind 6 (goto t (steps p))) ms)) ∧ Below w.heap.size w w' := by
  obtain ⟨k1, k2, k3, k4, k5, k6, k7, k8, k9, k10, k11, rfl⟩ := hv.form
  have HFk := hid (findKind_any 6 t p hp)
  obtain ⟨S, hS⟩ : ∃ S, str p = S := ⟨_, rfl⟩
  have HS := hid hS
  rw [hS]
  have HF := hid hf
  have HE := hid hE
  have HV := hid hv
  have HN := hid hN
  have HM3 := hid h3
  have HMZ := hid hmz
  obtain ⟨n3, e3⟩ : ∃ n3, ms.length = n3 := ⟨_, rfl⟩
  have HN3 := hid e3
  rw [e3] at hm ⊢
  obtain ⟨W1, hW1⟩ : ∃ W1, W1 = ((w.alloc (C7 k1 k2 k3 k4 k5 k6 k7 k8 k9 k10 k11)).alloc (.cells #[.int .i64 6] 3 (0, 0))) := ⟨_, rfl⟩
  have HB0 := hid (show Below w.heap.size w W1 from by rw [hW1]; exact (two_at w _ _).2.2)
  have HCell := hid (show W1.cell? ⟨w.heap.size + 1, 0, none⟩ = some (.int .i64 6) from by have := (two_at w (C7 k1 k2 k3 k4 k5 k6 k7 k8 k9 k10 k11) (.cells #[.int .i64 6] 3 (0, 0))).2.1; rw [← hW1] at this; simp [World.cell?, this])
  have HN1 := hid (show N ≤ W1.heap.size from Nat.le_trans hN HB0.out.size)
  have HW1 := hid hW1
  obtain ⟨G, hG⟩ : ∃ G, ofKind 6 (goto t (steps p)) = G := ⟨_, rfl⟩
  have HG := hid hG
  rw [hG]
  have hG2 : G.2 ≠ 0 ∨ G.2 = 0 := by omega
  have HFx := hid (show Fits G.1 from by rw [← hG]; exact fits_kind t (steps p) hf)
  clear hf hE hv hp hG hS hW1 hN h3 hmz e3
  obtain ⟨x, cd⟩ := G
  simp only at hG2
  rcases hG2 with h0 | rfl
  · have e1 : onlyN (x, cd) ms = cd := by simp [onlyN, h0]
    have HEr := hid (errOf_pos h0)
    rw [e1]
    clear e1
    go_enter Tryd.func5, Tryd.ntmps5
    go_wp2_with (go_at_call 13; have hcall := HFk.out W1 N (w.heap.size + 1) 0 _ HN1.out HF.out (HE.out.below HB0.out) (HV.out.below (HB0.out.mono HN.out)) HCell.out; rw [HG.out, HS.out] at hcall; rw [← HW1.out]; (with_reducible refine hcall.mono ?_); clear hcall; rintro e w1 ⟨cs1, rfl, hv1, hb⟩; have HB1 := hid (below_out HB0.out hb); have HV1 := hid hv1; rw [HEr.out]; obtain ⟨u1, u2, u3, u4, u5, u6, u7, u8, u9, u10, u11, rfl⟩ := hv1.form; clear hb hv1)
    go_ret
    rw [HEr.out]
    exact ⟨rfl, HB1.out.trans ((below_new w1 _).mono HB1.out.size)⟩
  · obtain ⟨xk, xb, xt, xn, xh, xl, xs⟩ := x
    have HOn := hid (show onlyN (.mk xk xb xt xn xh xl xs, 0) ms = if xs.all (ms.contains ·) then 0 else 10 from by simp [onlyN, JV.names])
    simp only [Fits] at HFx
    obtain ⟨n2, e2⟩ : ∃ n2, xs.length = n2 := ⟨_, rfl⟩
    have HN2 := hid e2
    have hn2 : n2 ≤ 1048576 := by rw [← e2]; exact HFx.out.2.2.1
    have HZ2 := hid HFx.out.2.2.2.1
    clear e2
    have hmm := @run_makeMap Tryd.prog
    go_enter Tryd.func5, Tryd.ntmps5
    go_wp2_with (go_at_call 13; have hcall := HFk.out W1 N (w.heap.size + 1) 0 _ HN1.out HF.out (HE.out.below HB0.out) (HV.out.below (HB0.out.mono HN.out)) HCell.out; rw [HG.out, HS.out] at hcall; rw [← HW1.out]; (with_reducible refine hcall.mono ?_); clear hcall; rintro e w1 ⟨cs1, rfl, hv1, hb⟩; have HB1 := hid (below_out HB0.out hb); have HV1 := hid hv1; rw [errOf_zero]; obtain ⟨p1, c1, p2, c2, rfl, _, hnames⟩ := hv1.open; rw [HN2.out]; have HNa := hid hnames; clear hnames; clear hb hv1)
    clear hmm
    have HM0 := hid (show SetAt ((w1.alloc (C7 xk xb xt xn xh p1 xl.length c1 p2 n2 c2)).alloc (.map #[] 0)) (w1.heap.size + 1) [] from by have := World.ownsMap_made (w1.alloc (C7 xk xb xt xn xh p1 xl.length c1 p2 n2 c2)) Tryd.prog 9 (unitElem (H := Unit)); rw [show (w1.alloc (C7 xk xb xt xn xh p1 xl.length c1 p2 n2 c2)).heap.size = w1.heap.size + 1 by simp] at this; exact this)
    have HXB := hid (show ((w1.alloc (C7 xk xb xt xn xh p1 xl.length c1 p2 n2 c2)).alloc (.map #[] 0)).heap[w1.heap.size]? = some (C7 xk xb xt xn xh p1 xl.length c1 p2 n2 c2) from (two_at w1 _ _).1)
    have HXL := hid (show Below w1.heap.size w1 ((w1.alloc (C7 xk xb xt xn xh p1 xl.length c1 p2 n2 c2)).alloc (.map #[] 0)) from (two_at w1 _ _).2.2)
    have HXS := hid (show ((w1.alloc (C7 xk xb xt xn xh p1 xl.length c1 p2 n2 c2)).alloc (.map #[] 0)).heap.size = w1.heap.size + 1 + 1 from by simp)
    generalize ((w1.alloc (C7 xk xb xt xn xh p1 xl.length c1 p2 n2 c2)).alloc (.map #[] 0)) = X at HM0 HXB HXL HXS ⊢
    go_loopg [29] (n3 + 1) (fun gk s29 wr => ∃ i : Nat, i ≤ n3 ∧ gk = n3 - i + 1 ∧ s29 = .int .i64 (i : Int) ∧ SetAt wr (w1.heap.size + 1) (ms.take i) ∧ Below (w1.heap.size + 1) X wr)
    case atStart => exact ⟨0, by omega, rfl, rfl, HM0.out, Below.refl _ _⟩
    case round =>
      obtain ⟨i, hi, rfl, rfl, hs, hb⟩ := hrel
      have HBr := hid hb
      have HSr := hid hs
      have HBw := hid (show Below w.heap.size w wr from HB1.out.trans ((HXL.out.trans (hb.mono (Nat.le_succ _))).mono HB1.out.size))
      clear hs hb
      by_cases hin : i < n3
      · have hi1 : i < ms.length := by rw [HN3.out]; exact hin
        obtain ⟨g, o, rfl, hc⟩ := HM3.out.below HBw.out i ms[i] (List.getElem?_eq_getElem hi1)
        have HTk := hid (show ms.take (i + 1) = ms.take i ++ [ms[i]] from by rw [List.take_add_one, List.getElem?_eq_getElem hi1]; rfl)
        have HZx := hid (HMZ.out ms[i] (List.getElem_mem hi1))
        have HLen := hid (show (ms.take i).length = i from by rw [List.length_take]; omega)
        generalize ms[i] = y at hc HTk HZx
        have HKey := hid (Go.WideMaps.keyOf_string_mk (k := 9) Tryd.underlying9 (s := str y) (show y.toArray.size ≤ maxLen by have := HZx.out; unfold maxLen; simp; omega))
        clear hi1
        go_wp2_with (at_mapUpdate; refine wpList_mapUpdate_own _ rfl _ _ _ 40 rfl 9 41 law Tryd.underlying40 (unitElem (H := Unit)) (w1.heap.size + 1) _ _ rfl HSr.out (by unfold maxLen; rw [HLen.out]; omega) _ _ _ rfl rfl HKey.out _ [] unitElem_mk ?_; intro w2 hown hgrow; have HB2 := hid (HBr.out.trans (show Below (w1.heap.size + 1) wr w2 from ⟨hgrow.os, hgrow.tape, hgrow.output, hgrow.size, fun k hk => hgrow.block k (Nat.lt_of_lt_of_le hk (Nat.le_trans (by rw [HXS.out]; omega) HBr.out.size)) (by simp; omega)⟩)); have HS2 := hid (show SetAt w2 (w1.heap.size + 1) (ms.take (i + 1)) from (by rw [HTk.out]; unfold SetAt; rw [List.map_append, List.map_cons, List.map_nil, Maps.setOf_snoc, List.length_append]; exact hown)); clear hown hgrow)
        go_roundg (n3 - (i + 1) + 1)
        case measure => omega
        case rel => exact ⟨i + 1, by omega, rfl, by push_cast; rfl, HS2.out, HB2.out⟩
      · obtain rfl : i = n3 := by omega
        have e1 : ms.take i = ms := List.take_of_length_le (by rw [HN3.out]; exact Nat.le_refl _)
        rw [e1] at HSr
        clear e1
        have hbx := (HBr.out.block w1.heap.size (Nat.lt_succ_self _)).trans HXB.out
        obtain ⟨bx0, bx1, bx2, bx3, bx4, bx5, bx6, bxz⟩ := seven hbx; clear bxz
        clear hbx
        go_wp2
        have HNw := hid (HNa.out.below ((HXL.out.trans (HBr.out.mono (Nat.le_succ _))).mono (Nat.le_trans HN.out HB1.out.size)))
        go_loopg [40] (n2 + 1) (fun gk s40 ur => ∃ j : Nat, j ≤ n2 ∧ gk = n2 - j + 1 ∧ s40 = .int .i64 (j : Int) ∧ (xs.take j).all (ms.contains ·) = true ∧ Below wr.heap.size wr ur)
        case atStart => exact ⟨0, by omega, rfl, rfl, rfl, Below.refl _ _⟩
        case round =>
          obtain ⟨j, hj, rfl, rfl, hall, hbu⟩ := hrel
          rename World => ur
          have HBu := hid hbu
          have HAll := hid hall
          have HSu := hid (show SetAt ur (w1.heap.size + 1) ms from World.ownsMap.kept HSr.out (show wr.grownBy ur none from ⟨hbu.os, hbu.tape, hbu.output, hbu.size, fun k hk _ => hbu.block k hk⟩) (by simp))
          clear hall hbu
          by_cases hjn : j < n2
          · have hj1 : j < xs.length := by rw [HN2.out]; exact hjn
            obtain ⟨g2, o2, rfl, hg2, hc2⟩ := HNw.out.below (HBu.out.mono (Nat.le_trans HN.out HBw.out.size)) j xs[j] (List.getElem?_eq_getElem hj1)
            have HStep := hid (all_step (ms := ms) hj1)
            have HStop := hid (all_stop (ms := ms) hj1)
            have HZy := hid (HZ2.out xs[j] (List.getElem_mem hj1))
            unfold maxI at HZy
            generalize xs[j] = y at hc2 HStep HStop HZy
            have HKey := hid (Go.WideMaps.keyOf_string_mk (k := 9) Tryd.underlying9 (s := str y) (show y.toArray.size ≤ maxLen by have := HZy.out; unfold maxLen; simp; omega))
            clear hj1
            cases hcon : ms.contains y with
            | true =>
              rw [hcon] at HStep
              have HF1 := hid hcon
              clear hcon
              go_wp2_with (at_lookup; refine wpList_lookup_own_unit _ rfl _ _ 40 rfl 9 41 law Tryd.underlying40 (zeroU _) (w1.heap.size + 1) ms.length _ rfl HSu.out _ _ rfl HKey.out ?_; rw [has_names, HF1.out])
              go_roundg (n2 - (j + 1) + 1)
              case measure => omega
              case rel => exact ⟨j + 1, by omega, rfl, by push_cast; rfl, by rw [HStep.out, HAll.out]; rfl, HBu.out.trans ((below_new ur _).mono HBu.out.size)⟩
            | false =>
              have HF1 := hid hcon
              have HEnd := hid (HStop.out hcon)
              clear hcon
              go_wp2_with (at_lookup; refine wpList_lookup_own_unit _ rfl _ _ 40 rfl 9 41 law Tryd.underlying40 (zeroU _) (w1.heap.size + 1) ms.length _ rfl HSu.out _ _ rfl HKey.out ?_; rw [has_names, HF1.out])
              go_ret
              rw [HOn.out, HEnd.out]
              exact ⟨rfl, HBw.out.trans ((HBu.out.trans ((below_new ur _).mono HBu.out.size)).mono HBw.out.size)⟩
          · obtain rfl : j = n2 := by omega
            have e1 : xs.take j = xs := List.take_of_length_le (by rw [HN2.out]; exact Nat.le_refl _)
            rw [e1] at HAll
            clear e1
            go_wp2
            go_ret
            rw [HOn.out, HAll.out]
            exact ⟨rfl, HBw.out.trans (HBu.out.mono HBw.out.size)⟩
end Go.Proofs.YtiglabpemlogbaaDoor
