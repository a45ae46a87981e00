/- PickBehind: the value at a path, copied; a path behind a path. -/
import Derived.Test.YtiglabpemlogbaaDoorCopy
namespace Go.Proofs.YtiglabpemlogbaaDoor
open Go.RowKit

/-- A value in memory, and the error. -/
def ToldA (r : JV) (k : Nat) (w : World) (e : Ending) (w' : World) : Prop := ∃ cs : List Value, e = .returned (.tuple #[.agg cs.toArray, errOf k]) ∧ ValOn w' r cs ∧ Below w.heap.size w w'
set_option maxRecDepth 20000 in
set_option maxHeartbeats 8000000 in
theorem at_any (t : JV) (p : B) (hp : p.length ≤ 1048577) (w : World) (cs : List Value) (hf : Fits t) (hE : Env w) (hv : ValOn w t cs) : Calls Tryd.prog 11 #[.agg cs.toArray, .string (str p)] w fun e w' => ToldA ((goto t (steps p)).getD JV.zero) (codeN (goto t (steps p))) w e w' := by
  obtain ⟨k1, k2, k3, k4, k5, k6, k7, k8, k9, k10, k11, rfl⟩ := hv.form
  have HFi := hid (find_any t p hp)
  have HFr := hid (show Fits ((goto t (steps p)).getD JV.zero) from by
    cases h : goto t (steps p) with
    | none => exact fits_zero
    | some y => exact fits_goto _ _ _ hf h)
  obtain ⟨S, hS⟩ : ∃ S, str p = S := ⟨_, rfl⟩
  have HS := hid hS
  rw [hS]
  have HF := hid hf
  have HE := hid hE
  have HV := hid (show ValB w w.heap.size t _ from hv)
  obtain ⟨W0, hW0⟩ : ∃ W0, W0 = ((w.alloc (C7 k1 k2 k3 k4 k5 k6 k7 k8 k9 k10 k11)).alloc (.cells #[.int .i64 0, .bool false, .string ⟨#[]⟩, .int .i64 0, .bool false, .slice none 0 0, .slice none 0 0] 25 (0, 0))) := ⟨_, rfl⟩
  have HB0 := hid (show Below w.heap.size w W0 from by rw [hW0]; exact (two_at w _ _).2.2)
  have HX0 := hid (show Fb W0 w.heap.size (C7 k1 k2 k3 k4 k5 k6 k7 k8 k9 k10 k11) from by rw [hW0]; exact ⟨(two_at w _ _).1, (two_at w _ _).2.1⟩)
  have HW0 := hid hW0
  obtain ⟨r, hr⟩ : ∃ r, (goto t (steps p)).getD JV.zero = r := ⟨_, rfl⟩
  obtain ⟨c, hc⟩ : ∃ c, codeN (goto t (steps p)) = c := ⟨_, rfl⟩
  rw [hr, hc] at HFi ⊢
  rw [hr] at HFr
  have HCo := hid (copied_any r)
  obtain ⟨E, hE2⟩ : ∃ E, errOf c = E := ⟨_, rfl⟩
  have HEc := hid hE2
  clear hf hE hv hp hS hW0 hr hc hE2
  go_enter Tryd.func11, Tryd.ntmps11
  go_wp2_with (first
    | (go_at_call 17; have hcall := HFi.out W0 w.heap.size _ HB0.out.size HF.out (HE.out.below HB0.out) (HV.out.below HB0.out); rw [HS.out] at hcall; rw [← HW0.out]; (with_reducible refine hcall.mono ?_); clear hcall; rintro e w1 ⟨cs1, rfl, hv1, hb⟩; rw [HEc.out]; have HB1 := hid (below_out HB0.out hb); have HY1 := hid ((hb.block _ (lt_of_heap HX0.out.y)).trans HX0.out.y); obtain ⟨u1, u2, u3, u4, u5, u6, u7, u8, u9, u10, u11, rfl⟩ := hv1.form; have HV1 := hid (hv1.on HB1.out.size); clear hb hv1)
    | (go_at_call 18; have hcall := HCo.out (w1.alloc (C7 u1 u2 u3 u4 u5 u6 u7 u8 u9 u10 u11)) _ HFr.out (HV1.out.below (below_new w1 _)); (with_reducible refine hcall.mono ?_); clear hcall; rintro e w2 ⟨cs2, rfl, hv2, hb⟩; have HY2 := hid ((hb.block _ (lt_of_heap (cells_old HY1.out))).trans (cells_old HY1.out)); have HB2 := hid (HB1.out.trans ((below_out (below_new w1 _) hb).mono HB1.out.size)); have HV2 := hid hv2; have HSz := hid (show w.heap.size + 1 < (w1.alloc (C7 u1 u2 u3 u4 u5 u6 u7 u8 u9 u10 u11)).heap.size from lt_of_heap (cells_old HY1.out)); obtain ⟨m1, m2, m3, m4, m5, m6, m7, m8, m9, m10, m11, rfl⟩ := hv2.form; obtain ⟨y0, y1, y2, y3, y4, y5, y6, yz⟩ := seven HY2.out; have yz0 := yz 0; have yz1 := yz 1; have yz2 := yz 2; have yz3 := yz 3; have yz4 := yz 4; have yz5 := yz 5; have yz6 := yz 6; clear yz; clear hb hv2))
  (try simp only [Exit.inBlock, Exit.then])
  refine bodyPost_ret (results_val2 rfl _ _ _ 25 _ (0, 0) rfl (seven_put (has_seven HY2.out) _ _ _ _ _ _ _) rfl) rfl ?_
  refine ⟨_, by rw [HEc.out]; rfl, ⟨fun k => w.heap.size + 1 < k ∧ k < w2.heap.size, fun k hk => by simp only [size_set]; exact hk.2, ?_⟩, below_seven HB2.out (Nat.le_succ _) _ _ _ _ _ _ _⟩
  exact ValIs.keep (fun k hk => seven_other (by have := hk.1; have := HSz.out; omega) _ _ _ _ _ _ _) (fun k hk => ⟨Nat.lt_of_lt_of_le HSz.out hk.1, hk.2⟩) _ _ HV2.out
theorem steps_join {a b : B} (ha : a ≠ []) (hb : b ≠ []) : steps (a ++ 46 :: b) = steps a ++ steps b := by
  unfold steps
  rw [if_neg (by simp), if_neg ha, if_neg hb]
  exact cutL_join a b
theorem str_join (a b : B) : str a ++ ⟨#[46]⟩ ++ str b = str (a ++ 46 :: b) := by
  apply arr_inj
  simp
set_option maxRecDepth 20000 in
set_option maxHeartbeats 8000000 in
theorem behind_empty (t : JV) (a b : B) (h0 : a = [] ∨ b = []) (w : World) (cs : List Value) (hf : Fits t) (hE : Env w) (hv : ValOn w t cs) : Calls Tryd.prog 4 #[.agg cs.toArray, .string (str a), .string (str b)] w fun e w' => e = .returned (.bool true) ∧ Below w.heap.size w w' := by
  obtain ⟨k1, k2, k3, k4, k5, k6, k7, k8, k9, k10, k11, rfl⟩ := hv.form
  have HF := hid hf
  have HE := hid hE
  have HV := hid hv
  obtain ⟨W0, hW0⟩ : ∃ W0, W0 = w.alloc (C7 k1 k2 k3 k4 k5 k6 k7 k8 k9 k10 k11) := ⟨_, rfl⟩
  have HB0 := hid (show Below w.heap.size w W0 from by rw [hW0]; exact below_new _ _)
  have HX0 := hid (show W0.heap[w.heap.size]? = some (C7 k1 k2 k3 k4 k5 k6 k7 k8 k9 k10 k11) from by rw [hW0]; exact heap_alloc_new _ _)
  have HW0 := hid hW0
  have HAt := hid (at_any t [] (by decide))
  have e1 : (goto t (steps [])).getD JV.zero = t := by simp [steps, goto]
  have e2 : codeN (goto t (steps [])) = 0 := by simp [steps, goto, codeN]
  rw [e1, e2] at HAt
  have HSa := hid (same_any t)
  have hg : a = [] ∨ (¬ a = [] ∧ b = []) := by
    by_cases h : a = []
    · exact .inl h
    · exact .inr ⟨h, h0.resolve_left h⟩
  clear hf hE hv hW0 e1 e2 h0
  rcases hg with rfl | ⟨ha, rfl⟩
  all_goals
    try (have hqa := ne_empty (str_ne (b := []) ha))
    try (obtain ⟨SA, hSA⟩ : ∃ SA, str a = SA := ⟨_, rfl⟩; rw [hSA] at hqa ⊢; clear hSA ha)
    try (obtain ⟨SB, hSB⟩ : ∃ SB, str b = SB := ⟨_, rfl⟩; rw [hSB]; clear hSB)
    go_enter Tryd.func4, Tryd.ntmps4
    go_wp2_with (first
      | (go_at_call 10; have hcall : Calls Tryd.prog 10 #[.agg #[.int .i64 k1, .bool k2, .string (str k3), .int .i64 k4, .bool k5, .slice k6 k7 k8, .slice k9 k10 k11], .int .i64 0, .int .i64 3000] W0 _ := few_any t W0 _ 0 3000 HF.out (HV.out.below HB0.out) (by omega) (by omega) (by omega); rw [← HW0.out]; (with_reducible refine hcall.mono ?_); clear hcall; rintro e w1 ⟨r, rfl, hr1, hr2, hb⟩; have HB1 := hid (below_out HB0.out hb); have HX1 := hid ((hb.block _ (lt_of_heap HX0.out)).trans HX0.out); obtain ⟨a0, a1, a2, a3, a4, a5, a6, az⟩ := seven HX1.out; clear az; clear hb; by_cases hbig : (3000 : Int) ≤ r)
      | (go_at_call 11; have hcall := HAt.out w1 _ HF.out (HE.out.below HB1.out) (HV.out.below HB1.out); (with_reducible refine hcall.mono ?_); clear hcall; rintro e w2 ⟨cs2, rfl, hv, hb⟩; rw [errOf_zero]; have HB2 := hid (below_out HB1.out hb); have HX2 := hid (keep7 HX1.out hb); obtain ⟨m1, m2, m3, m4, m5, m6, m7, m8, m9, m10, m11, rfl⟩ := hv.form; have HV2 := hid hv; obtain ⟨d0, d1, d2, d3, d4, d5, d6, dz⟩ := seven (cells_old (o := (C7 m1 m2 m3 m4 m5 m6 m7 m8 m9 m10 m11)) HX2.out); clear dz; clear hb hv)
      | (go_at_call 12; have hcall : Calls Tryd.prog 12 #[.agg #[.int .i64 m1, .bool m2, .string (str m3), .int .i64 m4, .bool m5, .slice m6 m7 m8, .slice m9 m10 m11], .agg #[.int .i64 k1, .bool k2, .string (str k3), .int .i64 k4, .bool k5, .slice k6 k7 k8, .slice k9 k10 k11], .int .i64 300] (w2.alloc (C7 m1 m2 m3 m4 m5 m6 m7 m8 m9 m10 m11)) _ := HSa.out (w2.alloc (C7 m1 m2 m3 m4 m5 m6 m7 m8 m9 m10 m11)) _ _ 300 HF.out (HV2.out.below (below_new w2 _)) (HV.out.below (below_out HB2.out (below_new w2 _))) (by omega); (with_reducible refine hcall.mono ?_); clear hcall; rintro e w3 ⟨rfl, hb⟩; have HB3 := hid (below_out HB2.out (below_out (below_new w2 _) hb)); clear hb)
      | (go_at_call 9; have hcall := sure_any _ (HE.out.below HB3.out); (with_reducible refine hcall.mono ?_); clear hcall; rintro e wk ⟨rfl, hb⟩; have HBk := hid (below_out HB3.out hb); clear hb)
      | (go_at_call 9; have hcall := sure_any _ (HE.out.below HB1.out); (with_reducible refine hcall.mono ?_); clear hcall; rintro e wk ⟨rfl, hb⟩; have HBk := hid (below_out HB1.out hb); clear hb))
    all_goals (go_ret; exact ⟨rfl, HBk.out⟩)
set_option maxRecDepth 20000 in
set_option maxHeartbeats 8000000 in
theorem behind_path (t : JV) (a b : B) (ha : a ≠ []) (hb0 : b ≠ []) (hl : a.length + b.length ≤ 1048576) (w : World) (cs : List Value) (hf : Fits t) (hE : Env w) (hv : ValOn w t cs) : Calls Tryd.prog 4 #[.agg cs.toArray, .string (str a), .string (str b)] w fun e w' => e = .returned (.bool true) ∧ Below w.heap.size w w' := by
  obtain ⟨k1, k2, k3, k4, k5, k6, k7, k8, k9, k10, k11, rfl⟩ := hv.form
  have HF := hid hf
  have HE := hid hE
  have HV := hid hv
  obtain ⟨W0, hW0⟩ : ∃ W0, W0 = w.alloc (C7 k1 k2 k3 k4 k5 k6 k7 k8 k9 k10 k11) := ⟨_, rfl⟩
  have HB0 := hid (show Below w.heap.size w W0 from by rw [hW0]; exact below_new _ _)
  have HX0 := hid (show W0.heap[w.heap.size]? = some (C7 k1 k2 k3 k4 k5 k6 k7 k8 k9 k10 k11) from by rw [hW0]; exact heap_alloc_new _ _)
  have HW0 := hid hW0
  have HA1 := hid (at_any t a (by omega))
  have HA2 := hid (at_any t (a ++ 46 :: b) (by simp; omega))
  have hj : goto t (steps (a ++ 46 :: b)) = (goto t (steps a)).bind fun x => goto x (steps b) := by rw [steps_join ha hb0]; exact goto_append _ _ _
  rw [hj, ← str_join] at HA2
  have hqa := ne_empty (str_ne (b := []) ha)
  have hqb := ne_empty (str_ne (b := []) hb0)
  have hla : (str a).size + 1 + (str b).size ≤ 1048577 := by rw [str_size, str_size]; omega
  have HFg := hid (show ∀ y, goto t (steps a) = some y → Fits y from fun y h => fits_goto _ _ _ hf h)
  have HA3 := hid (show ∀ y, _ from fun y => at_any y b (by omega))
  clear hf hE hv hW0 hj ha hb0 hl
  obtain ⟨SA, hSA⟩ : ∃ SA, str a = SA := ⟨_, rfl⟩
  obtain ⟨SB, hSB⟩ : ∃ SB, str b = SB := ⟨_, rfl⟩
  rw [hSA] at HA1 HA2 hqa hla ⊢
  rw [hSB] at HA2 HA3 hqb hla ⊢
  obtain ⟨G, hG⟩ : ∃ G, goto t (steps a) = G := ⟨_, rfl⟩
  rw [hG] at HA1 HA2 HFg
  clear hSA hSB hG
  cases G with
  | none =>
    have HE8 := hid (show errOf (codeN (none : Option JV)) = .iface 43 (.int .i64 8) from rfl)
    have HN8 := hid (num_any 8)
    have HE9 := hid (show errOf 8 = .iface 43 (.int .i64 8) from rfl)
    rw [HE9.out] at HN8
    go_enter Tryd.func4, Tryd.ntmps4
    go_wp2_with (first
      | (go_at_call 10; have hcall : Calls Tryd.prog 10 #[.agg #[.int .i64 k1, .bool k2, .string (str k3), .int .i64 k4, .bool k5, .slice k6 k7 k8, .slice k9 k10 k11], .int .i64 0, .int .i64 3000] W0 _ := few_any t W0 _ 0 3000 HF.out (HV.out.below HB0.out) (by omega) (by omega) (by omega); rw [← HW0.out]; (with_reducible refine hcall.mono ?_); clear hcall; rintro e w1 ⟨r, rfl, hr1, hr2, hb⟩; have HB1 := hid (below_out HB0.out hb); have HX1 := hid ((hb.block _ (lt_of_heap HX0.out)).trans HX0.out); obtain ⟨a0, a1, a2, a3, a4, a5, a6, az⟩ := seven HX1.out; clear az; clear hb; by_cases hbig : (3000 : Int) ≤ r)
      | (go_at_call 11; have hcall := HA1.out w1 _ HF.out (HE.out.below HB1.out) (HV.out.below HB1.out); (with_reducible refine hcall.mono ?_); clear hcall; rintro e w2 ⟨cs2, rfl, hv, hb⟩; rw [HE8.out]; have HB2 := hid (below_out HB1.out hb); have HX2 := hid (keep7 HX1.out hb); obtain ⟨m1, m2, m3, m4, m5, m6, m7, m8, m9, m10, m11, rfl⟩ := hv.form; have HV2 := hid hv; obtain ⟨d0, d1, d2, d3, d4, d5, d6, dz⟩ := seven (cells_old (o := (C7 m1 m2 m3 m4 m5 m6 m7 m8 m9 m10 m11)) HX2.out); clear dz; clear hb hv)
      | (go_at_call 11; have hcall := HA2.out (w2.alloc (C7 m1 m2 m3 m4 m5 m6 m7 m8 m9 m10 m11)) _ HF.out (HE.out.below (below_out HB2.out (below_new w2 _))) (HV.out.below (below_out HB2.out (below_new w2 _))); (with_reducible refine hcall.mono ?_); clear hcall; rintro e w3 ⟨cs3, rfl, hv, hb⟩; rw [show errOf (codeN ((none : Option JV).bind fun x => goto x (steps b))) = .iface 43 (.int .i64 8) from rfl]; have HB3 := hid (below_out HB2.out (below_out (below_new w2 _) hb)); obtain ⟨u1, u2, u3, u4, u5, u6, u7, u8, u9, u10, u11, rfl⟩ := hv.form; clear hb hv)
      | (go_at_call 6; have hcall := HN8.out (w3.alloc (C7 u1 u2 u3 u4 u5 u6 u7 u8 u9 u10 u11)) (HE.out.below (below_out HB3.out (below_new w3 _))); (with_reducible refine hcall.mono ?_); clear hcall; rintro e w4 ⟨rfl, hb⟩; have HB4 := hid (below_out HB3.out (below_out (below_new w3 _) hb)); clear hb)
      | (go_at_call 6; have hcall := HN8.out w4 (HE.out.below HB4.out); (with_reducible refine hcall.mono ?_); clear hcall; rintro e w5 ⟨rfl, hb⟩; have HB5 := hid (below_out HB4.out hb); clear hb)
      | (go_at_call 9; have hcall := sure_any _ (HE.out.below HB5.out); (with_reducible refine hcall.mono ?_); clear hcall; rintro e wk ⟨rfl, hb⟩; have HBk := hid (below_out HB5.out hb); clear hb)
      | (go_at_call 9; have hcall := sure_any _ (HE.out.below HB1.out); (with_reducible refine hcall.mono ?_); clear hcall; rintro e wk ⟨rfl, hb⟩; have HBk := hid (below_out HB1.out hb); clear hb))
    all_goals (go_ret; exact ⟨rfl, HBk.out⟩)
  | some y =>
    have HFy := hid (HFg.out y rfl)
    have HA3 := hid (HA3.out y)
    obtain ⟨R, hR⟩ : ∃ R, goto y (steps b) = R := ⟨_, rfl⟩
    rw [show ((some y).bind fun x => goto x (steps b)) = goto y (steps b) from rfl, hR] at HA2
    rw [hR] at HA3
    have HFr := hid (show Fits (R.getD JV.zero) from by
      cases R with
      | none => exact fits_zero
      | some z => exact fits_goto _ _ _ HFy.out hR)
    have HSa := hid (same_any (R.getD JV.zero))
    have HNm := hid (num_any (codeN R))
    obtain ⟨rv, hrv⟩ : ∃ rv, R.getD JV.zero = rv := ⟨_, rfl⟩
    rw [hrv] at HA2 HA3 HFr HSa
    obtain ⟨E, hE2⟩ : ∃ E, errOf (codeN R) = E := ⟨_, rfl⟩
    have HEc := hid hE2
    rw [hE2] at HNm
    have HE0 := hid (show errOf (codeN (some y)) = .nilIface from rfl)
    clear hR hrv hE2
    go_enter Tryd.func4, Tryd.ntmps4
    go_wp2_with (first
      | (go_at_call 10; have hcall : Calls Tryd.prog 10 #[.agg #[.int .i64 k1, .bool k2, .string (str k3), .int .i64 k4, .bool k5, .slice k6 k7 k8, .slice k9 k10 k11], .int .i64 0, .int .i64 3000] W0 _ := few_any t W0 _ 0 3000 HF.out (HV.out.below HB0.out) (by omega) (by omega) (by omega); rw [← HW0.out]; (with_reducible refine hcall.mono ?_); clear hcall; rintro e w1 ⟨r, rfl, hr1, hr2, hb⟩; have HB1 := hid (below_out HB0.out hb); have HX1 := hid ((hb.block _ (lt_of_heap HX0.out)).trans HX0.out); obtain ⟨a0, a1, a2, a3, a4, a5, a6, az⟩ := seven HX1.out; clear az; clear hb; by_cases hbig : (3000 : Int) ≤ r)
      | (go_at_call 11; have hcall := HA1.out w1 _ HF.out (HE.out.below HB1.out) (HV.out.below HB1.out); (with_reducible refine hcall.mono ?_); clear hcall; rintro e w2 ⟨cs2, rfl, hv, hb⟩; rw [HE0.out]; have HB2 := hid (below_out HB1.out hb); have HX2 := hid (keep7 HX1.out hb); replace hv : ValOn w2 y cs2 := hv; obtain ⟨m1, m2, m3, m4, m5, m6, m7, m8, m9, m10, m11, rfl⟩ := hv.form; have HV2 := hid (hv.below (below_new w2 (C7 m1 m2 m3 m4 m5 m6 m7 m8 m9 m10 m11))); have HM2 := hid (show (w2.alloc (C7 m1 m2 m3 m4 m5 m6 m7 m8 m9 m10 m11)).heap[w2.heap.size]? = some (C7 m1 m2 m3 m4 m5 m6 m7 m8 m9 m10 m11) from heap_alloc_new _ _); obtain ⟨d0, d1, d2, d3, d4, d5, d6, dz⟩ := seven (cells_old (o := (C7 m1 m2 m3 m4 m5 m6 m7 m8 m9 m10 m11)) HX2.out); clear dz; clear hb hv)
      | (go_at_call 11; have hcall := HA2.out (w2.alloc (C7 m1 m2 m3 m4 m5 m6 m7 m8 m9 m10 m11)) _ HF.out (HE.out.below (below_out HB2.out (below_new w2 _))) (HV.out.below (below_out HB2.out (below_new w2 _))); (with_reducible refine hcall.mono ?_); clear hcall; rintro e w3 ⟨cs3, rfl, hv, hb⟩; rw [HEc.out]; have HB3 := hid (below_out HB2.out (below_out (below_new w2 _) hb)); have HV3 := hid (HV2.out.below hb); have HM3 := hid (keep7 HM2.out hb); obtain ⟨u1, u2, u3, u4, u5, u6, u7, u8, u9, u10, u11, rfl⟩ := hv.form; have HU3 := hid hv; obtain ⟨f0, f1, f2, f3, f4, f5, f6, fz⟩ := seven (cells_old (o := (C7 u1 u2 u3 u4 u5 u6 u7 u8 u9 u10 u11)) HM3.out); clear fz; clear hb hv)
      | (go_at_call 11; have hcall := HA3.out (w3.alloc (C7 u1 u2 u3 u4 u5 u6 u7 u8 u9 u10 u11)) _ HFy.out (HE.out.below (below_out HB3.out (below_new w3 _))) (HV3.out.below (below_new w3 _)); (with_reducible refine hcall.mono ?_); clear hcall; rintro e w4 ⟨cs4, rfl, hv, hb⟩; rw [HEc.out]; have HB4 := hid (below_out HB3.out (below_out (below_new w3 _) hb)); have HU4 := hid (HU3.out.below (below_out (below_new w3 _) hb)); have HN4 := hid (keep7 (heap_alloc_new w3 (C7 u1 u2 u3 u4 u5 u6 u7 u8 u9 u10 u11)) hb); obtain ⟨z1, z2, z3, z4, z5, z6, z7, z8, z9, z10, z11, rfl⟩ := hv.form; have HZ4 := hid hv; obtain ⟨g0, g1, g2, g3, g4, g5, g6, gz⟩ := seven (cells_old (o := (C7 z1 z2 z3 z4 z5 z6 z7 z8 z9 z10 z11)) HN4.out); clear gz; clear hb hv)
      | (go_at_call 12; have hcall : Calls Tryd.prog 12 #[.agg #[.int .i64 u1, .bool u2, .string (str u3), .int .i64 u4, .bool u5, .slice u6 u7 u8, .slice u9 u10 u11], .agg #[.int .i64 z1, .bool z2, .string (str z3), .int .i64 z4, .bool z5, .slice z6 z7 z8, .slice z9 z10 z11], .int .i64 300] (w4.alloc (C7 z1 z2 z3 z4 z5 z6 z7 z8 z9 z10 z11)) _ := HSa.out (w4.alloc (C7 z1 z2 z3 z4 z5 z6 z7 z8 z9 z10 z11)) _ _ 300 HFr.out (HU4.out.below (below_new w4 _)) (HZ4.out.below (below_new w4 _)) (by omega); (with_reducible refine hcall.mono ?_); clear hcall; rintro e w5 ⟨rfl, hb⟩; have HB5 := hid (below_out HB4.out (below_out (below_new w4 _) hb)); clear hb)
      | (go_at_call 6; have hcall := HNm.out w5 (HE.out.below HB5.out); (with_reducible refine hcall.mono ?_); clear hcall; rintro e w6 ⟨rfl, hb⟩; have HB6 := hid (below_out HB5.out hb); clear hb)
      | (go_at_call 6; have hcall := HNm.out w6 (HE.out.below HB6.out); (with_reducible refine hcall.mono ?_); clear hcall; rintro e w7 ⟨rfl, hb⟩; have HB7 := hid (below_out HB6.out hb); clear hb)
      | (go_at_call 9; have hcall := sure_any _ (HE.out.below HB7.out); (with_reducible refine hcall.mono ?_); clear hcall; rintro e wk ⟨rfl, hb⟩; have HBk := hid (below_out HB7.out hb); clear hb)
      | (go_at_call 9; have hcall := sure_any _ (HE.out.below HB1.out); (with_reducible refine hcall.mono ?_); clear hcall; rintro e wk ⟨rfl, hb⟩; have HBk := hid (below_out HB1.out hb); clear hb))
    all_goals (go_ret; exact ⟨rfl, HBk.out⟩)
theorem pickBehind_any (t : JV) (a b : B) (hl : a.length + b.length ≤ 1048576) (w : World) (cs : List Value) (hf : Fits t) (hE : Env w) (hv : ValOn w t cs) : Calls Tryd.prog 4 #[.agg cs.toArray, .string (str a), .string (str b)] w fun e w' => e = .returned (.bool true) ∧ Below w.heap.size w w' := by
  by_cases ha : a = []
  · exact behind_empty t a b (.inl ha) w cs hf hE hv
  by_cases hb : b = []
  · exact behind_empty t a b (.inr hb) w cs hf hE hv
  exact behind_path t a b ha hb hl w cs hf hE hv
end Go.Proofs.YtiglabpemlogbaaDoor
