/- JsonBack: what is read of a text may be, and is printed and read again as it was. -/
import Derived.Test.YtkoeihliaandeaaDoorFit
namespace Go.Proofs.YtkoeihliaandeaaDoor
open Go.RowKit

theorem str_of {S : ByteArray} {l : B} (h : S.data.toList = l) : str l = S := by
  apply ByteArray.ext
  apply Array.toList_inj.1
  rw [← h]
theorem keep7 {w1 w2 : World} {g : Nat} {a0 a1 a2 a3 a4 a5 a6 : Value} {T : TypeId} (h : w1.heap[g]? = some (.cells #[a0, a1, a2, a3, a4, a5, a6] T (0, 0))) (hb : Below w1.heap.size w1 w2) : w2.heap[g]? = some (.cells #[a0, a1, a2, a3, a4, a5, a6] T (0, 0)) := (hb.block g (lt_of_heap h)).trans h
set_option maxRecDepth 20000 in
set_option maxHeartbeats 4000000 in
theorem back_any {w : World} (s : ByteArray) (hs : s.size ≤ 9223372036854775807) (hE : Env w) : Calls Tryd.prog 5 #[.string s] w fun e w' => e = .returned (.bool true) ∧ Below w.heap.size w w' := by
  obtain ⟨V, n, K, hP⟩ : ∃ V n K, parse s.data.toList = (V, n, K) := ⟨_, _, _, rfl⟩
  have HP := hid hP
  have HE := hid hE
  have HSz := hid hs
  have hsl : s.data.toList.length = s.size := rfl
  clear hE hs
  by_cases hK : K = 0
  · subst hK
    obtain ⟨hn, hv, hl⟩ := parse_good hP
    have hm := parse_most hP
    have HVd := hid hv
    have HFt := hid (fits_print V (valid_fault hv) (Nat.le_trans hl (by unfold maxI; omega)))
    rw [hsl] at hn hm hl
    subst hn
    obtain ⟨P, hPr⟩ : ∃ P, printV V = P := ⟨_, rfl⟩
    have HPr := hid hPr
    rw [hPr] at hl
    have HPl := hid (show (printV V).length ≤ 4611686018427387904 from by rw [hPr]; omega)
    clear hsl hv hP
    by_cases hbig : 1048576 < P.length
    · have HR := hid (show printS V = ([], 2) from by unfold printS; rw [if_neg (by rw [HVd.out]; simp), HPr.out, if_pos hbig])
      have hlen : decide ((131072 : Int) < (s.size : Int)) = true := by rw [decide_eq_true_eq]; omega
      have hlen2 : (131072 : Int) < (s.size : Int) := by omega
      clear hPr
      go_enter Tryd.func5, Tryd.ntmps5
      go_wp2_with (first
        | (go_at_call 14; have hcall := parse_any (w := w) s HSz.out HE.out; rw [HP.out] at hcall; (with_reducible refine hcall.mono ?_); clear hcall; rintro e w1 ⟨cs, rfl, z1, z2⟩; obtain ⟨a1, a2, a3, a4, a5, a6, a7, a8, a9, a10, a11, rfl⟩ := z1.form; have ZV := hid ((ValOn.of z1).below (below_new _ (C7 a1 a2 a3 a4 a5 a6 a7 a8 a9 a10 a11))); have HB1 := hid (z2.trans ((below_new w1 (C7 a1 a2 a3 a4 a5 a6 a7 a8 a9 a10 a11)).mono z2.size)); have HX := hid (heap_alloc_new w1 (C7 a1 a2 a3 a4 a5 a6 a7 a8 a9 a10 a11)); obtain ⟨x0, x1, x2, x3, x4, x5, x6, _⟩ := seven HX.out; simp only [show errOf 0 = Value.nilIface from rfl]; clear z1 z2)
        | (go_at_call 15; have hcall := valid_any V _ _ (HE.out.below HB1.out) HFt.out ZV.out; rw [HVd.out, show errOf 0 = Value.nilIface from rfl] at hcall; (with_reducible refine hcall.mono ?_); clear hcall; rintro e w2 ⟨rfl, hb⟩; have HB2 := hid (HB1.out.trans (hb.mono HB1.out.size)); have ZV2 := hid (ZV.out.below hb); have HX2 := hid (keep7 HX.out hb); obtain ⟨y0, y1, y2, y3, y4, y5, y6, _⟩ := seven HX2.out; clear hb)
        | (go_at_call 16; have hcall := print_any V _ _ (HE.out.below HB2.out) HFt.out ZV2.out (fun _ => HPl.out); rw [HR.out] at hcall; (with_reducible refine hcall.mono ?_); clear hcall; rintro e w3 ⟨rfl, hb⟩; simp only [show errOf 2 = .iface 41 (.int .i64 2) from rfl]; have HB3 := hid (HB2.out.trans (hb.mono HB2.out.size)); clear hb)
        | (go_at_call 9; refine (num_some 2 _).mono ?_; rintro e w4 ⟨rfl, rfl⟩)
        | (go_at_call 10; have hcall := works_any _ (HE.out.below HB3.out); (with_reducible refine hcall.mono ?_); clear hcall; rintro e wk ⟨rfl, hb⟩; have HBk := hid (HB3.out.trans (hb.mono HB3.out.size)); clear hb))
      go_ret
      exact ⟨rfl, HBk.out⟩
    · have HR := hid (show printS V = (P, 0) from by unfold printS; rw [if_neg (by rw [HVd.out]; simp), HPr.out, if_neg hbig])
      obtain ⟨Q, hQ⟩ : ∃ Q, str P = Q := ⟨_, rfl⟩
      have HQ := hid hQ
      have HQs := hid (show Q.size ≤ 9223372036854775807 from by rw [← hQ, str_size]; omega)
      have HP2 := hid (show parse Q.data.toList = (V, P.length, 0) from by
        have e : Q.data.toList = P := by rw [← hQ]
        rw [e, ← hPr]
        exact parse_print HVd.out (by rw [hPr]; omega))
      have HSm := hid (sameV_refl V)
      clear hPr hQ
      go_enter Tryd.func5, Tryd.ntmps5
      go_wp2_with (first
        | (go_at_call 14; have hcall := parse_any (w := w) s HSz.out HE.out; rw [HP.out] at hcall; (with_reducible refine hcall.mono ?_); clear hcall; rintro e w1 ⟨cs, rfl, z1, z2⟩; obtain ⟨a1, a2, a3, a4, a5, a6, a7, a8, a9, a10, a11, rfl⟩ := z1.form; have ZV := hid ((ValOn.of z1).below (below_new _ (C7 a1 a2 a3 a4 a5 a6 a7 a8 a9 a10 a11))); have HB1 := hid (z2.trans ((below_new w1 (C7 a1 a2 a3 a4 a5 a6 a7 a8 a9 a10 a11)).mono z2.size)); have HX := hid (heap_alloc_new w1 (C7 a1 a2 a3 a4 a5 a6 a7 a8 a9 a10 a11)); obtain ⟨x0, x1, x2, x3, x4, x5, x6, _⟩ := seven HX.out; simp only [show errOf 0 = Value.nilIface from rfl]; have HNext := hid trivial; clear z1 z2)
        | (go_at_call 15; have hcall := valid_any V _ _ (HE.out.below HB1.out) HFt.out ZV.out; rw [HVd.out, show errOf 0 = Value.nilIface from rfl] at hcall; (with_reducible refine hcall.mono ?_); clear hcall; rintro e w2 ⟨rfl, hb⟩; have HB2 := hid (HB1.out.trans (hb.mono HB1.out.size)); have ZV2 := hid (ZV.out.below hb); have HX2 := hid (keep7 HX.out hb); obtain ⟨y0, y1, y2, y3, y4, y5, y6, _⟩ := seven HX2.out; clear hb)
        | (go_at_call 16; have hcall := print_any V _ _ (HE.out.below HB2.out) HFt.out ZV2.out (fun _ => HPl.out); rw [HR.out] at hcall; (with_reducible refine hcall.mono ?_); clear hcall; rintro e w3 ⟨rfl, hb⟩; simp only [show errOf 0 = Value.nilIface from rfl]; rw [HQ.out]; have HB3 := hid (HB2.out.trans (hb.mono HB2.out.size)); have ZV3 := hid (ZV2.out.below hb); have HX3 := hid (keep7 HX2.out hb); clear hb HB2)
        | (go_at_call 14; have hcall := parse_any (w := w3) Q HQs.out (HE.out.below HB3.out); rw [HP2.out] at hcall; (with_reducible refine hcall.mono ?_); clear hcall; rintro e w4 ⟨cs, rfl, z1, z2⟩; obtain ⟨b1, b2, b3, b4, b5, b6, b7, b8, b9, b10, b11, rfl⟩ := z1.form; have ZW := hid ((ValOn.of z1).below (below_new _ (C7 b1 b2 b3 b4 b5 b6 b7 b8 b9 b10 b11))); have HB4 := hid (HB3.out.trans ((z2.mono HB3.out.size).trans ((below_new w4 (C7 b1 b2 b3 b4 b5 b6 b7 b8 b9 b10 b11)).mono (Nat.le_trans HB3.out.size z2.size)))); have ZV4 := hid ((ZV3.out.below z2).below (below_new _ (C7 b1 b2 b3 b4 b5 b6 b7 b8 b9 b10 b11))); have HX4 := hid (keep7 (keep7 HX3.out z2) (below_new w4 (C7 b1 b2 b3 b4 b5 b6 b7 b8 b9 b10 b11))); have HY4 := hid (heap_alloc_new w4 (C7 b1 b2 b3 b4 b5 b6 b7 b8 b9 b10 b11)); obtain ⟨u0, u1, u2, u3, u4, u5, u6, _⟩ := seven HY4.out; simp only [show errOf 0 = Value.nilIface from rfl]; clear z1 z2)
        | (go_at_call 16; have hcall := print_any V _ _ (HE.out.below HB4.out) HFt.out ZW.out (fun _ => HPl.out); rw [HR.out] at hcall; (with_reducible refine hcall.mono ?_); clear hcall; rintro e w5 ⟨rfl, hb⟩; simp only [show errOf 0 = Value.nilIface from rfl]; rw [HQ.out]; have HB5 := hid (HB4.out.trans (hb.mono HB4.out.size)); have ZV5 := hid (ZV4.out.below hb); have ZW5 := hid (ZW.out.below hb); have HX5 := hid (keep7 HX4.out hb); have HY5 := hid (keep7 HY4.out hb); obtain ⟨s0, s1, s2, s3, s4, s5, s6, _⟩ := seven HX5.out; obtain ⟨t0, t1, t2, t3, t4, t5, t6, _⟩ := seven HY5.out; clear hb)
        | (go_at_call 12; have hcall := same_any V V _ _ _ HFt.out HFt.out ZV5.out ZW5.out; rw [HSm.out] at hcall; (with_reducible refine hcall.mono ?_); clear hcall; rintro e w6 ⟨rfl, hb⟩; have HB6 := hid (HB5.out.trans (hb.mono HB5.out.size)); clear hb)
        | (go_at_call 10; have hcall := works_any _ (HE.out.below HB6.out); (with_reducible refine hcall.mono ?_); clear hcall; rintro e wk ⟨rfl, hb⟩; have HBk := hid (HB6.out.trans (hb.mono HB6.out.size)); clear hb))
      go_ret
      exact ⟨rfl, HBk.out⟩
  · obtain ⟨hz, hn⟩ := parse_zero hP hK
    subst hz
    rw [hsl] at hn
    have HEk := hid (show errOf K = .iface 41 (.int .i64 (K : Int)) from errOf_pos hK)
    have hd1 : decide ((0 : Int) ≤ (n : Int)) = true := by rw [decide_eq_true_eq]; omega
    have hd2 : decide ((n : Int) ≤ (s.size : Int)) = true := by rw [decide_eq_true_eq]; omega
    have HSm := hid (sameV_refl JV.zero)
    clear hsl hP hK
    go_enter Tryd.func5, Tryd.ntmps5
    go_wp2_with (first
      | (go_at_call 14; have hcall := parse_any (w := w) s HSz.out HE.out; rw [HP.out] at hcall; (with_reducible refine hcall.mono ?_); clear hcall; rintro e w1 ⟨cs, rfl, z1, z2⟩; obtain ⟨a1, a2, a3, a4, a5, a6, a7, a8, a9, a10, a11, rfl⟩ := z1.form; have ZV := hid ((ValOn.of z1).below (below_new _ (C7 a1 a2 a3 a4 a5 a6 a7 a8 a9 a10 a11))); have HB1 := hid (z2.trans ((below_new w1 (C7 a1 a2 a3 a4 a5 a6 a7 a8 a9 a10 a11)).mono z2.size)); have HX := hid (heap_alloc_new w1 (C7 a1 a2 a3 a4 a5 a6 a7 a8 a9 a10 a11)); obtain ⟨x0, x1, x2, x3, x4, x5, x6, _⟩ := seven HX.out; simp only [HEk.out]; clear z1 z2)
      | (go_at_call 12; have hcall := same_any .zero .zero _ _ _ zero_fits zero_fits ZV.out (show ValOn _ JV.zero [.int .i64 0, .bool false, .string ⟨#[]⟩, .int .i64 0, .bool false, .slice none 0 0, .slice none 0 0] from ValOn.close (t := [])); rw [HSm.out] at hcall; (with_reducible refine hcall.mono ?_); clear hcall; rintro e w2 ⟨rfl, hb⟩; have HB2 := hid (HB1.out.trans (hb.mono HB1.out.size)); clear hb)
      | (go_at_call 10; have hcall := works_any _ (HE.out.below HB2.out); (with_reducible refine hcall.mono ?_); clear hcall; rintro e wk ⟨rfl, hb⟩; have HBk := hid (HB2.out.trans (hb.mono HB2.out.size)); clear hb))
    go_ret
    exact ⟨rfl, HBk.out⟩
end Go.Proofs.YtkoeihliaandeaaDoor
