/- The law B64Back returns true for all bytes (up to 2^40 of them) and every text (of up to 2^47 bytes). -/
import Derived.Test.YtnpijgpjakmkdaaSure
namespace Go.Proofs.Ytnpijgpjakmkdaa
open Go.RowKit

theorem errV_three : errV 3 = .iface 35 (.int .i64 3) := rfl
theorem textL_oct (bs : List Int) (h : Oct bs) : Oct (textL bs) := by
  intro x hx
  obtain ⟨d, hd, rfl⟩ := List.mem_map.1 hx
  have := (enc_bd bs h).1 d hd
  exact chr_bd d this.1 this.2
theorem nums_str (l : List Int) (h : Oct l) : numsS (strOfNums l) = l := by
  unfold numsS
  rw [strOfNums_data, List.map_map]
  apply List.ext_getElem
  · simp
  · intro j _ hj
    have := h _ (List.getElem_mem hj)
    simp [UInt8.toNat_ofNat']
    omega
theorem str_nums (s : ByteArray) : strOfNums (numsS s) = s := by
  have e : (strOfNums (numsS s)).data = s.data := by
    apply Array.toList_inj.1
    rw [strOfNums_data]
    unfold numsS
    rw [List.map_map]
    apply List.ext_getElem
    · simp
    · intro j _ _
      simp
  cases s
  cases h : strOfNums (numsS _)
  simp_all
/-- What comes back of a text of bytes. -/
theorem told_back {bs l : List Int} {k : Int} (h : Oct bs) (ht : Told (numsS (strOfNums (textL bs))) l k) : l = bs ∧ k = 0 := by
  rw [nums_str _ (textL_oct bs h)] at ht
  rcases ht with ⟨a, rfl⟩ | ⟨a, _⟩
  · rw [back bs h] at a
    exact ⟨(Option.some.inj a).symm, rfl⟩
  · rw [back bs h] at a
    simp at a
set_option maxRecDepth 20000 in
set_option maxHeartbeats 4000000 in
theorem back_walk (p : Option Addr) (N c : Nat) (bs : List Int) (s : ByteArray) (w : World) (hv : ArgAt w (.slice p N c) bs) (hN : bs.length = N) (ho : Oct bs) (hM : N ≤ 1099511627776) (hs : s.size ≤ 140737488355328) :
    Calls Try.prog 3 #[.slice p N c, .string s] w fun e w' => e = .returned (.bool true) ∧ Below w.heap.size w w' := by
  have HV := hid hv
  have HN := hid hN
  have HO := hid ho
  have HM : Hid (bs.length ≤ 140737488355328) := by show _ ≤ _; omega
  have HS := hid hs
  have hNb : (N : Int) ≤ 1099511627776 := by omega
  have HLV : Hid (lenV N = (lenN N : Int)) := by show _ = _; rw [lenV, if_neg (by omega)]; unfold lenN; omega
  have HLE : Hid (lenE N = 0) := by show _ = _; rw [lenE, if_neg (by omega)]
  obtain ⟨T, HT⟩ : ∃ T, Hid (strOfNums (textL bs) = T) := ⟨_, hid rfl⟩
  have hTs : T.size = lenN N := by rw [← HT.out, strOfNums_size, textL_len, hN]; rfl
  have HTS : Hid (T.size ≤ 140737488355328) := by show _ ≤ _; rw [hTs]; unfold lenN; omega
  obtain ⟨B, HB⟩ : ∃ T, Hid (strOfNums bs = T) := ⟨_, hid rfl⟩
  clear hv hN ho hM hs
  go_enter Try.func3, Try.ntmps3
  go_wp2_with (first
    | (refine wpList_append_bytes rfl _ _ rfl rfl _ rfl bs HV.out HM.out ?_; intro p1 c1 w1 hm1; have M1 := hid hm1; clear hm1)
    | (go_at_call 4; (with_reducible refine (encode_any M1.out.arg HO.out HM.out).mono ?_); rintro e w2 ⟨rfl, hb2⟩; rw [HT.out]; have HB2 := hid (M1.out.below.trans (hb2.mono M1.out.below.size)); clear hb2 M1)
    | (go_at_call 5; (with_reducible refine (decode_any T _ HTS.out).mono ?_); rintro e w3 ⟨pa, c3, l, k, rfl, hm3, ht3⟩; rw [← HT.out] at ht3; obtain ⟨rfl, rfl⟩ := told_back HO.out ht3; rw [errV_zero]; have hcv3 := hm3.arg.conv; have hcv0 := (HV.out.below (HB2.out.trans (hm3.below.mono HB2.out.size))).conv; rw [HB.out] at hcv3 hcv0; have HB3 := hid (HB2.out.trans (hm3.below.mono HB2.out.size)); clear hm3 ht3 HB2)
    | (go_at_call 6; (with_reducible refine (len_any N _).mono ?_); rintro e w' ⟨rfl, hw'⟩; have hw2 := hw'.symm; subst hw2; rw [HLV.out, HLE.out, errV_zero]))
  refine (decode_any s w3 HS.out).mono ?_
  rintro e w4 ⟨pb, c4, l4, k4, rfl, hm4, ht4⟩
  rcases ht4 with ⟨h4, rfl⟩ | ⟨h4, rfl, rfl⟩
  · obtain ⟨ho4, he4⟩ := only _ _ h4
    have hl4 : l4.length ≤ 140737488355328 := by
      have h1 := textL_len l4
      rw [he4, numsS_len] at h1
      have := HS.out
      omega
    have HE4 : Hid (strOfNums (textL l4) = s) := by show _ = _; rw [he4, str_nums]
    have HO4 := hid ho4
    have HL4 := hid hl4
    have M4 := hid hm4
    have HB4 := hid (HB3.out.trans (hm4.below.mono HB3.out.size))
    rw [errV_zero]
    clear h4 ho4 he4 hl4 hm4 HB3 hcv3 hcv0
    go_wp2_with (first
      | (go_at_call 4; (with_reducible refine (encode_any M4.out.arg HO4.out HL4.out).mono ?_); rintro e w5 ⟨rfl, hb5⟩; rw [HE4.out]; have HB5 := hid (HB4.out.trans (hb5.mono HB4.out.size)); clear hb5 M4 HB4)
      | (go_at_call 7; (with_reducible refine (sure_any _).mono ?_); rintro e w6 ⟨rfl, hb6⟩; have HB6 := hid (HB5.out.trans (hb6.mono HB5.out.size)); clear hb6 HB5))
    go_ret
    exact ⟨rfl, HB6.out⟩
  · have HB4 := hid (HB3.out.trans (hm4.below.mono HB3.out.size))
    rw [errV_three]
    clear h4 hm4 HB3 hcv3 hcv0
    go_wp2_with (first
      | (go_at_call 7; (with_reducible refine (sure_any _).mono ?_); rintro e w6 ⟨rfl, hb6⟩; have HB6 := hid (HB4.out.trans (hb6.mono HB4.out.size)); clear hb6 HB4))
    go_ret
    exact ⟨rfl, HB6.out⟩
end Go.Proofs.Ytnpijgpjakmkdaa
