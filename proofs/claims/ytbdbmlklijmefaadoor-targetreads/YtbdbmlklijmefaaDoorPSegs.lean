/- The program's segments of a path. -/
import Derived.Test.YtbdbmlklijmefaaDoorPDots
import Derived.Test.YtbdbmlklijmefaaDoorRSegs
namespace Go.Proofs.YtbdbmlklijmefaaDoor
open Go.RowKit

theorem clean_dec {m : B} (h : Clean m) : ∃ d, decodeB m = some d := by
  induction h with
  | nil => exact ⟨[], rfl⟩
  | @ch c l h1 _ ih =>
    obtain ⟨d, hd⟩ := ih
    rw [dec_cons (ch_ne h1), hd]
    exact ⟨_, rfl⟩
  | @cd v l _ _ _ _ ih =>
    obtain ⟨d, hd⟩ := ih
    rw [dec_code, hd]
    exact ⟨_, rfl⟩
theorem normal_parts {s p : B} (h : normalB s = some p) : ∃ t, p = 47 :: t ∧ segs p = cutAt 47 t ∧ (segs p).length = p.count 47 ∧ (segs p).map (fun t => (decodeB t).getD []) = (segs p).map decP := by
  obtain ⟨o, ho⟩ := normal_meant h
  obtain ⟨t, ht⟩ : ∃ t, p = 47 :: t := by
    cases hq : o with
    | nil => exact absurd hq ho.ne
    | cons a r => exact ⟨a ++ joinS r, by rw [ho.eq, hq]; simp [joinS]⟩
  have hs : segs p = cutAt 47 t := by rw [ht]; unfold segs; rw [cutAt, if_pos rfl]; rfl
  refine ⟨t, ht, hs, ?_, ?_⟩
  · rw [hs, count_cut, ht, List.count_cons_self]
  · rw [ho.segs]
    apply List.map_congr_left
    intro a ha
    obtain ⟨d, hd⟩ := clean_dec (ho.clean a ha)
    rw [hd, decP_of a d hd]
    rfl
theorem OwnS.set {w : World} {base n c g o j : Nat} {ns : List B} (t : B) (h : OwnS w base (.slice (some ⟨g, o, none⟩) n c) ns) (_hj : j < ns.length) : OwnS (w.setCell ⟨g, o + j, none⟩ (.string (str t))) base (.slice (some ⟨g, o, none⟩) n c) (ns.set j t) ∧ w.frozen? ⟨g, o + j, none⟩ = false ∧ base ≤ g := by
  rcases h.2 with ⟨h1, h2⟩ | ⟨g', cap, cur, h1, h2, h3, h4, h5, h6, h7⟩
  · cases h1
  · simp only [Value.slice.injEq, Option.some.injEq, Addr.mk.injEq] at h1
    obtain ⟨⟨rfl, rfl, _⟩, hn, rfl⟩ := h1
    refine ⟨⟨by simp [strC], .inr ⟨g, c, cur.setIfInBounds j (.string (str t)), by rw [List.length_set, hn], h2, ?_, by rw [List.length_set]; omega, h5, by simpa using h6, ?_⟩⟩, ?_, h2⟩
    · simp only [World.setCell, Nat.zero_add]
      rw [Array.getElem?_modify, if_pos rfl, h3]
      rfl
    · rw [Array.toList_setIfInBounds, List.length_set, List.take_set, h7]
      simp [strC, List.map_set]
    · simp [World.frozen?, h3]
theorem set_map (L : List B) (i : Nat) (t : B) (hi : L[i]? = some t) : ((L.take i).map decP ++ L.drop i).set i (decP t) = (L.take (i + 1)).map decP ++ L.drop (i + 1) := by
  have hlt : i < L.length := (List.getElem?_eq_some_iff.1 hi).1
  have hti : L[i] = t := by rw [List.getElem?_eq_getElem hlt] at hi; exact Option.some.inj hi
  rw [List.set_append_right _ _ (by simp; omega)]
  have : i - ((L.take i).map decP).length = 0 := by simp; omega
  rw [this, List.drop_eq_getElem_cons hlt, List.set_cons_zero, List.take_add_one, hi, List.map_append]
  simp
theorem set_at (L : List B) (i : Nat) (t : B) (hi : L[i]? = some t) : ((L.take i).map decP ++ L.drop i)[i]? = some t := by
  have hlt : i < L.length := (List.getElem?_eq_some_iff.1 hi).1
  rw [List.getElem?_append_right (by simp; omega), List.getElem?_drop]
  have : i + (i - ((L.take i).map decP).length) = i := by simp; omega
  rw [this, hi]
set_option maxRecDepth 20000 in
set_option maxHeartbeats 8000000 in
theorem psegs_any (s : B) (hs : s.length ≤ 4294967280) (w : World) (hE : Env w) : Calls Tryd.prog 17 #[.string (str s)] w fun e w' => ∃ p c, e = .returned (.tuple #[.slice p (segsT s).1.length c, errOf (segsT s).2]) ∧ OwnS w' w.heap.size (.slice p (segsT s).1.length c) (segsT s).1 ∧ Below w.heap.size w w' := by
  have HNo := hid (pnormal_any s hs)
  have HE := hid hE
  clear hE
  cases hn : normalB s with
  | none =>
    have HV := hid (show segsT s = ([], 23) from by unfold segsT; rw [hn])
    rw [hn] at HNo
    rw [HV.out]
    obtain ⟨S, hS⟩ : ∃ S, str s = S := ⟨_, rfl⟩
    rw [hS] at HNo ⊢
    have HN2 := hid (show ∀ w, Env w → Calls Tryd.prog 15 #[.string S] w fun e w' => e = .returned (.tuple #[.string (str []), .iface 55 (.int .i64 23)]) ∧ Below w.heap.size w w' from HNo.out)
    clear hS HNo hn
    go_enter Tryd.func17, Tryd.ntmps17
    go_wp2_with (go_at_call 15; (with_reducible refine (HN2.out _ HE.out).mono ?_); rintro e w1 ⟨rfl, hb⟩; have HB1 := hid hb; clear hb)
    go_ret2
    exact ⟨none, 0, rfl, OwnS.nil _ _, HB1.out⟩
  | some p =>
    obtain ⟨t, hpt, hsg, hlen, hdec⟩ := normal_parts hn
    have hpl := normal_len hn
    obtain ⟨L, hL⟩ : ∃ L, segs p = L := ⟨_, rfl⟩
    rw [hL] at hsg hlen hdec
    have HV := hid (show segsT s = if 64 < L.length then ([], 2) else (L.map decP, 0) from by unfold segsT; rw [hn]; simp only; rw [hL, hdec])
    have HCo := hid (pcount_any 47 p)
    rw [← hlen] at HCo
    have HSp := hid (psplit_any 47 t (by rw [hpt] at hpl; simp at hpl; omega))
    rw [← hsg] at HSp
    have HDe := hid (show ∀ a ∈ L, ∀ w, _ from fun a ha => decoded_any a (by
      have : a.length ≤ p.length := seg_len (by rw [hL]; exact ha)
      omega))
    rw [hn] at HNo
    have hml : L.length ≤ 4294967280 := by
      have : p.count 47 ≤ p.length := List.count_le_length
      omega
    obtain ⟨m, hm⟩ : ∃ m, L.length = m := ⟨_, rfl⟩
    have HM := hid hm
    rw [hm] at HCo HSp HV hml
    obtain ⟨np, hnp⟩ : ∃ np, p.length = np := ⟨_, rfl⟩
    have hnp1 : 1 ≤ np := by rw [← hnp, hpt]; simp
    obtain ⟨S, hS⟩ : ∃ S, str s = S := ⟨_, rfl⟩
    obtain ⟨Pp, hPp⟩ : ∃ Pp, str p = Pp := ⟨_, rfl⟩
    have hPs : Pp.size = np := by rw [← hPp, str_size, hnp]
    have hex : Pp.extract 1 np = str t := by rw [← hPp, ext_drop p 1 np hnp, hpt]; rfl
    have HN2 := hid (show ∀ w, Env w → Calls Tryd.prog 15 #[.string S] w fun e w' => e = .returned (.tuple #[.string Pp, .nilIface]) ∧ Below w.heap.size w w' from by rw [← hS, ← hPp]; exact HNo.out)
    obtain ⟨T, hT⟩ : ∃ T, str t = T := ⟨_, rfl⟩
    rw [hS]
    rw [hPp] at HCo
    rw [hT] at HSp hex
    have hnpl : np ≤ 4294967280 := by omega
    clear hS HNo hn hpt hsg hlen hdec hL hpl hm hnp hPp hT
    by_cases hbig : 64 < m
    · have HV2 := hid (show segsT s = ([], 2) from by rw [HV.out, if_pos hbig])
      rw [HV2.out]
      have hbi : (64 : Int) < (m : Int) := by omega
      go_enter Tryd.func17, Tryd.ntmps17
      go_wp2_with (first | (go_at_call 15; (with_reducible refine (HN2.out _ HE.out).mono ?_); rintro e w1 ⟨rfl, hb⟩; have HB1 := hid hb; clear hb) | (go_at_call 41; (with_reducible refine (HCo.out _).mono ?_); rintro e w2 ⟨rfl, rfl⟩))
      go_ret2
      exact ⟨none, 0, rfl, OwnS.nil _ _, HB1.out⟩
    · have HV2 := hid (show segsT s = (L.map decP, 0) from by rw [HV.out, if_neg hbig])
      have hbi : ¬ (64 : Int) < (m : Int) := by omega
      rw [HV2.out]
      simp only [List.length_map]
      rw [HM.out]
      go_enter Tryd.func17, Tryd.ntmps17
      go_wp2_with (first | (go_at_call 15; (with_reducible refine (HN2.out _ HE.out).mono ?_); rintro e w1 ⟨rfl, hb⟩; have HB1 := hid hb; clear hb) | (go_at_call 41; (with_reducible refine (HCo.out _).mono ?_); rintro e w2 ⟨rfl, rfl⟩) | (go_at_call 42; (with_reducible refine (HSp.out _ (HE.out.below HB1.out)).mono ?_); rintro e w3 ⟨pp, cc, rfl, ho, hb⟩; have HB3 := hid (below_out HB1.out hb); have HO3 := hid (ho.base HB1.out.size); clear hb ho))
      clear hex
      go_loopg [26] (m + 1) (fun gk s26 wr => ∃ i : Nat, i ≤ m ∧ gk = m - i + 1 ∧ s26 = .int .i64 (i : Int) ∧ OwnS wr w.heap.size (.slice pp m cc) ((L.take i).map decP ++ L.drop i) ∧ Below w.heap.size w wr)
      case atStart => exact ⟨0, by omega, rfl, rfl, by simpa using HO3.out, HB3.out⟩
      case round =>
        obtain ⟨i, hi, rfl, rfl, ho, hb⟩ := hrel
        have HB := hid hb
        have HO := hid ho
        clear ho hb
        by_cases hin : i < m
        · have hi1 : i < L.length := by rw [HM.out]; exact hin
          obtain ⟨t, ht⟩ : ∃ t, L[i] = t := ⟨_, rfl⟩
          have HIt := hid (show L[i]? = some t from by rw [List.getElem?_eq_getElem hi1, ht])
          have HD := hid (HDe.out t (by rw [← ht]; exact List.getElem_mem hi1))
          have HAt := hid (set_at L i t HIt.out)
          have HSm := hid (set_map L i t HIt.out)
          have HLl := hid (show i < ((L.take i).map decP ++ L.drop i).length from by simp; omega)
          obtain ⟨g, o, rfl, hcell⟩ := HO.out.at HAt.out
          clear ht hi1
          obtain ⟨ns, hns⟩ : ∃ ns, (L.take i).map decP ++ L.drop i = ns := ⟨_, rfl⟩
          rw [hns] at HO HAt HSm HLl
          clear hns
          obtain ⟨Tt, hTt⟩ : ∃ Tt, str t = Tt := ⟨_, rfl⟩
          rw [hTt] at HD hcell
          have HTt := hid hTt
          clear hTt
          have HKc := hid (show ∀ W, OwnS W w.heap.size (.slice (some ⟨g, o, none⟩) m cc) ns → W.cell? ⟨g, o + i, none⟩ = some (.string Tt) from fun W h => by
            obtain ⟨g', o', e', h'⟩ := h.at HAt.out
            cases e'
            rw [h', HTt.out])
          go_wp2_with (go_at_call 43; (with_reducible refine (HD.out _).mono ?_); rintro e w4 ⟨rfl, hb⟩; have HB4 := hid (HB.out.trans (hb.mono HB.out.size)); have HO4 := hid (HO.out.keep hb); have hcell4 := HKc.out _ HO4.out; have hfz4 := (HO4.out.set (decP t) HLl.out).2.1; clear hb)
          go_roundg (m - (i + 1) + 1)
          case measure => omega
          case rel => exact ⟨i + 1, by omega, rfl, by push_cast; go_num, by rw [← HSm.out]; exact (HO4.out.set (decP t) HLl.out).1, HB4.out.setCell (HO4.out.set (decP t) HLl.out).2.2 _⟩
        · obtain rfl : m = i := by omega
          have HF := hid (show (L.take m).map decP ++ L.drop m = L.map decP from by rw [List.take_of_length_le (by rw [HM.out]; exact Nat.le_refl _), List.drop_of_length_le (by rw [HM.out]; exact Nat.le_refl _), List.append_nil])
          rw [HF.out] at HO
          go_wp2
          go_ret2
          exact ⟨_, _, rfl, HO.out, HB.out⟩
end Go.Proofs.YtbdbmlklijmefaaDoor
