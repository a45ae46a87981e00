/- The document's segments of a path. -/
import Derived.Test.YtbdbmlklijmefaaDoorRNorm
namespace Go.Proofs.YtbdbmlklijmefaaDoor
open Go.RowKit

/-- The segments of a path, or the error. -/
def segsT (s : B) : List B × Nat := match normalB s with
  | none => ([], 23)
  | some p => if 64 < (segs p).length then ([], 2) else ((segs p).map fun t => (decodeB t).getD [], 0)
theorem normal_len {s p : B} (h : normalB s = some p) : p.length ≤ s.length := by
  unfold normalB at h
  split at h
  · cases hd : dotsL (segs (meantB s)) [] with
    | none => rw [hd] at h; cases h
    | some o =>
      rw [hd] at h
      cases h
      have h1 := dots_len _ _ _ hd
      have h2 := segs_join_len (meantB s)
      have h3 := meant_len s
      have h4 : (joinS []).length = 0 := rfl
      show (joinS o).length ≤ _
      omega
  · cases h
theorem mem_join : ∀ {l : List B} {t : B}, t ∈ l → t.length ≤ (joinS l).length
  | a :: l, t, h => by
    have e : (joinS (a :: l)).length = a.length + 1 + (joinS l).length := by simp [joinS]; omega
    rcases List.mem_cons.1 h with rfl | h
    · omega
    · have := mem_join h
      omega
theorem OwnS.base {w : World} {b b' : Nat} {v : Value} {acc : List B} (h : OwnS w b v acc) (hb : b' ≤ b) : OwnS w b' v acc := by
  refine ⟨h.1, ?_⟩
  rcases h.2 with h1 | ⟨g, cap, cur, h1, h2, h3⟩
  · exact .inl h1
  · exact .inr ⟨g, cap, cur, h1, Nat.le_trans hb h2, h3⟩
theorem seg_len {p t : B} (h : t ∈ segs p) : t.length ≤ p.length := Nat.le_trans (mem_join h) (segs_join_len p)
set_option maxRecDepth 20000 in
set_option maxHeartbeats 8000000 in
theorem rsegs_any (s : B) (hs : s.length ≤ 4398046511104) (w : World) : Calls Tryd.prog 18 #[.string (str s)] w fun e w' => ∃ p c, e = .returned (.tuple #[.slice p (segsT s).1.length c, .int .i64 ((segsT s).2 : Int)]) ∧ OwnS w' w.heap.size (.slice p (segsT s).1.length c) (segsT s).1 ∧ Below w.heap.size w w' := by
  obtain ⟨j0, hj0, hy0, hy1, hy2⟩ := info_parts infoS
  have HNo := hid (rnormal_any s hs)
  cases hn : normalB s with
  | none =>
    have HR := hid (show segsT s = ([], 23) from by unfold segsT; rw [hn])
    rw [hn] at HNo
    rw [HR.out]
    clear hn
    obtain ⟨S, hS⟩ : ∃ S, str s = S := ⟨_, rfl⟩
    rw [hS] at HNo ⊢
    unfold decV at HNo
    clear hS
    go_enter Tryd.func18, Tryd.ntmps18
    go_wp2_with (go_at_call 16; (with_reducible refine (HNo.out _).mono ?_); rintro e w1 ⟨rfl, hb⟩; have HB1 := hid hb; clear hb)
    go_ret2
    exact ⟨none, 0, rfl, OwnS.nil _ _, HB1.out⟩
  | some P =>
    have hPl := Nat.le_trans (normal_len hn) hs
    have HSg := hid (rsegments_any P hPl)
    have HTl := hid (show ∀ t ∈ segs P, t.length ≤ 35184372088832 from fun t h => Nat.le_trans (seg_len h) (by omega))
    rw [hn] at HNo
    unfold decV at HNo
    obtain ⟨S, hS⟩ : ∃ S, str s = S := ⟨_, rfl⟩
    rw [hS] at HNo ⊢
    have HT := hid (show segsT s = if 64 < (segs P).length then ([], 2) else ((segs P).map fun t => (decodeB t).getD [], 0) from by unfold segsT; rw [hn])
    obtain ⟨L, hL⟩ : ∃ L, segs P = L := ⟨_, rfl⟩
    rw [hL] at HSg HTl HT
    obtain ⟨m, hm⟩ : ∃ m, L.length = m := ⟨_, rfl⟩
    rw [hm] at HSg HT
    have HM := hid hm
    obtain ⟨Pt, hPt⟩ : ∃ Pt, str P = Pt := ⟨_, rfl⟩
    rw [hPt] at HSg
    have HNo2 := hid (show ∀ w : World, _ from HNo.out)
    simp only [hPt] at HNo2
    clear HNo hn hS hL hm hPt hPl hs
    have HNo := HNo2
    clear HNo2
    by_cases h64 : 64 < m
    · have HR := hid (show segsT s = ([], 2) from by rw [HT.out, if_pos h64])
      rw [HR.out]
      go_enter Tryd.func18, Tryd.ntmps18
      go_wp2_with (first | (go_at_call 16; (with_reducible refine (HNo.out _).mono ?_); rintro e w1 ⟨rfl, hb⟩; have HB1 := hid hb; clear hb) | (go_at_call 39; (with_reducible refine (HSg.out _).mono ?_); rintro e w3 ⟨pl, cl, rfl, ho, hb⟩; have HB3 := hid (below_out HB1.out hb); have HOL := hid ho; clear hb ho))
      go_ret2
      exact ⟨none, 0, rfl, OwnS.nil _ _, HB3.out⟩
    · have HR := hid (show segsT s = (L.map fun t => (decodeB t).getD [], 0) from by rw [HT.out, if_neg h64])
      rw [HR.out]
      go_enter Tryd.func18, Tryd.ntmps18
      go_wp2_with (first | (go_at_call 16; (with_reducible refine (HNo.out _).mono ?_); rintro e w1 ⟨rfl, hb⟩; have HB1 := hid hb; clear hb) | (go_at_call 39; (with_reducible refine (HSg.out _).mono ?_); rintro e w3 ⟨pl, cl, rfl, ho, hb⟩; have HB3 := hid (below_out HB1.out hb); have HOL := hid ho; clear hb ho))
      go_loopg [7, 8] (m + 1) (fun gk s7 s8 wr => ∃ i : Nat, i ≤ m ∧ gk = m - i + 1 ∧ s8 = .int .i64 (i : Int) ∧ OwnS wr w3.heap.size s7 ((L.take i).map fun t => (decodeB t).getD []) ∧ Below w3.heap.size w3 wr)
      case atStart => exact ⟨0, by omega, rfl, rfl, OwnS.nil _ _, Below.refl _ _⟩
      case round =>
        obtain ⟨i, hi, rfl, rfl, ho, hb⟩ := hrel
        have HB := hid hb
        obtain ⟨acc, hacc⟩ : ∃ acc, ((L.take i).map fun t => (decodeB t).getD []) = acc := ⟨_, rfl⟩
        have HAcc := hid hacc
        have HLe := hid (show acc.length = i from by rw [← hacc]; simp [HM.out]; exact Nat.min_eq_left hi)
        rw [hacc] at ho
        obtain ⟨p, c0, rfl⟩ := own_slice ho
        have HO := hid ho
        rw [HLe.out] at HO ⊢
        clear ho hb hacc
        by_cases hin : i < m
        · have hi1 : i < L.length := by rw [HM.out]; exact hin
          obtain ⟨t, ht⟩ : ∃ t, L[i] = t := ⟨_, rfl⟩
          have HIt := hid (show L[i]? = some t from by rw [List.getElem?_eq_getElem hi1, ht])
          have HTk := hid (show ((L.take (i + 1)).map fun t => (decodeB t).getD []) = acc ++ [(decodeB t).getD []] from by rw [← HAcc.out, List.take_add_one, List.getElem?_eq_getElem hi1, ht]; simp)
          have HDe := hid (rdecode_any t (HTl.out t (by rw [← ht]; exact List.getElem_mem hi1)))
          obtain ⟨k, hk⟩ := decV_fst (decodeB t)
          rw [hk] at HDe
          obtain ⟨D, hD⟩ : ∃ D, (decodeB t).getD [] = D := ⟨_, rfl⟩
          rw [hD] at HDe HTk
          obtain ⟨g, o, rfl, hcell⟩ := (HOL.out.keep HB.out).at HIt.out
          clear ht hi1 hk hD
          go_wp2_with (first | (go_at_call 21; (with_reducible refine (HDe.out _).mono ?_); rintro e w5 ⟨rfl, hb⟩; have HBq := hid (HB.out.trans (hb.mono HB.out.size)); have HOq := hid (HO.out.keep hb); clear hb) | (at_builtin; refine wpList_append_own_at _ rfl (.tmp 38) (.tmp 40) 41 rfl w3.heap.size 9 j0 _ 1 16 Tryd.underlying41 hj0 hy0 hy1 hy2 rfl (by decide) (.slice p i c0) i (strC acc) (by go_simp) (by have h8 := HOq.out.alloc (.cells #[.string (str D)] 9 (0, 0)); unfold OwnS at h8; rw [HLe.out] at h8; exact h8) ⟨w5.heap.size, 0, none⟩ 1 1 [.string (str D)] (by go_simp) rfl (cells_new w5 _ _) (by simp [Value.oneCell']) (by unfold maxLen; omega) (by omega) (Nat.le_trans HBq.out.size (below_new _ _).size) ?_; intro v' w' hown hgr _ _; obtain ⟨p7, L7, c7, rfl⟩ := own_slice3 hown; have HB2 := hid (HBq.out.trans (((below_new w5 (.cells #[.string (str D)] 9 (0, 0))).mono HBq.out.size).trans (OwnS.below (HOq.out.alloc (.cells #[.string (str D)] 9 (0, 0))) (Nat.le_trans HBq.out.size (below_new _ _).size) hgr))); have HW := hid (OwnS.put (acc := acc) (t := D) (by rw [HLe.out]; exact hown)); clear hown hgr))
          go_roundg (m - (i + 1) + 1)
          case measure => omega
          case rel => exact ⟨i + 1, by omega, rfl, by push_cast; go_num, by rw [HTk.out]; exact HW.out, HB2.out⟩
        · obtain rfl : m = i := by omega
          have HV := hid (show acc = (L.map fun t => (decodeB t).getD []) from by rw [← HAcc.out, List.take_of_length_le (by rw [HM.out]; exact Nat.le_refl _)])
          go_wp2
          go_ret2
          rw [← HV.out]
          refine ⟨p, c0, ?_, ?_, below_out HB3.out HB.out⟩
          · rw [show (acc, 0).1.length = m from HLe.out]
            rfl
          · rw [show (acc, 0).1.length = m from HLe.out]
            exact HO.out.base HB3.out.size
end Go.Proofs.YtbdbmlklijmefaaDoor
