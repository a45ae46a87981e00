/- The document's paths as they are meant, without dot segments. -/
import Derived.Test.YtbdbmlklijmefaaDoorRSeg
namespace Go.Proofs.YtbdbmlklijmefaaDoor
open Go.RowKit

theorem strCells_str (s : B) : Lib.strCells (str s) = Lib.byteCells s := by
  simp [Lib.strCells, Lib.byteCells]
theorem OwnS.cap {w : World} {base n c : Nat} {p : Option Addr} {ns : List B} (h : OwnS w base (.slice p n c) ns) : n ≤ c := by
  rcases h.2 with ⟨h1, h2⟩ | ⟨g, cap, cur, h1, h2, h3, h4, _⟩
  · cases h1; exact Nat.le_refl _
  · cases h1; exact h4
theorem OwnS.at {w : World} {base n c j : Nat} {p : Option Addr} {ns : List B} {t : B} (h : OwnS w base (.slice p n c) ns) (hj : ns[j]? = some t) : ∃ g o, p = some ⟨g, o, none⟩ ∧ w.cell? ⟨g, o + j, none⟩ = some (.string (str t)) := by
  have hlt : j < ns.length := (List.getElem?_eq_some_iff.1 hj).1
  rcases h.2 with ⟨h1, h2⟩ | ⟨g, cap, cur, h1, h2, h3, h4, _, h6, h7⟩
  · omega
  · refine ⟨g, 0, by cases h1; rfl, ?_⟩
    have e : (cur.toList.take (ns.length * 1))[j]? = some (.string (str t)) := by
      rw [h7]
      simp [strC, hj]
    rw [List.getElem?_take, if_pos (by omega)] at e
    simp only [Nat.zero_add]
    simp only [World.cell?, h3]
    simpa using e
theorem OwnS.less {w : World} {base k c : Nat} {p : Option Addr} {ns : List B} {t : B} (h : OwnS w base (.slice p (k + 1) c) (ns ++ [t])) (hk : ns.length = k) : OwnS w base (.slice p k c) ns := by
  rcases h.2 with ⟨h1, h2⟩ | ⟨g, cap, cur, h1, h2, h3, h4, h5, h6, h7⟩
  · simp at h2
  · simp only [Value.slice.injEq] at h1
    obtain ⟨rfl, _, rfl⟩ := h1
    refine ⟨by simp [strC], .inr ⟨g, c, cur, by rw [hk], h2, h3, by simp at h4; omega, h5, h6, ?_⟩⟩
    have e : (cur.toList.take ((ns ++ [t]).length * 1)).take (ns.length * 1) = strC ns := by
      rw [h7]
      simp [strC]
    rw [List.take_take] at e
    rw [← e]
    congr 1
    simp
theorem meant_len : ∀ s : B, (meantB s).length ≤ s.length
  | [] => Nat.le_refl _
  | [_] => Nat.le_refl _
  | [_, _] => Nat.le_refl _
  | c :: a :: b :: r => by
    rw [meantB]
    split
    · have := meant_len (a :: b :: r)
      simp at this ⊢
      omega
    · have := meant_len r
      rename_i v _
      have h3 : (if unres v = true then [v] else codeB v).length ≤ 3 := by split <;> simp [codeB]
      rw [List.length_append]
      simp
      omega
theorem segs_join_len (s : B) : (joinS (segs s)).length ≤ s.length := by
  obtain ⟨a, _, h⟩ := join_segs s
  conv => rhs; rw [h]
  simp
theorem join_drop : ∀ l : List B, (joinS l.dropLast).length ≤ (joinS l).length := by
  intro l
  rcases List.eq_nil_or_concat l with rfl | ⟨a, b, rfl⟩
  · simp
  · simp [join_app]
theorem dots_len : ∀ (L out o : List B), dotsL L out = some o → (joinS o).length ≤ (joinS out).length + (joinS L).length
  | [], out, o, h => by simp [dotsL] at h; subst h; simp
  | t :: r, out, o, h => by
    have ej : (joinS (t :: r)).length = t.length + 1 + (joinS r).length := by simp [joinS]; omega
    have hd := join_drop out
    rw [dotsL] at h
    split at h
    · split at h
      · cases h
        rw [join_app, List.length_append, ej]
        simp [joinS]
        omega
      · have := dots_len r _ _ h
        omega
    · split at h
      · split at h
        · cases h
        · split at h
          · cases h
            rw [join_app, List.length_append, ej]
            simp [joinS] at hd ⊢
            omega
          · have := dots_len r _ _ h
            omega
      · have := dots_len r _ _ h
        rw [join_app, List.length_append] at this
        have e2 : (joinS [t]).length = t.length + 1 := by simp [joinS]
        omega
theorem dots_one {r out : List B} : dotsL ([46] :: r) out = dotsL r (if r = [] then out ++ [[]] else out) := by
  rw [dotsL, if_pos rfl]
  split
  · next h => rw [h]; rfl
  · rfl
theorem dots_nil2 {r : List B} : dotsL ([46, 46] :: r) [] = none := by
  rw [dotsL, if_neg (by decide), if_pos rfl, if_pos rfl]
theorem dots_two {r out : List B} {x : B} : dotsL ([46, 46] :: r) (out ++ [x]) = dotsL r (if r = [] then out ++ [[]] else out) := by
  rw [dotsL, if_neg (by decide), if_pos rfl, if_neg (by simp), List.dropLast_concat]
  split
  · next h => rw [h]; rfl
  · rfl
theorem dots_else {r out : List B} {t : B} (h1 : t ≠ [46]) (h2 : t ≠ [46, 46]) : dotsL (t :: r) out = dotsL r (out ++ [t]) := by rw [dotsL, if_neg h1, if_neg h2]
set_option maxRecDepth 20000 in
set_option maxHeartbeats 8000000 in
theorem rnormal_any (s : B) (hs : s.length ≤ 4398046511104) (w : World) : Calls Tryd.prog 16 #[.string (str s)] w fun e w' => e = .returned (decV (normalB s)) ∧ Below w.heap.size w w' := by
  obtain ⟨i0, hi0, hz0, hz1, hz2⟩ := info_parts infoB
  obtain ⟨j0, hj0, hy0, hy1, hy2⟩ := info_parts infoS
  have HPa := hid (rpath_any s (by omega))
  have HMe := hid (rmeant_any s (by omega))
  have HSg := hid (rsegments_any (meantB s) (Nat.le_trans (meant_len s) hs))
  have HJl := hid (show ∀ o, dotsL (segs (meantB s)) [] = some o → (joinS o).length ≤ s.length from fun o h => by
    have h1 := dots_len _ _ _ h
    have h2 := segs_join_len (meantB s)
    have h3 := meant_len s
    simp [joinS] at h1
    simp [joinS] at h2 ⊢
    omega)
  have HLl := hid (show (segs (meantB s)).length ≤ s.length from by
    rw [segs_eq]
    exact Nat.le_trans (segsL_len _) (meant_len s))
  cases hp : isPath s with
  | false =>
    have HR := hid (show normalB s = none from by unfold normalB; rw [hp]; rfl)
    rw [hp] at HPa
    rw [HR.out]
    clear HMe HSg HJl HLl hp
    obtain ⟨S, hS⟩ : ∃ S, str s = S := ⟨_, rfl⟩
    rw [hS] at HPa ⊢
    clear hS
    go_enter Tryd.func16, Tryd.ntmps16
    go_wp2_with (go_at_call 38; (with_reducible refine (HPa.out _).mono ?_); rintro e w1 ⟨rfl, hb⟩; have HB1 := hid hb; clear hb)
    go_ret2
    exact ⟨rfl, HB1.out⟩
  | true =>
    obtain ⟨Dn, hDn⟩ : ∃ Dn, dotsL (segs (meantB s)) [] = Dn := ⟨_, rfl⟩
    have HR := hid (show normalB s = Dn.map joinS from by unfold normalB; rw [hp, ← hDn]; rfl)
    rw [hp] at HPa
    rw [HR.out]
    rw [hDn] at HJl
    have HD0 := hid hDn
    clear hDn hp
    obtain ⟨L, hL⟩ : ∃ L, segs (meantB s) = L := ⟨_, rfl⟩
    rw [hL] at HD0 HSg HLl
    obtain ⟨m, hm⟩ : ∃ m, L.length = m := ⟨_, rfl⟩
    rw [hm] at HSg HLl
    have HM := hid hm
    obtain ⟨S, hS⟩ : ∃ S, str s = S := ⟨_, rfl⟩
    rw [hS] at HPa HMe ⊢
    obtain ⟨Mt, hMt⟩ : ∃ Mt, str (meantB s) = Mt := ⟨_, rfl⟩
    rw [hMt] at HMe HSg
    have hmn : m ≤ 4398046511104 := Nat.le_trans HLl.out hs
    have HSl := hid hs
    clear hS hMt hL hm hs HLl
    go_enter Tryd.func16, Tryd.ntmps16
    go_wp2_with (first | (go_at_call 38; (with_reducible refine (HPa.out _).mono ?_); rintro e w1 ⟨rfl, hb⟩; have HB1 := hid hb; clear hb) | (go_at_call 40; (with_reducible refine (HMe.out _).mono ?_); rintro e w2 ⟨rfl, hb⟩; have HB2 := hid (below_out HB1.out hb); clear hb) | (go_at_call 39; (with_reducible refine (HSg.out _).mono ?_); rintro e w3 ⟨pl, cl, rfl, ho, hb⟩; have HB3 := hid (below_out HB2.out hb); have HOL := hid ho; clear hb ho))
    go_loopg [5, 6] (m + 1) (fun gk s5 s6 wr => ∃ i : Nat, i ≤ m ∧ gk = m - i + 1 ∧ s6 = .int .i64 (i : Int) ∧ ∃ acc : List B, OwnS wr w3.heap.size s5 acc ∧ acc.length ≤ i ∧ dotsL (L.drop i) acc = Dn ∧ Below w3.heap.size w3 wr)
    case atStart => exact ⟨0, by omega, rfl, rfl, [], OwnS.nil _ _, by simp, by rw [List.drop_zero]; exact HD0.out, Below.refl _ _⟩
    case round =>
      obtain ⟨i, hi, rfl, rfl, acc, ho, hln0, hR, hb⟩ := hrel
      have HB := hid hb
      have HRi := hid hR
      obtain ⟨ln, hln⟩ : ∃ ln, acc.length = ln := ⟨_, rfl⟩
      have HLe := hid hln
      obtain ⟨p, c0, rfl⟩ := own_slice ho
      have HO := hid ho
      rw [hln] at HO hln0 ⊢
      have hcap := HO.out.cap
      clear ho hb hln hR
      by_cases hin : i < m
      · have hi1 : i < L.length := by rw [HM.out]; exact hin
        obtain ⟨t, ht⟩ : ∃ t, L[i] = t := ⟨_, rfl⟩
        have HIt := hid (show L[i]? = some t from by rw [List.getElem?_eq_getElem hi1, ht])
        have HDr := hid (show L.drop i = t :: L.drop (i + 1) from by rw [List.drop_eq_getElem_cons hi1, ht])
        rw [HDr.out] at HRi
        have HLa := hid (show L.drop (i + 1) = [] ↔ i + 1 = m from by
          rw [List.drop_eq_nil_iff, HM.out]
          omega)
        obtain ⟨g, o, rfl, hcell⟩ := (HOL.out.keep HB.out).at HIt.out
        have hT : (str t).size ≤ 9223372036854775807 ∨ True := .inr trivial
        clear hT ht hi1
        have HKc := hid hcell
        by_cases h1 : t = [46]
        · subst h1
          by_cases hla : i + 1 = m
          · have HNx := hid (show dotsL (L.drop (i + 1)) (acc ++ [[]]) = Dn from by rw [← HRi.out, dots_one, if_pos (HLa.out.2 hla)])
            subst hla
            go_wp2_with (at_builtin; refine wpList_append_own_at _ rfl (.tmp 55) (.tmp 56) 41 rfl w3.heap.size 9 j0 _ 1 16 Tryd.underlying41 hj0 hy0 hy1 hy2 rfl (by decide) (.slice p ln c0) ln (strC acc) (by go_simp) (by have h8 := HO.out.alloc (.cells #[.string (⟨#[]⟩)] 9 (0, 0)); unfold OwnS at h8; rw [HLe.out] at h8; exact h8) ⟨wr.heap.size, 0, none⟩ 1 1 [.string (⟨#[]⟩)] (by go_simp) rfl (cells_new wr _ _) (by simp [Value.oneCell']) (by unfold maxLen; omega) (by omega) (Nat.le_trans HB.out.size (below_new _ _).size) ?_; intro v' w' hown hgr _ _; obtain ⟨p7, L7, c7, rfl⟩ := own_slice3 hown; have HB2 := hid (HB.out.trans (((below_new wr (.cells #[.string (⟨#[]⟩)] 9 (0, 0))).mono HB.out.size).trans (OwnS.below (HO.out.alloc (.cells #[.string (⟨#[]⟩)] 9 (0, 0))) (Nat.le_trans HB.out.size (below_new _ _).size) hgr))); have HW := hid (OwnS.put (acc := acc) (t := []) (by rw [HLe.out]; exact hown)); clear hown hgr)
            go_roundg (i + 1 - (i + 1) + 1)
            case measure => omega
            case rel => exact ⟨i + 1, by omega, rfl, by push_cast; go_num, _, HW.out, by rw [List.length_append, HLe.out]; simp; omega, HNx.out, HB2.out⟩
          · have hl1 : ¬ (i : Int) = (m : Int) - 1 := by omega
            have hl2 : ((i : Int) == (m : Int) - 1) = false := by simpa using hl1
            have HNx := hid (show dotsL (L.drop (i + 1)) acc = Dn from by rw [← HRi.out, dots_one, if_neg (fun e => hla (HLa.out.1 e))])
            go_wp2
            go_roundg (m - (i + 1) + 1)
            case measure => omega
            case rel => exact ⟨i + 1, by omega, rfl, by push_cast; go_num, _, by have h8 := HO.out; exact h8, by rw [HLe.out]; omega, HNx.out, HB.out⟩
        · by_cases h2 : t = [46, 46]
          · subst h2
            rcases List.eq_nil_or_concat acc with ha | ⟨ac2, xl, ha⟩
            · subst ha
              obtain rfl : ln = 0 := by rw [← HLe.out]; rfl
              have HF := hid (show Dn = none from by rw [← HRi.out, dots_nil2])
              go_wp2
              go_ret2
              rw [HF.out]
              exact ⟨rfl, below_out HB3.out HB.out⟩
            · rw [List.concat_eq_append] at ha
              subst ha
              obtain ⟨k, hk⟩ : ∃ k, ac2.length = k := ⟨_, rfl⟩
              obtain rfl : ln = k + 1 := by rw [← HLe.out, List.length_append, hk]; rfl
              have HO2 := hid (HO.out.less hk)
              have HLk := hid hk
              clear hk h1
              have hk0 : ¬ ((k : Int) + 1) = 0 := by omega
              by_cases hla : i + 1 = m
              · have HNx := hid (show dotsL (L.drop (i + 1)) (ac2 ++ [[]]) = Dn from by rw [← HRi.out, dots_two, if_pos (HLa.out.2 hla)])
                subst hla
                go_wp2_with (at_builtin; refine wpList_append_own_at _ rfl (.tmp 55) (.tmp 56) 41 rfl w3.heap.size 9 j0 _ 1 16 Tryd.underlying41 hj0 hy0 hy1 hy2 rfl (by decide) (.slice p k c0) k (strC ac2) (by go_simp) (by have h8 := HO2.out.alloc (.cells #[.string (⟨#[]⟩)] 9 (0, 0)); unfold OwnS at h8; rw [HLk.out] at h8; exact h8) ⟨wr.heap.size, 0, none⟩ 1 1 [.string (⟨#[]⟩)] (by go_simp) rfl (cells_new wr _ _) (by simp [Value.oneCell']) (by unfold maxLen; omega) (by omega) (Nat.le_trans HB.out.size (below_new _ _).size) ?_; intro v' w' hown hgr _ _; obtain ⟨p7, L7, c7, rfl⟩ := own_slice3 hown; have HB2 := hid (HB.out.trans (((below_new wr (.cells #[.string (⟨#[]⟩)] 9 (0, 0))).mono HB.out.size).trans (OwnS.below (HO2.out.alloc (.cells #[.string (⟨#[]⟩)] 9 (0, 0))) (Nat.le_trans HB.out.size (below_new _ _).size) hgr))); have HW := hid (OwnS.put (acc := ac2) (t := []) (by rw [HLk.out]; exact hown)); clear hown hgr)
                go_roundg (i + 1 - (i + 1) + 1)
                case measure => omega
                case rel => exact ⟨i + 1, by omega, rfl, by push_cast; go_num, _, HW.out, by rw [List.length_append, HLk.out]; simp; omega, HNx.out, HB2.out⟩
              · have hl1 : ¬ (i : Int) = (m : Int) - 1 := by omega
                have hl2 : ((i : Int) == (m : Int) - 1) = false := by simpa using hl1
                have HNx := hid (show dotsL (L.drop (i + 1)) ac2 = Dn from by rw [← HRi.out, dots_two, if_neg (fun e => hla (HLa.out.1 e))])
                go_wp2
                go_roundg (m - (i + 1) + 1)
                case measure => omega
                case rel => exact ⟨i + 1, by omega, rfl, by push_cast; go_num, _, by have h8 := HO2.out; exact h8, by rw [HLk.out]; omega, HNx.out, HB.out⟩
          · have HNx := hid (show dotsL (L.drop (i + 1)) (acc ++ [t]) = Dn from by rw [← HRi.out, dots_else h1 h2])
            have q1 : ((str t).toList == (⟨#[46]⟩ : ByteArray).toList) = false := ne_list (str_ne h1)
            have q2 : ((str t).toList == (⟨#[46, 46]⟩ : ByteArray).toList) = false := ne_list (str_ne h2)
            have q3 : (t == [46]) = false := by simpa using h1
            have q4 : (t == [46, 46]) = false := by simpa using h2
            go_wp2_with (at_builtin; refine wpList_append_own_at _ rfl (.tmp 31) (.tmp 36) 41 rfl w3.heap.size 9 j0 _ 1 16 Tryd.underlying41 hj0 hy0 hy1 hy2 rfl (by decide) (.slice p ln c0) ln (strC acc) (by go_simp) (by have h8 := HO.out.alloc (.cells #[.string (str t)] 9 (0, 0)); unfold OwnS at h8; rw [HLe.out] at h8; exact h8) ⟨wr.heap.size, 0, none⟩ 1 1 [.string (str t)] (by go_simp) rfl (cells_new wr _ _) (by simp [Value.oneCell']) (by unfold maxLen; omega) (by omega) (Nat.le_trans HB.out.size (below_new _ _).size) ?_; intro v' w' hown hgr _ _; obtain ⟨p7, L7, c7, rfl⟩ := own_slice3 hown; have HB2 := hid (HB.out.trans (((below_new wr (.cells #[.string (str t)] 9 (0, 0))).mono HB.out.size).trans (OwnS.below (HO.out.alloc (.cells #[.string (str t)] 9 (0, 0))) (Nat.le_trans HB.out.size (below_new _ _).size) hgr))); have HW := hid (OwnS.put (acc := acc) (t := t) (by rw [HLe.out]; exact hown)); clear hown hgr)
            go_roundg (m - (i + 1) + 1)
            case measure => omega
            case rel => exact ⟨i + 1, by omega, rfl, by push_cast; go_num, _, HW.out, by rw [List.length_append, HLe.out]; simp; omega, HNx.out, HB2.out⟩
      · obtain rfl : m = i := by omega
        obtain ⟨W4, hW4⟩ : ∃ W4, W4 = wr := ⟨_, rfl⟩
        subst hW4
        have HV := hid (show Dn = some acc from by rw [← HRi.out, List.drop_of_length_le (by rw [HM.out]; exact Nat.le_refl _)]; rfl)
        have hjl : (joinS acc).length ≤ 4398046511104 := Nat.le_trans (HJl.out acc HV.out) HSl.out
        have HBw := hid (below_out HB3.out HB.out)
        go_wp2
        go_loopg [8, 9] (ln + 1) (fun gk s8 s9 wr => ∃ k : Nat, k ≤ ln ∧ gk = ln - k + 1 ∧ s9 = .int .i64 (k : Int) ∧ Own wr W4.heap.size s8 (joinS (acc.take k)) ∧ Below W4.heap.size W4 wr)
        case atStart => exact ⟨0, by omega, rfl, rfl, Own.nil _ _, Below.refl _ _⟩
        case round =>
          obtain ⟨k, hk, rfl, rfl, hob, hbb⟩ := hrel
          have HBb := hid hbb
          obtain ⟨ba, hba⟩ : ∃ ba, joinS (acc.take k) = ba := ⟨_, rfl⟩
          have HBa := hid hba
          rw [hba] at hob
          obtain ⟨lb, hlb⟩ : ∃ lb, ba.length = lb := ⟨_, rfl⟩
          have HLb := hid hlb
          obtain ⟨pb, cb, rfl⟩ := own_slice hob
          have HOb := hid hob
          rw [hlb] at HOb ⊢
          clear hob hbb hba hlb
          by_cases hkn : k < ln
          · have hk1 : k < acc.length := by rw [HLe.out]; exact hkn
            obtain ⟨t, ht⟩ : ∃ t, acc[k] = t := ⟨_, rfl⟩
            have HIt := hid (show acc[k]? = some t from by rw [List.getElem?_eq_getElem hk1, ht])
            have HTk := hid (show joinS (acc.take (k + 1)) = ba ++ [47] ++ t from by rw [← HBa.out, List.take_add_one, List.getElem?_eq_getElem hk1, ht, join_app]; simp [joinS])
            have HTl := hid (show (ba ++ [47] ++ t).length ≤ 4398046511104 from by
              rw [← HTk.out]
              refine Nat.le_trans ?_ hjl
              conv => rhs; rw [← List.take_append_drop (k + 1) acc]
              rw [join_app, List.length_append]
              exact Nat.le_add_right _ _)
            obtain ⟨lt, hlt⟩ : ∃ lt, t.length = lt := ⟨_, rfl⟩
            have hsum : lb + 1 + lt ≤ 4398046511104 := by
              have := HTl.out
              rw [List.length_append, List.length_append, HLb.out, hlt] at this
              exact this
            have hts : (str t).size = lt := by rw [str_size, hlt]
            have HLt := hid hlt
            obtain ⟨g, o, rfl, hcell⟩ := (HO.out.keep HBb.out).at HIt.out
            have H47 := hid (show Lib.byteCells [47] = [.int .u8 47] from rfl)
            have HL1 := hid (show (ba ++ [47]).length = lb + 1 from by rw [List.length_append, HLb.out]; rfl)
            have HKo := hid (show ∀ W, Below W4.heap.size W4 W → W.cell? ⟨g, o + k, none⟩ = some (.string (str t)) from fun W hW => by
              obtain ⟨g', o', e', hc'⟩ := (HO.out.keep hW).at HIt.out
              cases e'
              exact hc')
            have HTs := hid hts
            clear ht hk1 hlt
            go_wp2_with (first | (at_builtin; refine wpList_append_own_at _ rfl (.tmp 64) (.tmp 65) 63 rfl W4.heap.size 5 i0 _ 1 1 Tryd.underlying63 hi0 hz0 hz1 hz2 rfl (by decide) (.slice pb lb cb) lb (Lib.byteCells ba) (by go_simp) (by have h8 := HOb.out.alloc (.cells #[.int .u8 47] 5 (0, 0)); unfold Own at h8; rw [HLb.out] at h8; exact h8) ⟨wr.heap.size, 0, none⟩ 1 1 [.int .u8 47] (by go_simp) rfl (cells_new wr _ _) (by simp [Value.oneCell']) (by unfold maxLen; omega) (by omega) (Nat.le_trans HBb.out.size (below_new _ _).size) ?_; intro v' w7 hown hgr _ _; obtain ⟨p7, L7, c7, rfl⟩ := own_slice3 hown; have HB7 := hid (HBb.out.trans (((below_new wr (.cells #[.int .u8 47] 5 (0, 0))).mono HBb.out.size).trans (Own.below (HOb.out.alloc (.cells #[.int .u8 47] 5 (0, 0))) (Nat.le_trans HBb.out.size (below_new _ _).size) hgr))); have HW7 := hid (Own.put (acc := ba) (bs := [47]) (by rw [HLb.out]; exact hown) H47.out rfl); have hcell7 := HKo.out w7 HB7.out; clear hown hgr) | (at_builtin; refine Lib.wpList_append_own_string _ rfl (.tmp 67) (.tmp 71) 63 9 rfl W4.heap.size 5 i0 Tryd.underlying63 Tryd.underlying9 hi0 hz0 hz1 hz2 (.slice p7 L7 c7) (lb + 1) (Lib.byteCells (ba ++ [47])) (by go_simp) (by have h8 := HW7.out; unfold Own at h8; rw [HL1.out] at h8; exact h8) (str t) (by go_simp) (by rw [HTs.out]; unfold maxLen; omega) (by rw [HTs.out]; omega) HB7.out.size ?_; intro v' w8 hown hgr _; obtain ⟨p8, L8, c8, rfl⟩ := own_slice3 hown; have HB8 := hid (HB7.out.trans (Own.below HW7.out HB7.out.size hgr)); have HW8 := hid (Own.put (acc := ba ++ [47]) (bs := t) (by rw [HL1.out]; exact hown) (by rw [strCells_str]) (by rw [HTs.out, HLt.out])); clear hown hgr))
            go_roundg (ln - (k + 1) + 1)
            case measure => omega
            case rel => exact ⟨k + 1, by omega, rfl, by push_cast; go_num, by rw [HTk.out]; exact HW8.out, HB8.out⟩
          · obtain rfl : ln = k := by omega
            have HVb := hid (show ba = joinS acc from by rw [← HBa.out, List.take_of_length_le (by rw [HLe.out]; exact Nat.le_refl _)])
            have hcv := conv_own (by have h8 := HOb.out; exact h8 : Own wr W4.heap.size (.slice pb lb cb) ba)
            go_wp2
            go_ret2
            rw [HV.out]
            refine ⟨?_, below_out HBw.out HBb.out⟩
            show _ = Ending.returned (.tuple #[.string (str (joinS acc)), .int .i64 0])
            rw [← HVb.out]
            rfl
end Go.Proofs.YtbdbmlklijmefaaDoor
