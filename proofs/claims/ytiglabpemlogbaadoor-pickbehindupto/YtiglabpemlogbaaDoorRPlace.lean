/- The place that a step tells, the document's. -/
import Derived.Test.YtiglabpemlogbaaDoorRStep
namespace Go.Proofs.YtiglabpemlogbaaDoor
open Go.RowKit

theorem numL_bd {most : Int} : ∀ (l : List UInt8) (n m : Int), 0 ≤ n → n ≤ most → numL 10 most l n = some m → 0 ≤ m ∧ m ≤ most
  | [], n, m, h0, h1, h => by
    simp only [numL, Option.some.injEq] at h
    omega
  | b :: r, n, m, h0, h1, h => by
    have hv := hexV_bd (b.toNat : Int)
    rw [numL] at h
    split at h
    · cases h
    · rename_i hn
      exact numL_bd r _ m (by omega) (by omega) h
theorem numN_bd {most : Int} (s : ByteArray) (hm : 0 ≤ most) : 0 ≤ numN 10 most s ∧ numN 10 most s ≤ most := by
  unfold numN
  rw [if_neg (by omega)]
  split
  · omega
  · cases h : numL 10 most s.data.toList 0 with
    | none => simp; omega
    | some m =>
      simp only [Option.getD_some]
      exact numL_bd _ _ _ (Int.le_refl 0) hm h
/-- The place is told, or that there is none. -/
def plZ (r : Option Nat) : Int := match r with
  | some i => (i : Int)
  | none => -1
theorem idx_le : ∀ (ns : List B) (i : Nat) (h : i < ns.length), ns.idxOf ns[i] ≤ i
  | [], i, h => by simp at h
  | a :: l, 0, h => by simp
  | a :: l, i + 1, h => by
    simp only [List.getElem_cons_succ]
    rw [List.idxOf_cons]
    have := idx_le l i (by simpa using h)
    cases a == l[i]'(by simpa using h)
    · simp; omega
    · simp
theorem idx_here {ns : List B} {s : B} {i : Nat} (h : i < ns.length) (hi : i ≤ ns.idxOf s) (e : ns[i] = s) : ns.idxOf s = i := by
  have h2 : ns.idxOf s ≤ i := by
    rw [← e]
    exact idx_le ns i h
  omega
theorem idx_next {ns : List B} {s : B} {i : Nat} (h : i < ns.length) (hi : i ≤ ns.idxOf s) (e : ns[i] ≠ s) : i + 1 ≤ ns.idxOf s := by
  rcases Nat.lt_or_ge i (ns.idxOf s) with q | q
  · omega
  · have e2 : ns.idxOf s = i := by omega
    have hlt : ns.idxOf s < ns.length := by omega
    exact absurd (by have := List.getElem_idxOf hlt; simp only [e2] at this; exact this) e
set_option maxRecDepth 20000 in
set_option maxHeartbeats 8000000 in
theorem rstep_any (t : JV) (s : B) (hs : s.length ≤ 1048577) (w : World) (cs : List Value) (hf : Fits t) (hv : ValOn w t cs) : Calls Tryd.prog 35 #[.agg cs.toArray, .string (str s)] w fun e w' => e = .returned (.int .i64 (plZ (placeN t s))) ∧ Below w.heap.size w w' := by
  obtain ⟨k, b, tx, n, hh, ls, ns⟩ := t
  obtain ⟨p1, c1, p2, c2, rfl, hp1, hp2⟩ := hv.open
  simp only [Fits] at hf
  unfold maxI at hf
  obtain ⟨n1, e1⟩ : ∃ n1, ls.length = n1 := ⟨_, rfl⟩
  obtain ⟨n2, e2⟩ : ∃ n2, ns.length = n2 := ⟨_, rfl⟩
  have hn1 : n1 ≤ 1048576 := by rw [← e1]; exact hf.2.1
  have hn2 : n2 ≤ 1048576 := by rw [← e2]; exact hf.2.2.1
  have HN1 := hid e1
  have HN2 := hid e2
  rw [e1, e2]
  obtain ⟨W0, hW0⟩ : ∃ W0, W0 = w.alloc (C7 k b tx n hh p1 n1 c1 p2 n2 c2) := ⟨_, rfl⟩
  have HB0 := hid (below_new w (C7 k b tx n hh p1 n1 c1 p2 n2 c2))
  have HX0 := hid (show (w.alloc (C7 k b tx n hh p1 n1 c1 p2 n2 c2)).heap[w.heap.size]? = some (C7 k b tx n hh p1 n1 c1 p2 n2 c2) from heap_alloc_new _ _)
  have HN := hid (hp2.below HB0.out)
  have HSz := hid (show (str s).size ≤ 1048577 from by rw [str_size]; exact hs)
  clear hp1 hp2 hv hW0 W0
  by_cases h6 : k = 6
  · subst h6
    have HP := hid (show placeN (.mk 6 b tx n hh ls ns) s = if s = [] then none else nameAt n1 ns s from by
      by_cases h0 : s = []
      · rw [if_pos h0, h0]
        exact place_nil _
      · rw [if_neg h0, place_obj h0, e1])
    have HQ := hid (show ¬ s = [] → (str s).toList.isEmpty = false from fun h => ne_empty (str_ne (b := []) h))
    have HQ0 := hid (show s = [] → (str s).toList.isEmpty = true from fun h => by rw [h, ByteArray.toList_eq]; rfl)
    have HEq := hid (show ∀ y : B, y ≠ s → ((str y).toList == (str s).toList) = false from fun y h => ne_list (str_ne h))
    obtain ⟨S, hS⟩ : ∃ S, str s = S := ⟨_, rfl⟩
    have HS := hid hS
    rw [hS] at HQ HQ0 HEq ⊢
    clear hf hs e1 e2 hS
    go_enter Tryd.func35, Tryd.ntmps35
    go_wp2
    go_loopg [5] (n2 + 1) (fun gk s5 wr => ∃ i : Nat, i ≤ n2 ∧ i ≤ n1 ∧ gk = n2 - i + 1 ∧ s5 = .int .i64 (i : Int) ∧ wr = w.alloc (C7 6 b tx n hh p1 n1 c1 p2 n2 c2) ∧ (s = [] ∨ i ≤ ns.idxOf s))
    case atStart => exact ⟨0, by omega, by omega, rfl, rfl, rfl, .inr (Nat.zero_le _)⟩
    case round =>
      obtain ⟨i, hi, hi2, rfl, rfl, rfl, hix⟩ := hrel
      have HIx := hid hix
      clear hix
      by_cases hin : i < n2 ∧ i < n1
      · obtain ⟨hin1, hin2⟩ := hin
        have hi1 : i < ns.length := by rw [HN2.out]; exact hin1
        obtain ⟨g, o, rfl, hc⟩ := HN.out i ns[i] (List.getElem?_eq_getElem hi1)
        have HHere := hid (fun h => idx_here (s := s) hi1 h)
        have HNext := hid (fun h => idx_next (s := s) hi1 h)
        obtain ⟨y, hy⟩ : ∃ y, ns[i] = y := ⟨_, rfl⟩
        rw [hy] at hc HHere HNext
        clear hy hi1
        by_cases hys : y = s
        · subst hys
          by_cases h0 : y = []
          · have hemp := HQ0.out h0
            rw [HS.out] at hc
            go_wp2
            go_roundg (n2 - (i + 1) + 1)
            case measure => omega
            case rel => exact ⟨i + 1, by omega, by omega, rfl, by push_cast; rfl, rfl, .inl h0⟩
          · have hemp := HQ.out h0
            rw [HS.out] at hc
            go_wp2
            go_ret
            refine ⟨?_, HB0.out⟩
            have hle : i ≤ ns.idxOf y := HIx.out.resolve_left h0
            have e := HHere.out hle (by first | rfl | trivial)
            rw [HP.out, if_neg h0]
            unfold nameAt
            rw [e, HN2.out, if_pos ⟨hin1, hin2⟩]
            rfl
        · have hne := HEq.out y hys
          obtain ⟨Y, hY⟩ : ∃ Y, str y = Y := ⟨_, rfl⟩
          rw [hY] at hne hc
          clear hY
          go_wp2
          go_roundg (n2 - (i + 1) + 1)
          case measure => omega
          case rel => exact ⟨i + 1, by omega, by omega, rfl, by push_cast; rfl, rfl, HIx.out.imp_right fun h => HNext.out h hys⟩
      · have HR := hid (show plZ (placeN (.mk 6 b tx n hh ls ns) s) = -1 from by
          rw [HP.out]
          by_cases h0 : s = []
          · rw [if_pos h0]; rfl
          · rw [if_neg h0]
            have := HIx.out.resolve_left h0
            unfold nameAt
            rw [if_neg (by rw [HN2.out]; omega)]
            rfl)
        by_cases hin1 : i < n2
        · have hin2 : ¬ i < n1 := fun h => hin ⟨hin1, h⟩
          go_wp2
          go_ret
          rw [HR.out]
          exact ⟨rfl, HB0.out⟩
        · go_wp2
          go_ret
          rw [HR.out]
          exact ⟨rfl, HB0.out⟩
  · have q6 : (k == 6) = false := by simpa using h6
    by_cases h5 : k = 5
    · subst h5
      obtain ⟨S, hS⟩ : ∃ S, str s = S := ⟨_, rfl⟩
      have hS2 : asB s = S := hS
      obtain ⟨Nv, hNv⟩ : ∃ Nv, numN 10 1099511627776 S = Nv := ⟨_, rfl⟩
      obtain ⟨Ev, hEv⟩ : ∃ Ev, numE 10 1099511627776 S = Ev := ⟨_, rfl⟩
      have hbd := numN_bd (most := 1099511627776) S (by omega)
      rw [hNv] at hbd
      have HNv := hid hNv
      have HEv := hid hEv
      have hno : ¬ (Ev = 0 ∧ Lib.itoa Nv = s ∧ Nv < n1) → placeN (.mk 5 b tx n hh ls ns) s = none := by
        intro h
        by_cases h0 : s = []
        · rw [h0]; exact place_nil _
        · rw [place_list h0, e1]
          refine ref_none (by omega) ?_
          rw [hS2]
          show ¬ (numE 10 1099511627776 S = 0 ∧ Lib.itoa (numN 10 1099511627776 S) = s ∧ numN 10 1099511627776 S < n1)
          rw [hNv, hEv]
          exact h
      have hyes : Lib.itoa Nv = s → Nv < n1 → placeN (.mk 5 b tx n hh ls ns) s = some Nv.toNat := by
        intro h1 h2
        have h0 : s ≠ [] := by
          rw [← h1]
          unfold Lib.itoa
          rw [if_neg (by omega)]
          obtain ⟨d, r, _, e⟩ := dec_head Nv.toNat
          rw [e]
          simp
        rw [place_list h0, e1]
        have := ref_num (n := n1) (s := s) (by omega)
        rw [hS2] at this
        have := this (by show Lib.itoa (numN 10 1099511627776 S) = s; rw [hNv]; exact h1) (by show numN 10 1099511627776 S < n1; rw [hNv]; exact h2) (by show 0 ≤ numN 10 1099511627776 S; rw [hNv]; exact hbd.1)
        rw [this]
        show some (numN 10 1099511627776 S).toNat = _
        rw [hNv]
      have HYes := hid hyes
      have HNo := hid hno
      have HSt := hid hS
      obtain ⟨T, hT⟩ : ∃ T : ByteArray, ⟨(Lib.itoa Nv).toArray⟩ = T := ⟨_, rfl⟩
      have HIt := hid hT
      have HTS := hid (show T = S ↔ Lib.itoa Nv = s from by rw [← hT, ← hS]; exact ⟨fun e => str_inj e, fun e => by rw [e]⟩)
      rw [hS] at HSz ⊢
      clear hf hs e1 e2 hS hS2 hNv hEv hno hyes hT h6 q6
      by_cases hE0 : Ev = 0
      · subst hE0
        by_cases hTS : T = S
        · subst hTS
          by_cases hlt : Nv < n1
          · have HR := hid (HYes.out (HTS.out.1 rfl) hlt)
            go_enter Tryd.func35, Tryd.ntmps35
            go_wp2_with (first | (go_at_call 39; have hcall := rdecimal_any T 1099511627776 (w.alloc (C7 5 b tx n hh p1 n1 c1 p2 n2 c2)) (by have := HSz.out; unfold maxLen; omega) (by omega) (by omega); rw [HNv.out, HEv.out] at hcall; (with_reducible refine hcall.mono ?_); clear hcall; rintro e w1 ⟨rfl, rfl⟩) | (go_at_call 40; have hcall := rtext_any Nv (w.alloc (C7 5 b tx n hh p1 n1 c1 p2 n2 c2)) (by omega) (by omega); rw [HIt.out] at hcall; (with_reducible refine hcall.mono ?_); clear hcall; rintro e w2 ⟨rfl, hb⟩; have HB2 := hid (below_out HB0.out hb); have hbx := (hb.block w.heap.size (lt_of_heap HX0.out)).trans HX0.out; obtain ⟨bx0, bx1, bx2, bx3, bx4, bx5, bx6, bxz⟩ := seven hbx; clear bxz; clear hb hbx))
            go_ret
            rw [HR.out]
            exact ⟨by show Ending.returned (.int .i64 Nv) = .returned (.int .i64 ((Nv.toNat : Nat) : Int)); rw [Int.toNat_of_nonneg hbd.1], HB2.out⟩
          · have HR := hid (HNo.out (fun q => hlt q.2.2))
            go_enter Tryd.func35, Tryd.ntmps35
            go_wp2_with (first | (go_at_call 39; have hcall := rdecimal_any T 1099511627776 (w.alloc (C7 5 b tx n hh p1 n1 c1 p2 n2 c2)) (by have := HSz.out; unfold maxLen; omega) (by omega) (by omega); rw [HNv.out, HEv.out] at hcall; (with_reducible refine hcall.mono ?_); clear hcall; rintro e w1 ⟨rfl, rfl⟩) | (go_at_call 40; have hcall := rtext_any Nv (w.alloc (C7 5 b tx n hh p1 n1 c1 p2 n2 c2)) (by omega) (by omega); rw [HIt.out] at hcall; (with_reducible refine hcall.mono ?_); clear hcall; rintro e w2 ⟨rfl, hb⟩; have HB2 := hid (below_out HB0.out hb); have hbx := (hb.block w.heap.size (lt_of_heap HX0.out)).trans HX0.out; obtain ⟨bx0, bx1, bx2, bx3, bx4, bx5, bx6, bxz⟩ := seven hbx; clear bxz; clear hb hbx))
            go_ret
            rw [HR.out]
            exact ⟨rfl, HB2.out⟩
        · have HR := hid (HNo.out (fun q => hTS (HTS.out.2 q.2.1)))
          have hne := ne_list hTS
          go_enter Tryd.func35, Tryd.ntmps35
          go_wp2_with (first | (go_at_call 39; have hcall := rdecimal_any S 1099511627776 (w.alloc (C7 5 b tx n hh p1 n1 c1 p2 n2 c2)) (by have := HSz.out; unfold maxLen; omega) (by omega) (by omega); rw [HNv.out, HEv.out] at hcall; (with_reducible refine hcall.mono ?_); clear hcall; rintro e w1 ⟨rfl, rfl⟩) | (go_at_call 40; have hcall := rtext_any Nv (w.alloc (C7 5 b tx n hh p1 n1 c1 p2 n2 c2)) (by omega) (by omega); rw [HIt.out] at hcall; (with_reducible refine hcall.mono ?_); clear hcall; rintro e w2 ⟨rfl, hb⟩; have HB2 := hid (below_out HB0.out hb); have hbx := (hb.block w.heap.size (lt_of_heap HX0.out)).trans HX0.out; obtain ⟨bx0, bx1, bx2, bx3, bx4, bx5, bx6, bxz⟩ := seven hbx; clear bxz; clear hb hbx))
          go_ret
          rw [HR.out]
          exact ⟨rfl, HB2.out⟩
      · have HR := hid (HNo.out (fun q => hE0 q.1))
        have hE1 : (Ev == 0) = false := by simpa using hE0
        go_enter Tryd.func35, Tryd.ntmps35
        go_wp2_with (go_at_call 39; have hcall := rdecimal_any S 1099511627776 (w.alloc (C7 5 b tx n hh p1 n1 c1 p2 n2 c2)) (by have := HSz.out; unfold maxLen; omega) (by omega) (by omega); rw [HNv.out, HEv.out] at hcall; (with_reducible refine hcall.mono ?_); clear hcall; rintro e w1 ⟨rfl, rfl⟩)
        go_ret
        rw [HR.out]
        exact ⟨rfl, HB0.out⟩
    · have q5 : (k == 5) = false := by simpa using h5
      have HR := hid (show placeN (.mk k b tx n hh ls ns) s = none from place_else h6 h5)
      obtain ⟨S, hS⟩ : ∃ S, str s = S := ⟨_, rfl⟩
      rw [hS]
      clear hf hs e1 e2 hS
      go_enter Tryd.func35, Tryd.ntmps35
      go_wp2
      go_ret
      rw [HR.out]
      exact ⟨rfl, HB0.out⟩
end Go.Proofs.YtiglabpemlogbaaDoor
