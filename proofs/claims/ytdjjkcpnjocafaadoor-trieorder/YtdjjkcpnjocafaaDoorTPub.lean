/- Check, Fits, Beats, by the program. -/
import Derived.Test.YtdjjkcpnjocafaaDoorTFit
namespace Go.Proofs.YtdjjkcpnjocafaaDoor
open Go.RowKit

abbrev err3 : Value := .iface 71 (.int .i64 3)
theorem check_beg_of {p : B} (h : checkP p = true) : begB 47 p = true := by
  cases hb : begB 47 p with
  | true => rfl
  | false => rw [check_beg hb] at h; cases h
theorem check_parts {p : B} (h : checkP p = true) : ∃ t, p = 47 :: t ∧ (cutT t).length ≤ 64 ∧ p.length ≤ 256 ∧ restLast (cutT t) = true := by
  obtain ⟨t, h1, h2, h3, _, h5⟩ := check_some h
  exact ⟨t, h1, h2, h3, h5⟩
/-- segments, where the pattern is one. -/
theorem seg_yes {p : B} (h : checkP p = true) (w : World) (hmx : MxAt w) : Calls Tryd.prog 26 #[.string (str p)] w fun e w' => Below w.heap.size w w' ∧ ∃ q n c, e = .returned (.tuple #[.slice q n c, .nilIface]) ∧ OwnG w' w.heap.size (.slice q n c) (cutT p.tail) ∧ (cutT p.tail).length = n := by
  obtain ⟨t, _, _, h3, _⟩ := check_parts h
  refine (segments_any p (by omega) w hmx).mono ?_
  rintro e w' ⟨hb, ⟨_, h1⟩ | ⟨h1, _⟩⟩
  · exact ⟨hb, h1⟩
  · rw [h] at h1; cases h1
theorem seg_no {p : B} (hp : p.length ≤ 140737488355328) (h : checkP p = false) (w : World) (hmx : MxAt w) : Calls Tryd.prog 26 #[.string (str p)] w fun e w' => e = .returned (.tuple #[.slice none 0 0, err3]) ∧ Below w.heap.size w w' := by
  refine (segments_any p hp w hmx).mono ?_
  rintro e w' ⟨hb, ⟨h1, _⟩ | ⟨_, h1⟩⟩
  · rw [h] at h1; cases h1
  · exact ⟨h1, hb⟩
set_option maxRecDepth 20000 in
set_option maxHeartbeats 4000000 in
theorem check_any (p : B) (hp : p.length ≤ 140737488355328) (w : World) (hmx : MxAt w) : Calls Tryd.prog 11 #[.string (str p)] w fun e w' => e = .returned (if checkP p then .nilIface else err3) ∧ Below w.heap.size w w' := by
  cases hc : checkP p with
  | true =>
    have H := hid (seg_yes hc w hmx)
    rw [if_pos rfl]
    obtain ⟨S, hS⟩ : ∃ S, str p = S := ⟨_, rfl⟩
    rw [hS] at H ⊢
    clear hS hc hp hmx
    go_enter Tryd.func11, Tryd.ntmps11
    go_wp2_with (go_at_call 26; (with_reducible refine H.out.mono ?_); rintro e w1 ⟨hb1, q1, n1, c1, rfl, _, _⟩)
    go_ret
    exact ⟨rfl, by assumption⟩
  | false =>
    have H := hid (seg_no hp hc w hmx)
    rw [if_neg (by decide)]
    obtain ⟨S, hS⟩ : ∃ S, str p = S := ⟨_, rfl⟩
    rw [hS] at H ⊢
    clear hS hc hp hmx
    go_enter Tryd.func11, Tryd.ntmps11
    go_wp2_with (go_at_call 26; (with_reducible refine H.out.mono ?_); rintro e w1 ⟨rfl, hb1⟩)
    go_ret
    exact ⟨rfl, by assumption⟩
set_option maxRecDepth 20000 in
set_option maxHeartbeats 8000000 in
theorem better_any (pa pb : B) (ha : checkP pa = true) (hb : checkP pb = true) (w : World) (hmx : MxAt w) : Calls Tryd.prog 39 #[.string (str pa), .string (str pb)] w fun e w' => e = .returned (.bool (betterT (cutT pa.tail) (cutT pb.tail))) ∧ Below w.heap.size w w' := by
  have HSa := hid (fun (W : World) (h : MxAt W) => seg_yes ha W h)
  have HSb := hid (fun (W : World) (h : MxAt W) => seg_yes hb W h)
  have HMx := hid hmx
  have hla : (cutT pa.tail).length ≤ 64 := by obtain ⟨t, rfl, h, _⟩ := check_parts ha; exact h
  have hlb : (cutT pb.tail).length ≤ 64 := by obtain ⟨t, rfl, h, _⟩ := check_parts hb; exact h
  obtain ⟨x, hx⟩ : ∃ x, cutT pa.tail = x := ⟨_, rfl⟩
  obtain ⟨y, hy⟩ : ∃ y, cutT pb.tail = y := ⟨_, rfl⟩
  rw [hx] at HSa hla ⊢
  rw [hy] at HSb hlb ⊢
  obtain ⟨A, hA⟩ : ∃ A, str pa = A := ⟨_, rfl⟩
  obtain ⟨C, hC⟩ : ∃ C, str pb = C := ⟨_, rfl⟩
  rw [hA] at HSa ⊢
  rw [hC] at HSb ⊢
  clear hx hy hA hC ha hb hmx
  go_enter Tryd.func39, Tryd.ntmps39
  go_wp2_with (go_at_call 26; first | ((with_reducible refine (HSa.out _ HMx.out).mono ?_); rintro e w1 ⟨hb1, p1, n, c1, rfl, ho, hn⟩; have HN := hid hn; have HT1 := hid ho.sg; have HB1 := hid hb1; rw [hn] at hla; have HM1 := hid (HMx.out.next hb1); clear ho hb1 hn HSa) | ((with_reducible refine (HSb.out _ HM1.out).mono ?_); rintro e w2 ⟨hb2, p2, m, c2, rfl, ho, hm⟩; have HM := hid hm; have HT2 := hid ho.sg; have HT3 := hid (HT1.out.next hb2); have HB2 := hid (below_out HB1.out hb2); rw [hm] at hlb; clear ho hb2 hm HSb HT1 HB1))
  obtain ⟨k, hk⟩ : ∃ k, min n m = k := ⟨_, rfl⟩
  have hkn : k ≤ n := by omega
  have hkm : k ≤ m := by omega
  have hk' : k = n ∨ k = m := by omega
  have hkI : min (n : Int) (m : Int) = (k : Int) := by omega
  try rw [hkI]
  clear hk hkI
  go_loopg [25] (k + 1) (fun gk s25 wr => ∃ i : Nat, i ≤ k ∧ gk = k - i + 1 ∧ s25 = .int .i64 (i : Int) ∧ betterT x y = betterT (x.drop i) (y.drop i) ∧ Below w2.heap.size w2 wr)
  case atStart => exact ⟨0, by omega, rfl, rfl, rfl, Below.refl _ _⟩
  case round =>
    obtain ⟨i, hi, rfl, rfl, hE, hb⟩ := hrel
    have HE := hid hE
    have HB := hid hb
    clear hE hb
    by_cases hik : i < k
    · have h1 : i < x.length := by rw [HN.out]; omega
      have h2 : i < y.length := by rw [HM.out]; omega
      have hin : i < n := by omega
      have him : i < m := by omega
      obtain ⟨a, ha⟩ : ∃ a, x[i]? = some a := ⟨_, List.getElem?_eq_getElem h1⟩
      obtain ⟨b, hb⟩ : ∃ b, y[i]? = some b := ⟨_, List.getElem?_eq_getElem h2⟩
      obtain ⟨g1, o1, rfl, q1, q1'⟩ := (HT3.out.next HB.out) i a ha
      obtain ⟨g2, o2, rfl, q2, q2'⟩ := (HT2.out.next HB.out) i b hb
      have HSt := hid (better_step ha hb)
      obtain ⟨Ka, hKa⟩ : ∃ K, kindT a = K := ⟨_, rfl⟩
      obtain ⟨Kb, hKb⟩ : ∃ K, kindT b = K := ⟨_, rfl⟩
      have hka2 := kindT_le a
      have hkb2 := kindT_le b
      rw [hKa] at HSt hka2 q1
      rw [hKb] at HSt hkb2 q2
      clear h1 h2 ha hb hKa hKb q1' q2'
      by_cases hk : Ka = Kb
      · subst hk
        rw [if_pos rfl] at HSt
        go_wp2
        go_quiet (fail)
        go_wp2
        go_roundg (k - (i + 1) + 1)
        case measure => omega
        case rel => exact ⟨i + 1, by omega, rfl, by push_cast; go_num, HE.out.trans HSt.out, HB.out.trans ((below_drewT _ _).mono HB.out.size)⟩
      · have hk1 : ¬ (Ka : Int) = (Kb : Int) := by omega
        have hk2 : ((Ka : Int) == (Kb : Int)) = false := by simp; omega
        have hk3 : ((Ka : Int) != (Kb : Int)) = true := by simp; omega
        rw [if_neg hk] at HSt
        go_wp2
        go_quiet (fail)
        go_wp2
        obtain ⟨w5, hw5⟩ : ∃ w5, wr.drewN nq = w5 := ⟨_, rfl⟩
        have q3 : w5.cell? ⟨g1, o1 + i * 2, none⟩ = some (.int .i64 (Ka : Int)) := by rw [← hw5]; exact q1
        have q4 : w5.cell? ⟨g2, o2 + i * 2, none⟩ = some (.int .i64 (Kb : Int)) := by rw [← hw5]; exact q2
        have HB5 := hid (show Below w2.heap.size w2 w5 from by rw [← hw5]; exact HB.out.trans ((below_drewT _ _).mono HB.out.size))
        rw [hw5]
        clear hw5 q1 q2 HB
        go_quiet (fail)
        go_wp2
        go_ret
        refine ⟨?_, below_out HB2.out (HB5.out.trans ((below_drewT _ _).mono HB5.out.size))⟩
        rw [HE.out, HSt.out]
        simp
    · obtain rfl : k = i := by omega
      have HV := hid (show betterT (x.drop k) (y.drop k) = false from by
        rcases hk' with h | h
        · rw [List.drop_of_length_le (l := x) (by rw [HN.out, h]; exact Nat.le_refl _)]
          rfl
        · rw [List.drop_of_length_le (l := y) (by rw [HM.out, h]; exact Nat.le_refl _)]
          cases x.drop k <;> rfl)
      go_wp2
      go_ret
      exact ⟨by rw [HE.out, HV.out]; rfl, below_out HB2.out HB.out⟩
/-- Whether a pattern fits a path; none: one of both is none. -/
def fitsO (a path : B) : Option (Option (List (B × B))) := if checkP a && begB 47 path then some (fitsT (cutT a.tail) (cutT path.tail)) else none
def FitsAns (o : Option (Option (List (B × B)))) (w : World) (e : Ending) (w' : World) : Prop := Below w.heap.size w w' ∧ match o with
  | none => e = .returned (.tuple #[.bool false, .slice none 0 0, err3])
  | some none => e = .returned (.tuple #[.bool false, .slice none 0 0, .nilIface])
  | some (some F) => ∃ q d, e = .returned (.tuple #[.bool true, .slice q F.length d, .nilIface]) ∧ OwnF w' w.heap.size (.slice q F.length d) F
theorem fitL_cut {p t : B} (h : checkP p = true) : fitL (cutT p.tail) t true = fitsT (cutT p.tail) (cutT t) := by
  obtain ⟨t', rfl, _, _, h5⟩ := check_parts h
  have := fitL_same (cutT t') t true h5
  rwa [if_pos rfl] at this
/-- fit, where the pattern is one. -/
theorem fit_yes {p : B} (h : checkP p = true) {q : Option Addr} {n c : Nat} (hn : (cutT p.tail).length = n) (t : B) (ht : t.length ≤ 140737488355328) (w : World) (hmx : MxAt w) (hG : SgAt w q (cutT p.tail)) :
    Calls Tryd.prog 36 #[.slice q n c, .string (str (47 :: t))] w fun e w' => FitP (fitsT (cutT p.tail) (cutT t)) w e w' := by
  rw [← fitL_cut h]
  obtain ⟨t', e1, h2, h3, h5⟩ := check_parts h
  refine fit_any _ q n c hn (by rw [← hn, e1]; exact h2) (fun x hx => ?_) t ht w hmx hG
  have := cutT_mem_len hx
  rw [e1] at this h3
  simp at this h3
  omega
set_option maxRecDepth 20000 in
set_option maxHeartbeats 8000000 in
theorem fits_any (pa path : B) (ha : pa.length ≤ 140737488355328) (hp : path.length ≤ 140737488355328) (w : World) (hmx : MxAt w) : Calls Tryd.prog 20 #[.string (str pa), .string (str path)] w fun e w' => FitsAns (fitsO pa path) w e w' := by
  have HBg := hid (fun W : World => begins_any path (by omega) W)
  cases hc : checkP pa with
  | false =>
    have e1 : fitsO pa path = none := by unfold fitsO; rw [hc]; rfl
    have H := hid (seg_no ha hc w hmx)
    rw [e1]
    obtain ⟨S, hS⟩ : ∃ S, str pa = S := ⟨_, rfl⟩
    obtain ⟨Y, hY⟩ : ∃ S, str path = S := ⟨_, rfl⟩
    rw [hS] at H ⊢
    rw [hY]
    clear hS hY hc ha hp hmx HBg e1
    go_enter Tryd.func20, Tryd.ntmps20
    go_wp2_with (go_at_call 26; (with_reducible refine H.out.mono ?_); rintro e w1 ⟨rfl, hb1⟩; have HB1 := hid hb1; clear hb1)
    go_ret3
    exact ⟨HB1.out, rfl⟩
  | true =>
    have H := hid (seg_yes hc w hmx)
    cases hb : begB 47 path with
    | false =>
      have e1 : fitsO pa path = none := by unfold fitsO; rw [hc, hb]; rfl
      rw [hb] at HBg
      rw [e1]
      obtain ⟨S, hS⟩ : ∃ S, str pa = S := ⟨_, rfl⟩
      obtain ⟨Y, hY⟩ : ∃ S, str path = S := ⟨_, rfl⟩
      rw [hS] at H ⊢
      rw [hY] at HBg ⊢
      clear hS hY hc ha hp hmx hb e1
      go_enter Tryd.func20, Tryd.ntmps20
      go_wp2_with (first | (go_at_call 26; (with_reducible refine H.out.mono ?_); rintro e w1 ⟨hb1, q1, n1, c1, rfl, _, _⟩; have HB1 := hid hb1; clear hb1) | (go_at_call 34; (with_reducible refine (HBg.out _).mono ?_); rintro e w5 ⟨rfl, hw5⟩; subst w5))
      go_ret3
      exact ⟨HB1.out, rfl⟩
    | true =>
      obtain ⟨t, rfl⟩ := beg_cons hb
      have e1 : fitsO pa (47 :: t) = some (fitsT (cutT pa.tail) (cutT t)) := by unfold fitsO; rw [hc, hb]; rfl
      have HF := hid (fun (q : Option Addr) (n c : Nat) (hn : (cutT pa.tail).length = n) (W : World) (h1 : MxAt W) (h2 : SgAt W q (cutT pa.tail)) => fit_yes (c := c) hc hn t (by simp at hp; omega) W h1 h2)
      have HMx := hid hmx
      rw [hb] at HBg
      rw [e1]
      obtain ⟨S, hS⟩ : ∃ S, str pa = S := ⟨_, rfl⟩
      obtain ⟨Y, hY⟩ : ∃ S, str (47 :: t) = S := ⟨_, rfl⟩
      rw [hS] at H ⊢
      rw [hY] at HBg HF ⊢
      clear hS hY hc ha hp hmx hb e1
      cases ho : fitsT (cutT pa.tail) (cutT t) with
      | none =>
        rw [ho] at HF
        clear ho
        go_enter Tryd.func20, Tryd.ntmps20
        go_wp2_with (first | (go_at_call 26; (with_reducible refine H.out.mono ?_); rintro e w1 ⟨hb1, q1, n1, c1, rfl, ho, hn⟩; have HN := hid hn; have HG := hid ho.sg; have HB1 := hid hb1; have HM1 := hid (HMx.out.next hb1); clear hb1 ho hn) | (go_at_call 34; (with_reducible refine (HBg.out _).mono ?_); rintro e w5 ⟨rfl, hw5⟩; subst w5) | (go_at_call 36; (with_reducible refine (HF.out _ _ _ HN.out _ HM1.out HG.out).mono ?_); rintro e w2 ⟨rfl, hb2⟩; have HB2 := hid (below_out HB1.out hb2); clear hb2))
        go_ret3
        exact ⟨HB2.out, rfl⟩
      | some F =>
        rw [ho] at HF
        obtain ⟨L, hL⟩ : ∃ L, F.length = L := ⟨_, rfl⟩
        have HF2 := hid (fun (q : Option Addr) (n c : Nat) (hn : (cutT pa.tail).length = n) (W : World) (h1 : MxAt W) (h2 : SgAt W q (cutT pa.tail)) => (HF.out q n c hn W h1 h2).mono (R' := fun e w' => ∃ q d, e = .returned (.tuple #[.slice q L d, .bool true]) ∧ OwnF w' W.heap.size (.slice q L d) F ∧ Below W.heap.size W w') (by rintro e w' ⟨q, d, h3, h4⟩; rw [hL] at h3 h4; exact ⟨q, d, h3, h4⟩))
        have HL := hid hL
        clear ho hL HF
        go_enter Tryd.func20, Tryd.ntmps20
        go_wp2_with (first | (go_at_call 26; (with_reducible refine H.out.mono ?_); rintro e w1 ⟨hb1, q1, n1, c1, rfl, ho, hn⟩; have HN := hid hn; have HG := hid ho.sg; have HB1 := hid hb1; have HM1 := hid (HMx.out.next hb1); clear hb1 ho hn) | (go_at_call 34; (with_reducible refine (HBg.out _).mono ?_); rintro e w5 ⟨rfl, hw5⟩; subst w5) | (go_at_call 36; (with_reducible refine (HF2.out _ _ _ HN.out _ HM1.out HG.out).mono ?_); rintro e w2 ⟨q2, d2, rfl, ho2, hb2⟩; have HO2 := hid (ho2.lowT HB1.out.size); have HB2 := hid (below_out HB1.out hb2); clear hb2 ho2))
        go_ret3
        exact ⟨HB2.out, q2, d2, by rw [HL.out]; rfl, by rw [HL.out]; exact HO2.out⟩
/-- Whether of two patterns the first is better, and the error. -/
def beatsO (a b path : B) : Bool × Nat := match fitsO a path, fitsO b path with
  | none, _ => (false, 3)
  | some _, none => (false, 3)
  | some (some _), some (some _) => (betterT (cutT a.tail) (cutT b.tail), 0)
  | _, _ => (false, 8)
end Go.Proofs.YtdjjkcpnjocafaaDoor
