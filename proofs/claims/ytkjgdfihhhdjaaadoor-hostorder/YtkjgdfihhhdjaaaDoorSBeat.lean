/- Fits and Beats of the document. -/
import Derived.Test.YtkjgdfihhhdjaaaDoorSPub
namespace Go.Proofs.YtkjgdfihhhdjaaaDoor
open Go.RowKit

theorem patH_some {p : B} {x : List B} (h : patH p = some x) : (p = [] ∧ x = []) ∨ (p ≠ [] ∧ labsH true p = some x ∧ x ≠ []) := by
  by_cases e : p = []
  · subst e
    rw [patH_nil] at h
    injection h with h
    exact .inl ⟨rfl, h.symm⟩
  · rw [patH_ne e] at h
    exact .inr ⟨e, h, (labsH_some h).2.2.2.2⟩
theorem rfits_pat (p h : B) (x y : List B) (hp : patH p = some x) (hh : labsH false h = some y) (w : World) : Calls Tryd.prog 38 #[.string (str p), .string (str h)] w fun e w' => e = .returned (.bool (fitsS x y)) ∧ Below w.heap.size w w' := by
  rcases patH_some hp with ⟨e1, e2⟩ | ⟨e1, e2, e3⟩
  · subst e1 e2
    exact (rfits_nil h w).mono (by rintro e w' ⟨rfl, rfl⟩; exact ⟨rfl, Below.refl _ _⟩)
  · have hs : fitsS x y = fitsL x y := by unfold fitsS; rw [decide_eq_false e3, Bool.false_or]
    rw [hs]
    exact rfits_any p h x y e2 hh w
def aheadP (x y : List B) : Bool := aheadS x.reverse y.reverse
theorem rahead_pat (a b : B) (x y h : List B) (ha : patH a = some x) (hb : patH b = some y) (fa : fitsS x h = true) (fb : fitsS y h = true) (w : World) : Calls Tryd.prog 40 #[.string (str a), .string (str b)] w fun e w' => e = .returned (.bool (aheadP x y)) ∧ Below w.heap.size w w' := by
  rcases patH_some ha with ⟨e1, e2⟩ | ⟨e1, e2, e3⟩
  · subst e1 e2
    have hv : aheadP [] y = false := by
      show aheadS [] y.reverse = false
      unfold aheadS
      rw [if_pos (.inl rfl)]
      rfl
    rw [hv]
    exact (rahead_nil b w).mono (by rintro e w' ⟨rfl, rfl⟩; exact ⟨rfl, Below.refl _ _⟩)
  · rcases patH_some hb with ⟨e4, e5⟩ | ⟨e4, e5, e6⟩
    · subst e4 e5
      have hv : aheadP x [] = true := by
        show aheadS x.reverse [] = true
        unfold aheadS
        rw [if_pos (.inr rfl), decide_eq_true (show x.reverse ≠ [] from fun e => e3 (List.reverse_eq_nil_iff.1 e))]
        rfl
      rw [hv]
      exact (rahead_one a e1 w).mono (by rintro e w' ⟨rfl, rfl⟩; exact ⟨rfl, Below.refl _ _⟩)
    · have hv : aheadP x y = aheadR x y := by
        show aheadS x.reverse y.reverse = _
        unfold aheadS
        rw [if_neg (fun e => e.elim (fun e => e3 (List.reverse_eq_nil_iff.1 e)) (fun e => e6 (List.reverse_eq_nil_iff.1 e)))]
        rfl
      unfold fitsS at fa fb
      rw [decide_eq_false e3, Bool.false_or] at fa
      rw [decide_eq_false e6, Bool.false_or] at fb
      rw [hv]
      exact rahead_any a b x y e2 e5 ((fitsL_len fa).trans (fitsL_len fb).symm) w
theorem rFits_any (p h : B) (hp : p.length ≤ 9223372036854775807) (hh : h.length ≤ 9223372036854775807) (w : World) : Calls Tryd.prog 17 #[.string (str p), .string (str h)] w fun e w' => (e = .returned (match fitsAns p h with | none => .tuple #[.bool false, .int .i64 3] | some v => .tuple #[.bool v, .int .i64 0])) ∧ Below w.heap.size w w' := by
  have HL := hid (fun W : World => rlabels_any h false (by omega) W)
  have HC := hid (fun W : World => rcheck_any p hp W)
  have HF := hid (fun (x y : List B) (e1 : patH p = some x) (e2 : labsH false h = some y) (W : World) => rfits_pat p h x y e1 e2 W)
  unfold fitsAns
  obtain ⟨A, hA⟩ : ∃ A, str p = A := ⟨_, rfl⟩
  obtain ⟨C, hC⟩ : ∃ C, str h = C := ⟨_, rfl⟩
  rw [hA] at HC HF ⊢
  rw [hC] at HL HF ⊢
  clear hA hC
  unfold LabAns at HL
  cases hx : patH p with
  | none =>
    rw [hx] at HC
    rw [show (if (none : Option (List B)).isSome = true then (0 : Int) else 3) = 3 from rfl] at HC
    cases hy : labsH false h with
    | none =>
      rw [hy] at HL
      clear HF hx hy
      go_enter Tryd.func17, Tryd.ntmps17
      go_wp2_with (first | (go_at_call 31; (with_reducible refine (HL.out _).mono ?_); rintro e w1 ⟨hb, rfl⟩; have HB1 := hid hb; clear hb) | (go_at_call 14; (with_reducible refine (HC.out _).mono ?_); rintro e w2 ⟨rfl, hb2⟩; have HB2 := hid (below_out HB1.out hb2); clear hb2))
      go_ret2
      exact ⟨rfl, HB2.out⟩
    | some y =>
      rw [hy] at HL
      clear HF hx hy
      go_enter Tryd.func17, Tryd.ntmps17
      go_wp2_with (first | (go_at_call 31; (with_reducible refine (HL.out _).mono ?_); rintro e w1 ⟨hb, q, d, rfl, ho⟩; have HB1 := hid hb; clear hb ho) | (go_at_call 14; (with_reducible refine (HC.out _).mono ?_); rintro e w2 ⟨rfl, hb2⟩; have HB2 := hid (below_out HB1.out hb2); clear hb2))
      go_ret2
      exact ⟨rfl, HB2.out⟩
  | some x =>
    rw [hx] at HC
    rw [show (if (some x : Option (List B)).isSome = true then (0 : Int) else 3) = 0 from rfl] at HC
    cases hy : labsH false h with
    | none =>
      rw [hy] at HL
      clear HF hx hy
      go_enter Tryd.func17, Tryd.ntmps17
      go_wp2_with (first | (go_at_call 31; (with_reducible refine (HL.out _).mono ?_); rintro e w1 ⟨hb, rfl⟩; have HB1 := hid hb; clear hb) | (go_at_call 14; (with_reducible refine (HC.out _).mono ?_); rintro e w2 ⟨rfl, hb2⟩; have HB2 := hid (below_out HB1.out hb2); clear hb2))
      go_ret2
      exact ⟨rfl, HB2.out⟩
    | some y =>
      rw [hy] at HL
      have HF2 := hid (fun W : World => HF.out x y hx hy W)
      obtain ⟨v, hv⟩ : ∃ v, fitsS x y = v := ⟨_, rfl⟩
      rw [hv] at HF2
      show Calls _ _ _ _ fun e w' => (e = .returned (.tuple #[.bool (fitsS x y), .int .i64 0])) ∧ Below w.heap.size w w'
      rw [hv]
      clear HF hx hy hv
      go_enter Tryd.func17, Tryd.ntmps17
      go_wp2_with (first | (go_at_call 31; (with_reducible refine (HL.out _).mono ?_); rintro e w1 ⟨hb, q, d, rfl, ho⟩; have HB1 := hid hb; clear hb ho) | (go_at_call 14; (with_reducible refine (HC.out _).mono ?_); rintro e w2 ⟨rfl, hb2⟩; have HB2 := hid (below_out HB1.out hb2); clear hb2) | (go_at_call 38; (with_reducible refine (HF2.out _).mono ?_); rintro e w3 ⟨rfl, hb3⟩; have HB3 := hid (below_out HB2.out hb3); clear hb3))
      go_ret2
      exact ⟨rfl, HB3.out⟩
/-- What Beats answers. -/
def beatsV (a b h : B) : Value := match fitsAns a h, fitsAns b h with
  | some true, some true => match patH a, patH b with
    | some x, some y => .tuple #[.bool (aheadP x y), .int .i64 0]
    | _, _ => .tuple #[.bool false, .int .i64 0]
  | some _, some _ => .tuple #[.bool false, .int .i64 8]
  | _, _ => .tuple #[.bool false, .int .i64 3]
theorem fitsAns_some {p h : B} {v : Bool} (e : fitsAns p h = some v) : ∃ x y, patH p = some x ∧ labsH false h = some y ∧ fitsS x y = v := by
  unfold fitsAns at e
  split at e
  · rename_i x y e1 e2
    injection e with e
    exact ⟨x, y, e1, e2, e⟩
  · cases e
theorem rBeats_any (a b h : B) (ha : a.length ≤ 9223372036854775807) (hb : b.length ≤ 9223372036854775807) (hh : h.length ≤ 9223372036854775807) (w : World) : Calls Tryd.prog 19 #[.string (str a), .string (str b), .string (str h)] w fun e w' => (e = .returned (beatsV a b h)) ∧ Below w.heap.size w w' := by
  have HA := hid (fun W : World => rFits_any a h ha hh W)
  have HC := hid (fun W : World => rFits_any b h hb hh W)
  have HG := hid (fun (x y z : List B) (e1 : patH a = some x) (e2 : patH b = some y) (e3 : fitsS x z = true) (e4 : fitsS y z = true) (W : World) => rahead_pat a b x y z e1 e2 e3 e4 W)
  unfold beatsV
  obtain ⟨A, hA⟩ : ∃ A, str a = A := ⟨_, rfl⟩
  obtain ⟨C, hC⟩ : ∃ C, str b = C := ⟨_, rfl⟩
  obtain ⟨E, hE⟩ : ∃ E, str h = E := ⟨_, rfl⟩
  rw [hA] at HA HG ⊢
  rw [hC] at HC HG ⊢
  rw [hE] at HA HC ⊢
  clear hA hC hE
  cases hu : fitsAns a h with
  | none =>
    rw [hu] at HA
    cases hv : fitsAns b h with
    | none =>
      rw [hv] at HC
      clear HG hu hv
      go_enter Tryd.func19, Tryd.ntmps19
      go_wp2_with (go_at_call 17; first | ((with_reducible refine (HA.out _).mono ?_); rintro e w1 ⟨rfl, hb⟩; have HB1 := hid hb; clear hb HA) | ((with_reducible refine (HC.out _).mono ?_); rintro e w2 ⟨rfl, hb2⟩; have HB2 := hid (below_out HB1.out hb2); clear hb2 HC))
      go_ret2
      exact ⟨rfl, HB2.out⟩
    | some v =>
      rw [hv] at HC
      clear HG hu hv
      go_enter Tryd.func19, Tryd.ntmps19
      go_wp2_with (go_at_call 17; first | ((with_reducible refine (HA.out _).mono ?_); rintro e w1 ⟨rfl, hb⟩; have HB1 := hid hb; clear hb HA) | ((with_reducible refine (HC.out _).mono ?_); rintro e w2 ⟨rfl, hb2⟩; have HB2 := hid (below_out HB1.out hb2); clear hb2 HC))
      go_ret2
      exact ⟨rfl, HB2.out⟩
  | some u =>
    rw [hu] at HA
    cases hv : fitsAns b h with
    | none =>
      rw [hv] at HC
      clear HG hu hv
      go_enter Tryd.func19, Tryd.ntmps19
      go_wp2_with (go_at_call 17; first | ((with_reducible refine (HA.out _).mono ?_); rintro e w1 ⟨rfl, hb⟩; have HB1 := hid hb; clear hb HA) | ((with_reducible refine (HC.out _).mono ?_); rintro e w2 ⟨rfl, hb2⟩; have HB2 := hid (below_out HB1.out hb2); clear hb2 HC))
      go_ret2
      exact ⟨rfl, HB2.out⟩
    | some v =>
      rw [hv] at HC
      cases u with
      | false =>
        cases v with
        | false =>
          clear HG hu hv
          go_enter Tryd.func19, Tryd.ntmps19
          go_wp2_with (go_at_call 17; first | ((with_reducible refine (HA.out _).mono ?_); rintro e w1 ⟨rfl, hb⟩; have HB1 := hid hb; clear hb HA) | ((with_reducible refine (HC.out _).mono ?_); rintro e w2 ⟨rfl, hb2⟩; have HB2 := hid (below_out HB1.out hb2); clear hb2 HC))
          go_ret2
          exact ⟨rfl, HB2.out⟩
        | true =>
          clear HG hu hv
          go_enter Tryd.func19, Tryd.ntmps19
          go_wp2_with (go_at_call 17; first | ((with_reducible refine (HA.out _).mono ?_); rintro e w1 ⟨rfl, hb⟩; have HB1 := hid hb; clear hb HA) | ((with_reducible refine (HC.out _).mono ?_); rintro e w2 ⟨rfl, hb2⟩; have HB2 := hid (below_out HB1.out hb2); clear hb2 HC))
          go_ret2
          exact ⟨rfl, HB2.out⟩
      | true =>
        cases v with
        | false =>
          clear HG hu hv
          go_enter Tryd.func19, Tryd.ntmps19
          go_wp2_with (go_at_call 17; first | ((with_reducible refine (HA.out _).mono ?_); rintro e w1 ⟨rfl, hb⟩; have HB1 := hid hb; clear hb HA) | ((with_reducible refine (HC.out _).mono ?_); rintro e w2 ⟨rfl, hb2⟩; have HB2 := hid (below_out HB1.out hb2); clear hb2 HC))
          go_ret2
          exact ⟨rfl, HB2.out⟩
        | true =>
          obtain ⟨x, z, e1, e2, e3⟩ := fitsAns_some hu
          obtain ⟨y, z2, e4, e5, e6⟩ := fitsAns_some hv
          rw [e2] at e5
          injection e5 with e5
          subst e5
          have HG2 := hid (fun W : World => HG.out x y z e1 e4 e3 e6 W)
          rw [e1, e4]
          show Calls _ _ _ _ fun e w' => (e = .returned (.tuple #[.bool (aheadP x y), .int .i64 0])) ∧ Below w.heap.size w w'
          obtain ⟨V, hV⟩ : ∃ V, aheadP x y = V := ⟨_, rfl⟩
          rw [hV] at HG2 ⊢
          clear HG hu hv e1 e2 e3 e4 e6 hV
          go_enter Tryd.func19, Tryd.ntmps19
          go_wp2_with (first | (go_at_call 17; first | ((with_reducible refine (HA.out _).mono ?_); rintro e w1 ⟨rfl, hb⟩; have HB1 := hid hb; clear hb HA) | ((with_reducible refine (HC.out _).mono ?_); rintro e w2 ⟨rfl, hb2⟩; have HB2 := hid (below_out HB1.out hb2); clear hb2 HC)) | (go_at_call 40; (with_reducible refine (HG2.out _).mono ?_); rintro e w3 ⟨rfl, hb3⟩; have HB3 := hid (below_out HB2.out hb3); clear hb3))
          go_ret2
          exact ⟨rfl, HB3.out⟩
end Go.Proofs.YtkjgdfihhhdjaaaDoor
