/- The law HostStrict, walked. -/
import Derived.Test.YtkjgdfihhhdjaaaDoorSLTx
import Derived.Test.YtkjgdfihhhdjaaaDoorCSame
namespace Go.Proofs.YtkjgdfihhhdjaaaDoor
open Go.RowKit Go.Maps

theorem same_low (a b : B) : sameB (str a) (str b) = decide (lowH a = lowH b) := by
  unfold sameB
  rw [Bool.eq_iff_iff, decide_eq_true_eq, decide_eq_true_eq, lowS_strH, lowS_strH]
  exact ⟨str_inj, fun e => by rw [e]⟩
theorem fitsN_true {p h : B} (e : (fitsN p h).1 = true) : ∃ x y, patH p = some x ∧ labsH false h = some y ∧ fitsS x y = true := by
  unfold fitsN at e
  cases hf : fitsAns p h with
  | none => rw [hf] at e; cases e
  | some v =>
    rw [hf] at e
    obtain ⟨x, y, h1, h2, h3⟩ := fitsAns_some hf
    exact ⟨x, y, h1, h2, h3.trans e⟩
theorem low_pat {a b : B} {x z : List B} (ha : patH a = some x) (hb : patH b = some z) : lowH a = lowH b ↔ x = z := by
  constructor
  · intro e
    have h1 := pat_low a
    have h2 := pat_low b
    rw [e, h2, ha, hb] at h1
    exact (Option.some.inj h1).symm
  · intro e
    subst e
    exact pat_inj ha hb
theorem strict_facts (a b c h : B) : ((fitsN a h).1 = true → (fitsN b h).1 = true → sameB (str a) (str b) = true → (beatsN a b h).1 = false ∧ (beatsN b a h).1 = false) ∧
    ((fitsN a h).1 = true → (fitsN b h).1 = true → sameB (str a) (str b) = false → (beatsN b a h).1 = !(beatsN a b h).1) ∧
    ((fitsN a h).1 = true → (fitsN b h).1 = true → (fitsN c h).1 = true → (beatsN a b h).1 = true → (beatsN b c h).1 = true → (beatsN a c h).1 = true) := by
  refine ⟨fun h1 h2 hs => ?_, fun h1 h2 hs => ?_, fun h1 h2 h3 hab hbc => ?_⟩
  · obtain ⟨x, y, hx, hy, fx⟩ := fitsN_true h1
    obtain ⟨z, y', hz, hy', fz⟩ := fitsN_true h2
    obtain rfl : y = y' := by rw [hy] at hy'; exact Option.some.inj hy'
    rw [same_low, decide_eq_true_eq, low_pat hx hz] at hs
    subst hs
    rw [beatsN_ok hx hz hy fx fz, beatsN_ok hz hx hy fz fx]
    exact ⟨aheadP_irrefl x, aheadP_irrefl x⟩
  · obtain ⟨x, y, hx, hy, fx⟩ := fitsN_true h1
    obtain ⟨z, y', hz, hy', fz⟩ := fitsN_true h2
    obtain rfl : y = y' := by rw [hy] at hy'; exact Option.some.inj hy'
    rw [same_low, decide_eq_false_iff_not, low_pat hx hz] at hs
    rw [beatsN_ok hx hz hy fx fz, beatsN_ok hz hx hy fz fx]
    show aheadP z x = !aheadP x z
    rcases aheadP_total x z y fx fz with e | e | e
    · exact absurd e hs
    · rw [e, aheadP_asymm e]; rfl
    · rw [e, aheadP_asymm e]; rfl
  · obtain ⟨x, y, hx, hy, fx⟩ := fitsN_true h1
    obtain ⟨z, y', hz, hy', fz⟩ := fitsN_true h2
    obtain rfl : y = y' := by rw [hy] at hy'; exact Option.some.inj hy'
    obtain ⟨u, y'', hu, hy'', fu⟩ := fitsN_true h3
    obtain rfl : y = y'' := by rw [hy] at hy''; exact Option.some.inj hy''
    rw [beatsN_ok hx hz hy fx fz] at hab
    rw [beatsN_ok hz hu hy fz fu] at hbc
    rw [beatsN_ok hx hu hy fx fu]
    exact aheadP_trans hab hbc
set_option maxRecDepth 20000 in
set_option maxHeartbeats 8000000 in
theorem strict_any (a b c h : B) (ha : a.length ≤ 9223372036854775807) (hb : b.length ≤ 9223372036854775807) (hc : c.length ≤ 9223372036854775807) (hh : h.length ≤ 9223372036854775807) (w : World) (hmx : MxAt w) : Calls Tryd.prog 28 #[.string (str a), .string (str b), .string (str c), .string (str h)] w fun e w' => e = .returned (.bool true) ∧ Below w.heap.size w w' := by
  obtain ⟨f1, f2, f3⟩ := strict_facts a b c h
  have HFa := hid (fun (W : World) (h9 : MxAt W) => pfitsN a h (by omega) (by omega) W h9)
  have HFb := hid (fun (W : World) (h9 : MxAt W) => pfitsN b h (by omega) (by omega) W h9)
  have HFc := hid (fun (W : World) (h9 : MxAt W) => pfitsN c h (by omega) (by omega) W h9)
  have Hab := hid (fun (W : World) (h9 : MxAt W) => pBeats_any a b h (by omega) (by omega) (by omega) W h9)
  have Hba := hid (fun (W : World) (h9 : MxAt W) => pBeats_any b a h (by omega) (by omega) (by omega) W h9)
  have Hbc := hid (fun (W : World) (h9 : MxAt W) => pBeats_any b c h (by omega) (by omega) (by omega) W h9)
  have Hac := hid (fun (W : World) (h9 : MxAt W) => pBeats_any a c h (by omega) (by omega) (by omega) W h9)
  have HSm := hid (fun (W : World) (h1 : (fitsN a h).1 = true) (h2 : (fitsN b h).1 = true) => rsame_any (str a) (str b) W (by obtain ⟨_, _, h3, _⟩ := fitsN_true h1; have := pat_short h3; rw [str_size]; omega) (by obtain ⟨_, _, h3, _⟩ := fitsN_true h2; have := pat_short h3; rw [str_size]; omega))
  have HM := hid hmx
  obtain ⟨x, hx⟩ : ∃ x, (fitsN a h).1 = x := ⟨_, rfl⟩
  obtain ⟨y, hy⟩ : ∃ x, (fitsN b h).1 = x := ⟨_, rfl⟩
  obtain ⟨z, hz⟩ : ∃ x, (fitsN c h).1 = x := ⟨_, rfl⟩
  obtain ⟨ab, hab⟩ : ∃ x, (beatsN a b h).1 = x := ⟨_, rfl⟩
  obtain ⟨ba, hba⟩ : ∃ x, (beatsN b a h).1 = x := ⟨_, rfl⟩
  obtain ⟨bc, hbc⟩ : ∃ x, (beatsN b c h).1 = x := ⟨_, rfl⟩
  obtain ⟨ac, hac⟩ : ∃ x, (beatsN a c h).1 = x := ⟨_, rfl⟩
  obtain ⟨sm, hsm⟩ : ∃ x, sameB (str a) (str b) = x := ⟨_, rfl⟩
  obtain ⟨Ea, hEa⟩ : ∃ E, errOf (fitsN a h).2 = E := ⟨_, rfl⟩
  obtain ⟨Eb, hEb⟩ : ∃ E, errOf (fitsN b h).2 = E := ⟨_, rfl⟩
  obtain ⟨Ec, hEc⟩ : ∃ E, errOf (fitsN c h).2 = E := ⟨_, rfl⟩
  obtain ⟨E1, hE1⟩ : ∃ E, errOf (beatsN a b h).2 = E := ⟨_, rfl⟩
  obtain ⟨E2, hE2⟩ : ∃ E, errOf (beatsN b a h).2 = E := ⟨_, rfl⟩
  obtain ⟨E3, hE3⟩ : ∃ E, errOf (beatsN b c h).2 = E := ⟨_, rfl⟩
  obtain ⟨E4, hE4⟩ : ∃ E, errOf (beatsN a c h).2 = E := ⟨_, rfl⟩
  rw [hx, hy] at f1 f2 f3
  rw [hz] at f3
  rw [hab] at f1 f2 f3
  rw [hba] at f1 f2
  rw [hbc, hac] at f3
  rw [hsm] at f1 f2 HSm
  rw [hx, hy] at HSm
  rw [hx, hEa] at HFa
  rw [hy, hEb] at HFb
  rw [hz, hEc] at HFc
  rw [hab, hE1] at Hab
  rw [hba, hE2] at Hba
  rw [hbc, hE3] at Hbc
  rw [hac, hE4] at Hac
  obtain ⟨SA, hSA⟩ : ∃ S, str a = S := ⟨_, rfl⟩
  obtain ⟨SB, hSB⟩ : ∃ S, str b = S := ⟨_, rfl⟩
  obtain ⟨SC, hSC⟩ : ∃ S, str c = S := ⟨_, rfl⟩
  obtain ⟨SH, hSH⟩ : ∃ S, str h = S := ⟨_, rfl⟩
  rw [hSA, hSH] at HFa
  rw [hSB, hSH] at HFb
  rw [hSC, hSH] at HFc
  rw [hSA, hSB, hSH] at Hab Hba
  rw [hSB, hSC, hSH] at Hbc
  rw [hSA, hSC, hSH] at Hac
  rw [hSA, hSB] at HSm
  rw [hSA, hSB, hSC, hSH]
  clear hx hy hz hab hba hbc hac hsm hEa hEb hEc hE1 hE2 hE3 hE4 hSA hSB hSC hSH hmx ha hb hc hh
  cases x with
  | false =>
    clear f1 f2 f3
    go_enter Tryd.func28, Tryd.ntmps28
    go_wp2_with (first | (go_at_call 16; first | ((with_reducible refine (HFa.out _ HM.out).mono ?_); rintro e w1 ⟨rfl, hb⟩; have HB1 := hid hb; clear hb HFa) | ((with_reducible refine (HFb.out _ (HM.out.next HB1.out)).mono ?_); rintro e w2 ⟨rfl, hb⟩; have HB2 := hid (below_out HB1.out hb); clear hb HFb HB1) | ((with_reducible refine (HFc.out _ (HM.out.next HB2.out)).mono ?_); rintro e w3 ⟨rfl, hb⟩; have HB3 := hid (below_out HB2.out hb); clear hb HFc HB2)) | (go_at_call 18; first | ((with_reducible refine (Hab.out _ (HM.out.next HB3.out)).mono ?_); rintro e w4 ⟨rfl, hb⟩; have HB4 := hid (below_out HB3.out hb); clear hb Hab) | ((with_reducible refine (Hba.out _ (HM.out.next HB4.out)).mono ?_); rintro e w5 ⟨rfl, hb⟩; have HB5 := hid (below_out HB4.out hb); clear hb Hba) | ((with_reducible refine (Hbc.out _ (HM.out.next HB6.out)).mono ?_); rintro e w7 ⟨rfl, hb⟩; have HB7 := hid (below_out HB6.out hb); clear hb Hbc) | ((with_reducible refine (Hac.out _ (HM.out.next HB7.out)).mono ?_); rintro e w8 ⟨rfl, hb⟩; have HB8 := hid (below_out HB7.out hb); clear hb Hac)) | (go_at_call 27; (with_reducible refine (HSm.out _).mono ?_); rintro e w6 ⟨rfl, hb⟩; have HB6 := hid (below_out HB5.out hb); clear hb HSm))
    go_ret
    exact ⟨rfl, HB3.out⟩
  | true =>
    cases y with
    | false =>
      clear f1 f2 f3
      go_enter Tryd.func28, Tryd.ntmps28
      go_wp2_with (first | (go_at_call 16; first | ((with_reducible refine (HFa.out _ HM.out).mono ?_); rintro e w1 ⟨rfl, hb⟩; have HB1 := hid hb; clear hb HFa) | ((with_reducible refine (HFb.out _ (HM.out.next HB1.out)).mono ?_); rintro e w2 ⟨rfl, hb⟩; have HB2 := hid (below_out HB1.out hb); clear hb HFb HB1) | ((with_reducible refine (HFc.out _ (HM.out.next HB2.out)).mono ?_); rintro e w3 ⟨rfl, hb⟩; have HB3 := hid (below_out HB2.out hb); clear hb HFc HB2)) | (go_at_call 18; first | ((with_reducible refine (Hab.out _ (HM.out.next HB3.out)).mono ?_); rintro e w4 ⟨rfl, hb⟩; have HB4 := hid (below_out HB3.out hb); clear hb Hab) | ((with_reducible refine (Hba.out _ (HM.out.next HB4.out)).mono ?_); rintro e w5 ⟨rfl, hb⟩; have HB5 := hid (below_out HB4.out hb); clear hb Hba) | ((with_reducible refine (Hbc.out _ (HM.out.next HB6.out)).mono ?_); rintro e w7 ⟨rfl, hb⟩; have HB7 := hid (below_out HB6.out hb); clear hb Hbc) | ((with_reducible refine (Hac.out _ (HM.out.next HB7.out)).mono ?_); rintro e w8 ⟨rfl, hb⟩; have HB8 := hid (below_out HB7.out hb); clear hb Hac)) | (go_at_call 27; (with_reducible refine (HSm.out _).mono ?_); rintro e w6 ⟨rfl, hb⟩; have HB6 := hid (below_out HB5.out hb); clear hb HSm))
      go_ret
      exact ⟨rfl, HB3.out⟩
    | true =>
      replace HSm := hid (fun W : World => HSm.out W rfl rfl)
      cases sm with
      | true =>
        obtain ⟨rfl, rfl⟩ := f1 rfl rfl rfl
        clear f1 f2 f3
        cases z with
        | false =>
          go_enter Tryd.func28, Tryd.ntmps28
          go_wp2_with (first | (go_at_call 16; first | ((with_reducible refine (HFa.out _ HM.out).mono ?_); rintro e w1 ⟨rfl, hb⟩; have HB1 := hid hb; clear hb HFa) | ((with_reducible refine (HFb.out _ (HM.out.next HB1.out)).mono ?_); rintro e w2 ⟨rfl, hb⟩; have HB2 := hid (below_out HB1.out hb); clear hb HFb HB1) | ((with_reducible refine (HFc.out _ (HM.out.next HB2.out)).mono ?_); rintro e w3 ⟨rfl, hb⟩; have HB3 := hid (below_out HB2.out hb); clear hb HFc HB2)) | (go_at_call 18; first | ((with_reducible refine (Hab.out _ (HM.out.next HB3.out)).mono ?_); rintro e w4 ⟨rfl, hb⟩; have HB4 := hid (below_out HB3.out hb); clear hb Hab) | ((with_reducible refine (Hba.out _ (HM.out.next HB4.out)).mono ?_); rintro e w5 ⟨rfl, hb⟩; have HB5 := hid (below_out HB4.out hb); clear hb Hba) | ((with_reducible refine (Hbc.out _ (HM.out.next HB6.out)).mono ?_); rintro e w7 ⟨rfl, hb⟩; have HB7 := hid (below_out HB6.out hb); clear hb Hbc) | ((with_reducible refine (Hac.out _ (HM.out.next HB7.out)).mono ?_); rintro e w8 ⟨rfl, hb⟩; have HB8 := hid (below_out HB7.out hb); clear hb Hac)) | (go_at_call 27; (with_reducible refine (HSm.out _).mono ?_); rintro e w6 ⟨rfl, hb⟩; have HB6 := hid (below_out HB5.out hb); clear hb HSm))
          go_ret
          exact ⟨rfl, HB6.out⟩
        | true =>
          cases bc <;> cases ac <;> (
            go_enter Tryd.func28, Tryd.ntmps28
            go_wp2_with (first | (go_at_call 16; first | ((with_reducible refine (HFa.out _ HM.out).mono ?_); rintro e w1 ⟨rfl, hb⟩; have HB1 := hid hb; clear hb HFa) | ((with_reducible refine (HFb.out _ (HM.out.next HB1.out)).mono ?_); rintro e w2 ⟨rfl, hb⟩; have HB2 := hid (below_out HB1.out hb); clear hb HFb HB1) | ((with_reducible refine (HFc.out _ (HM.out.next HB2.out)).mono ?_); rintro e w3 ⟨rfl, hb⟩; have HB3 := hid (below_out HB2.out hb); clear hb HFc HB2)) | (go_at_call 18; first | ((with_reducible refine (Hab.out _ (HM.out.next HB3.out)).mono ?_); rintro e w4 ⟨rfl, hb⟩; have HB4 := hid (below_out HB3.out hb); clear hb Hab) | ((with_reducible refine (Hba.out _ (HM.out.next HB4.out)).mono ?_); rintro e w5 ⟨rfl, hb⟩; have HB5 := hid (below_out HB4.out hb); clear hb Hba) | ((with_reducible refine (Hbc.out _ (HM.out.next HB6.out)).mono ?_); rintro e w7 ⟨rfl, hb⟩; have HB7 := hid (below_out HB6.out hb); clear hb Hbc) | ((with_reducible refine (Hac.out _ (HM.out.next HB7.out)).mono ?_); rintro e w8 ⟨rfl, hb⟩; have HB8 := hid (below_out HB7.out hb); clear hb Hac)) | (go_at_call 27; (with_reducible refine (HSm.out _).mono ?_); rintro e w6 ⟨rfl, hb⟩; have HB6 := hid (below_out HB5.out hb); clear hb HSm))
            go_ret
            exact ⟨rfl, HB8.out⟩)
      | false =>
        replace f2 := f2 rfl rfl rfl
        clear f1
        cases ab with
        | true =>
          obtain rfl : ba = false := f2
          cases z with
          | false =>
            clear f3
            go_enter Tryd.func28, Tryd.ntmps28
            go_wp2_with (first | (go_at_call 16; first | ((with_reducible refine (HFa.out _ HM.out).mono ?_); rintro e w1 ⟨rfl, hb⟩; have HB1 := hid hb; clear hb HFa) | ((with_reducible refine (HFb.out _ (HM.out.next HB1.out)).mono ?_); rintro e w2 ⟨rfl, hb⟩; have HB2 := hid (below_out HB1.out hb); clear hb HFb HB1) | ((with_reducible refine (HFc.out _ (HM.out.next HB2.out)).mono ?_); rintro e w3 ⟨rfl, hb⟩; have HB3 := hid (below_out HB2.out hb); clear hb HFc HB2)) | (go_at_call 18; first | ((with_reducible refine (Hab.out _ (HM.out.next HB3.out)).mono ?_); rintro e w4 ⟨rfl, hb⟩; have HB4 := hid (below_out HB3.out hb); clear hb Hab) | ((with_reducible refine (Hba.out _ (HM.out.next HB4.out)).mono ?_); rintro e w5 ⟨rfl, hb⟩; have HB5 := hid (below_out HB4.out hb); clear hb Hba) | ((with_reducible refine (Hbc.out _ (HM.out.next HB6.out)).mono ?_); rintro e w7 ⟨rfl, hb⟩; have HB7 := hid (below_out HB6.out hb); clear hb Hbc) | ((with_reducible refine (Hac.out _ (HM.out.next HB7.out)).mono ?_); rintro e w8 ⟨rfl, hb⟩; have HB8 := hid (below_out HB7.out hb); clear hb Hac)) | (go_at_call 27; (with_reducible refine (HSm.out _).mono ?_); rintro e w6 ⟨rfl, hb⟩; have HB6 := hid (below_out HB5.out hb); clear hb HSm))
            go_ret
            exact ⟨rfl, HB6.out⟩
          | true =>
            replace f3 := f3 rfl rfl rfl rfl
            cases bc with
            | false =>
              clear f3
              go_enter Tryd.func28, Tryd.ntmps28
              go_wp2_with (first | (go_at_call 16; first | ((with_reducible refine (HFa.out _ HM.out).mono ?_); rintro e w1 ⟨rfl, hb⟩; have HB1 := hid hb; clear hb HFa) | ((with_reducible refine (HFb.out _ (HM.out.next HB1.out)).mono ?_); rintro e w2 ⟨rfl, hb⟩; have HB2 := hid (below_out HB1.out hb); clear hb HFb HB1) | ((with_reducible refine (HFc.out _ (HM.out.next HB2.out)).mono ?_); rintro e w3 ⟨rfl, hb⟩; have HB3 := hid (below_out HB2.out hb); clear hb HFc HB2)) | (go_at_call 18; first | ((with_reducible refine (Hab.out _ (HM.out.next HB3.out)).mono ?_); rintro e w4 ⟨rfl, hb⟩; have HB4 := hid (below_out HB3.out hb); clear hb Hab) | ((with_reducible refine (Hba.out _ (HM.out.next HB4.out)).mono ?_); rintro e w5 ⟨rfl, hb⟩; have HB5 := hid (below_out HB4.out hb); clear hb Hba) | ((with_reducible refine (Hbc.out _ (HM.out.next HB6.out)).mono ?_); rintro e w7 ⟨rfl, hb⟩; have HB7 := hid (below_out HB6.out hb); clear hb Hbc) | ((with_reducible refine (Hac.out _ (HM.out.next HB7.out)).mono ?_); rintro e w8 ⟨rfl, hb⟩; have HB8 := hid (below_out HB7.out hb); clear hb Hac)) | (go_at_call 27; (with_reducible refine (HSm.out _).mono ?_); rintro e w6 ⟨rfl, hb⟩; have HB6 := hid (below_out HB5.out hb); clear hb HSm))
              go_ret
              exact ⟨rfl, HB8.out⟩
            | true =>
              obtain rfl : ac = true := f3 rfl
              clear f3
              go_enter Tryd.func28, Tryd.ntmps28
              go_wp2_with (first | (go_at_call 16; first | ((with_reducible refine (HFa.out _ HM.out).mono ?_); rintro e w1 ⟨rfl, hb⟩; have HB1 := hid hb; clear hb HFa) | ((with_reducible refine (HFb.out _ (HM.out.next HB1.out)).mono ?_); rintro e w2 ⟨rfl, hb⟩; have HB2 := hid (below_out HB1.out hb); clear hb HFb HB1) | ((with_reducible refine (HFc.out _ (HM.out.next HB2.out)).mono ?_); rintro e w3 ⟨rfl, hb⟩; have HB3 := hid (below_out HB2.out hb); clear hb HFc HB2)) | (go_at_call 18; first | ((with_reducible refine (Hab.out _ (HM.out.next HB3.out)).mono ?_); rintro e w4 ⟨rfl, hb⟩; have HB4 := hid (below_out HB3.out hb); clear hb Hab) | ((with_reducible refine (Hba.out _ (HM.out.next HB4.out)).mono ?_); rintro e w5 ⟨rfl, hb⟩; have HB5 := hid (below_out HB4.out hb); clear hb Hba) | ((with_reducible refine (Hbc.out _ (HM.out.next HB6.out)).mono ?_); rintro e w7 ⟨rfl, hb⟩; have HB7 := hid (below_out HB6.out hb); clear hb Hbc) | ((with_reducible refine (Hac.out _ (HM.out.next HB7.out)).mono ?_); rintro e w8 ⟨rfl, hb⟩; have HB8 := hid (below_out HB7.out hb); clear hb Hac)) | (go_at_call 27; (with_reducible refine (HSm.out _).mono ?_); rintro e w6 ⟨rfl, hb⟩; have HB6 := hid (below_out HB5.out hb); clear hb HSm))
              go_ret
              exact ⟨rfl, HB8.out⟩
        | false =>
          obtain rfl : ba = true := f2
          clear f3
          cases z with
          | false =>
            go_enter Tryd.func28, Tryd.ntmps28
            go_wp2_with (first | (go_at_call 16; first | ((with_reducible refine (HFa.out _ HM.out).mono ?_); rintro e w1 ⟨rfl, hb⟩; have HB1 := hid hb; clear hb HFa) | ((with_reducible refine (HFb.out _ (HM.out.next HB1.out)).mono ?_); rintro e w2 ⟨rfl, hb⟩; have HB2 := hid (below_out HB1.out hb); clear hb HFb HB1) | ((with_reducible refine (HFc.out _ (HM.out.next HB2.out)).mono ?_); rintro e w3 ⟨rfl, hb⟩; have HB3 := hid (below_out HB2.out hb); clear hb HFc HB2)) | (go_at_call 18; first | ((with_reducible refine (Hab.out _ (HM.out.next HB3.out)).mono ?_); rintro e w4 ⟨rfl, hb⟩; have HB4 := hid (below_out HB3.out hb); clear hb Hab) | ((with_reducible refine (Hba.out _ (HM.out.next HB4.out)).mono ?_); rintro e w5 ⟨rfl, hb⟩; have HB5 := hid (below_out HB4.out hb); clear hb Hba) | ((with_reducible refine (Hbc.out _ (HM.out.next HB6.out)).mono ?_); rintro e w7 ⟨rfl, hb⟩; have HB7 := hid (below_out HB6.out hb); clear hb Hbc) | ((with_reducible refine (Hac.out _ (HM.out.next HB7.out)).mono ?_); rintro e w8 ⟨rfl, hb⟩; have HB8 := hid (below_out HB7.out hb); clear hb Hac)) | (go_at_call 27; (with_reducible refine (HSm.out _).mono ?_); rintro e w6 ⟨rfl, hb⟩; have HB6 := hid (below_out HB5.out hb); clear hb HSm))
            go_ret
            exact ⟨rfl, HB6.out⟩
          | true =>
            cases bc <;> cases ac <;> (
              go_enter Tryd.func28, Tryd.ntmps28
              go_wp2_with (first | (go_at_call 16; first | ((with_reducible refine (HFa.out _ HM.out).mono ?_); rintro e w1 ⟨rfl, hb⟩; have HB1 := hid hb; clear hb HFa) | ((with_reducible refine (HFb.out _ (HM.out.next HB1.out)).mono ?_); rintro e w2 ⟨rfl, hb⟩; have HB2 := hid (below_out HB1.out hb); clear hb HFb HB1) | ((with_reducible refine (HFc.out _ (HM.out.next HB2.out)).mono ?_); rintro e w3 ⟨rfl, hb⟩; have HB3 := hid (below_out HB2.out hb); clear hb HFc HB2)) | (go_at_call 18; first | ((with_reducible refine (Hab.out _ (HM.out.next HB3.out)).mono ?_); rintro e w4 ⟨rfl, hb⟩; have HB4 := hid (below_out HB3.out hb); clear hb Hab) | ((with_reducible refine (Hba.out _ (HM.out.next HB4.out)).mono ?_); rintro e w5 ⟨rfl, hb⟩; have HB5 := hid (below_out HB4.out hb); clear hb Hba) | ((with_reducible refine (Hbc.out _ (HM.out.next HB6.out)).mono ?_); rintro e w7 ⟨rfl, hb⟩; have HB7 := hid (below_out HB6.out hb); clear hb Hbc) | ((with_reducible refine (Hac.out _ (HM.out.next HB7.out)).mono ?_); rintro e w8 ⟨rfl, hb⟩; have HB8 := hid (below_out HB7.out hb); clear hb Hac)) | (go_at_call 27; (with_reducible refine (HSm.out _).mono ?_); rintro e w6 ⟨rfl, hb⟩; have HB6 := hid (below_out HB5.out hb); clear hb HSm))
              go_ret
              exact ⟨rfl, HB8.out⟩)
set_option maxRecDepth 20000 in
set_option maxHeartbeats 8000000 in
theorem strict_law (a b c : B) (ha : a.length ≤ 9223372036854775807) (hb : b.length ≤ 9223372036854775807) (hc : c.length ≤ 9223372036854775807) (w : World) (hmx : MxAt w) : Calls Tryd.prog 7 #[.string (str a), .string (str b), .string (str c)] w fun e w' => e = .returned (.bool true) ∧ Below w.heap.size w w' := by
  have H1 := hid (show ∀ W, MxAt W → Calls Tryd.prog 28 #[.string (str a), .string (str b), .string (str c), .string ⟨#[97, 46, 98, 46, 99]⟩] W fun e w' => e = .returned (.bool true) ∧ Below W.heap.size W w' from fun W h9 => strict_any a b c [97, 46, 98, 46, 99] ha hb hc (by decide) W h9)
  have H2 := hid (show ∀ W, MxAt W → Calls Tryd.prog 28 #[.string (str a), .string (str b), .string (str c), .string ⟨#[120, 46, 98, 46, 99]⟩] W fun e w' => e = .returned (.bool true) ∧ Below W.heap.size W w' from fun W h9 => strict_any a b c [120, 46, 98, 46, 99] ha hb hc (by decide) W h9)
  have H3 := hid (show ∀ W, MxAt W → Calls Tryd.prog 28 #[.string (str a), .string (str b), .string (str c), .string ⟨#[97, 46, 121, 46, 99]⟩] W fun e w' => e = .returned (.bool true) ∧ Below W.heap.size W w' from fun W h9 => strict_any a b c [97, 46, 121, 46, 99] ha hb hc (by decide) W h9)
  have HW := hid (fun (W : World) (h : MxAt W) => works_any W h)
  have HM := hid hmx
  obtain ⟨SA, hSA⟩ : ∃ S, str a = S := ⟨_, rfl⟩
  obtain ⟨SB, hSB⟩ : ∃ S, str b = S := ⟨_, rfl⟩
  obtain ⟨SC, hSC⟩ : ∃ S, str c = S := ⟨_, rfl⟩
  rw [hSA, hSB, hSC] at H1 H2 H3 ⊢
  clear hSA hSB hSC hmx ha hb hc
  go_enter Tryd.func7, Tryd.ntmps7
  go_wp2_with (first | (go_at_call 28; first | ((with_reducible refine (H1.out _ HM.out).mono ?_); rintro e w1 ⟨rfl, hb⟩; have HB1 := hid hb; clear hb H1) | ((with_reducible refine (H2.out _ (HM.out.next HB1.out)).mono ?_); rintro e w2 ⟨rfl, hb⟩; have HB2 := hid (below_out HB1.out hb); clear hb H2) | ((with_reducible refine (H3.out _ (HM.out.next HB2.out)).mono ?_); rintro e w3 ⟨rfl, hb⟩; have HB3 := hid (below_out HB2.out hb); clear hb H3)) | (go_at_call 15; (with_reducible refine (HW.out _ (HM.out.next HB3.out)).mono ?_); rintro e w8 ⟨rfl, hb⟩; have HB8 := hid (below_out HB3.out hb); clear hb))
  go_ret
  exact ⟨rfl, HB8.out⟩
end Go.Proofs.YtkjgdfihhhdjaaaDoor
