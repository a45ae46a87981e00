/- The document's answers: whether a value may be. -/
import Derived.Test.YtkoeihliaandeaaGreatDoorRefO
import Derived.Test.YtkoeihliaandeaaGreatDoorRefG
import Derived.BigQuiet
import Derived.Test.YtkoeihliaandeaaGreatDoorRefD
namespace Go.Proofs.YtkoeihliaandeaaGreatDoor
open Go.RowKit

def RSoundOk (t : JV) : Prop := ∀ (w : World) (cs : List Value), Fits t → ValOn w t cs → Calls Tryz.prog 26 #[.agg cs.toArray] w fun e w' => e = .returned (.tuple #[.bool (soundV t).1, .bool (soundV t).2]) ∧ Below w.heap.size w w'
theorem sound_flat {k : Int} {b : Bool} {t : B} {n : Int} {h : Bool} {ls : List JV} {ns : List B} (hk : k ≠ 5) (hk6 : k ≠ 6) : soundV (.mk k b t n h ls ns) = (formed (.mk k b t n h ls ns), false) := by
  simp only [soundV]
  cases hf : formed (.mk k b t n h ls ns) with
  | false => rfl
  | true =>
    rw [if_neg (by decide)]
    rcases formed_cases hf with e | e | ⟨_, _, e⟩ | ⟨_, e⟩ | e | ⟨_, _, e⟩
    · simp only [JV.mk.injEq] at e
      rw [e.2.2.2.2.2.1, e.2.2.2.2.2.2]
      rfl
    · simp only [JV.mk.injEq] at e
      rw [e.2.2.2.2.2.1, e.2.2.2.2.2.2]
      rfl
    · obtain ⟨i, h9, e9⟩ := num_mk t
      rw [e9] at e
      simp only [JV.mk.injEq] at e
      rw [e.2.2.2.2.2.1, e.2.2.2.2.2.2]
      rfl
    · simp only [JV.mk.injEq] at e
      rw [e.2.2.2.2.2.1, e.2.2.2.2.2.2]
      rfl
    · simp only [JV.mk.injEq] at e
      exact absurd e.1 hk
    · simp only [JV.mk.injEq] at e
      exact absurd e.1 hk6
theorem formed_kind {k : Int} {b : Bool} {t : B} {n : Int} {h : Bool} {ls : List JV} {ns : List B} (h1 : k ≠ 1) (h2 : k ≠ 2) (h3 : k ≠ 3) (h4 : k ≠ 4) (h5 : k ≠ 5) (h6 : k ≠ 6) : formed (.mk k b t n h ls ns) = false := by
  simp only [formed]
  rw [if_neg h1, if_neg h2, if_neg h3, if_neg h4, if_neg h5, if_neg h6]
/-- The parts of a value, told as it is. -/
def ToldSp (f : Bool × Bool) (w : World) (e : Ending) (w' : World) : Prop := e = .returned (.tuple #[.bool f.1, .bool f.2]) ∧ Below w.heap.size w w'
/-- How parts go on: the rest of them, and what comes of it. -/
theorem sounds_step {tw : Bool} {ls : List JV} {i : Nat} (h : i < ls.length) : sounds tw (ls.drop i) = if (soundV ls[i]).1 = false then (false, false) else sounds (tw || (soundV ls[i]).2) (ls.drop (i + 1)) := by
  rw [drop_get h]
  simp only [sounds]
set_option maxRecDepth 20000 in
set_option maxHeartbeats 8000000 in
theorem rparts5 (ns : List B) (ls : List JV) (hS : ∀ x ∈ ls, RSoundOk x) (w : World) (cs : List Value) (hf : Fits (.mk 5 false [] 0 false ls ns)) (hv : ValOn w (.mk 5 false [] 0 false ls ns) cs) (hlen : ns.length = 0) : Calls Tryz.prog 46 #[.agg cs.toArray] w fun e w' => ToldSp (if ns.all Lib.validD = false then (false, false) else sounds (dup [] ns) ls) w e w' := by
  obtain ⟨p1, c1, p2, c2, rfl, hp1, hp2⟩ := hv.open
  simp only [Fits, fitsL_iff] at hf
  obtain ⟨_, hn1, hn2, hn3, hn4⟩ := hf
  unfold maxI at hn1 hn2
  have HF := hid hn4
  have HFn := hid hn3
  have HSO := hid hS
  obtain ⟨n1, e1⟩ : ∃ n1, ls.length = n1 := ⟨_, rfl⟩
  obtain ⟨n2, e2⟩ : ∃ n2, ns.length = n2 := ⟨_, rfl⟩
  have HN1 := hid e1
  have HN2 := hid e2
  rw [e1] at hn1
  rw [e2] at hn2
  rw [e1, e2]
  have hlen2 := hlen
  rw [e2] at hlen2
  obtain ⟨W0, hW0⟩ : ∃ W0, W0 = w.alloc (C7 5 false [] 0 false p1 n1 c1 p2 n2 c2) := ⟨_, rfl⟩
  have HW0 := hid hW0
  have HB0 := hid (show Below w.heap.size w W0 from by rw [hW0]; exact below_new _ _)
  have HX0 := hid (show W0.heap[w.heap.size]? = some (C7 5 false [] 0 false p1 n1 c1 p2 n2 c2) from by rw [hW0]; exact heap_alloc_new _ _)
  have HP := hid (hp1.below HB0.out)
  have HM := hid (hp2.below HB0.out)
  obtain ⟨G, hG⟩ : ∃ G, (if ns.all Lib.validD = false then ((false, false) : Bool × Bool) else sounds (dup [] ns) ls) = G := ⟨_, rfl⟩
  have HG := hid hG
  rw [hG]
  clear hv hp1 hp2 e1 e2 hW0 hG hS hn3 hn4 hlen
  subst hlen2
  go_enter Tryz.func46, Tryz.ntmps46
  go_wp2
  go_loopg [4, 5] (0 + 1) (fun gk s4 s5 wr => ∃ (i : Nat) (tw : Bool), i ≤ 0 ∧ gk = 0 - i + 1 ∧ s4 = .bool tw ∧ s5 = .int .i64 (i : Int) ∧ (if (ns.drop i).all Lib.validD = false then ((false, false) : Bool × Bool) else sounds (tw || dup (ns.take i) (ns.drop i)) ls) = G ∧ Below W0.heap.size W0 wr)
  case atStart => exact ⟨0, false, by omega, rfl, rfl, rfl, HG.out, by rw [← HW0.out]; exact Below.refl _ _⟩
  case round =>
    obtain ⟨i, tw, hi, rfl, rfl, rfl, hs, hb⟩ := hrel
    have HB := hid hb
    have HD := hid hs
    obtain ⟨x0, x1, x2, x3, x4, x5, x6, _⟩ := seven (keep7 HX0.out hb)
    clear hs hb
    by_cases hin : i < 0
    · exact absurd hin (Nat.not_lt_zero _)
    · have b1 : ¬ (i : Int) < (0 : Int) := by omega
      have HLs := hid (show sounds tw ls = G from by
        rw [← HD.out, List.drop_of_length_le (show ns.length ≤ i by rw [HN2.out]; omega)]
        cases tw <;> rfl)
      go_wp2
      go_loopg [4, 6] (n1 + 1) (fun gk s4 s6 wr2 => ∃ (i2 : Nat) (tw2 : Bool), i2 ≤ n1 ∧ gk = n1 - i2 + 1 ∧ s4 = .bool tw2 ∧ s6 = .int .i64 (i2 : Int) ∧ sounds tw2 (ls.drop i2) = G ∧ Below W0.heap.size W0 wr2)
      case atStart => exact ⟨0, tw, by omega, rfl, rfl, rfl, HLs.out, HB.out⟩
      case round =>
        obtain ⟨i2, tw2, hi2, rfl, rfl, rfl, hs2, hb2⟩ := hrel
        have HB2 := hid hb2
        have HD2 := hid hs2
        clear x0 x1 x2 x3 x4 x5 x6
        obtain ⟨x0, x1, x2, x3, x4, x5, x6, _⟩ := seven (keep7 HX0.out hb2)
        clear hs2 hb2
        by_cases hin2 : i2 < n1
        · have d1 : (i2 : Int) < (n1 : Int) := by omega
          have hi3 : i2 < ls.length := by rw [HN1.out]; exact hin2
          obtain ⟨g, o, cs, rfl, hv1, hc1⟩ := HP.out.below HB2.out i2 ls[i2] (List.getElem?_eq_getElem hi3)
          have HStep := hid (sounds_step (tw := tw2) hi3)
          have HC := hid (HSO.out ls[i2] (List.getElem_mem hi3))
          have HFx := hid (HF.out ls[i2] (List.getElem_mem hi3))
          generalize ls[i2] = x at hv1 HStep HC HFx
          obtain ⟨k1, k2, k3, k4, k5, k6, k7, k8, k9, k10, k11, rfl⟩ := hv1.form
          obtain ⟨a0, a1, a2, a3, a4, a5, a6⟩ := row7 hc1
          have HV := hid hv1
          obtain ⟨oa, ob, hso⟩ : ∃ oa ob, soundV x = (oa, ob) := ⟨_, _, rfl⟩
          have HSo := hid hso
          rw [hso] at HStep
          clear hc1 hv1 hi3 hso
          cases oa with
          | false =>
            have HR := hid (show G = (false, false) from by rw [← HD2.out, HStep.out]; rfl)
            go_wp2_with (go_at_call 26; have hcall := HC.out _ _ HFx.out HV.out; rw [HSo.out] at hcall; (with_reducible refine hcall.mono ?_); clear hcall; rintro e w1 ⟨rfl, hb⟩; have HB3 := hid (HB2.out.trans (hb.mono HB2.out.size)); clear hb)
            go_ret2
            rw [HR.out]
            exact ⟨rfl, below_out HB0.out HB3.out⟩
          | true =>
            have HR := hid (show sounds (tw2 || ob) (ls.drop (i2 + 1)) = G from by rw [← HD2.out, HStep.out]; rfl)
            cases tw2 with
            | true =>
              go_wp2_with (go_at_call 26; have hcall := HC.out _ _ HFx.out HV.out; rw [HSo.out] at hcall; (with_reducible refine hcall.mono ?_); clear hcall; rintro e w1 ⟨rfl, hb⟩; have HB3 := hid (HB2.out.trans (hb.mono HB2.out.size)); clear hb)
              go_roundg (n1 - (i2 + 1) + 1)
              case measure => omega
              case rel => exact ⟨i2 + 1, true, by omega, rfl, rfl, by push_cast; rfl, HR.out, HB3.out⟩
            | false =>
              go_wp2_with (go_at_call 26; have hcall := HC.out _ _ HFx.out HV.out; rw [HSo.out] at hcall; (with_reducible refine hcall.mono ?_); clear hcall; rintro e w1 ⟨rfl, hb⟩; have HB3 := hid (HB2.out.trans (hb.mono HB2.out.size)); clear hb)
              go_roundg (n1 - (i2 + 1) + 1)
              case measure => omega
              case rel => exact ⟨i2 + 1, ob, by omega, rfl, rfl, by push_cast; rfl, HR.out, HB3.out⟩
        · have d1 : ¬ (i2 : Int) < (n1 : Int) := by omega
          have HR := hid (show G = (true, tw2) from by
            rw [← HD2.out, List.drop_of_length_le (show ls.length ≤ i2 by rw [HN1.out]; omega)]
            rfl)
          go_wp2
          go_ret2
          rw [HR.out]
          exact ⟨rfl, below_out HB0.out HB2.out⟩
set_option maxRecDepth 20000 in
set_option maxHeartbeats 8000000 in
theorem rparts6 (ns : List B) (ls : List JV) (hS : ∀ x ∈ ls, RSoundOk x) (w : World) (cs : List Value) (hf : Fits (.mk 6 false [] 0 false ls ns)) (hv : ValOn w (.mk 6 false [] 0 false ls ns) cs) (hlen : ns.length = ls.length) (hcap : ∀ p n c, cs[6]? = some (.slice p n c) → n ≤ c) : Calls Tryz.prog 46 #[.agg cs.toArray] w fun e w' => ToldSp (if ns.all Lib.validD = false then (false, false) else sounds (dup [] ns) ls) w e w' := by
  obtain ⟨p1, c1, p2, c2, rfl, hp1, hp2⟩ := hv.open
  have hcap2 : ns.length ≤ c2 := hcap p2 ns.length c2 rfl
  clear hcap
  simp only [Fits, fitsL_iff] at hf
  obtain ⟨_, hn1, hn2, hn3, hn4⟩ := hf
  unfold maxI at hn1 hn2
  have HF := hid hn4
  have HFn := hid hn3
  have HSO := hid hS
  obtain ⟨n1, e1⟩ : ∃ n1, ls.length = n1 := ⟨_, rfl⟩
  obtain ⟨n2, e2⟩ : ∃ n2, ns.length = n2 := ⟨_, rfl⟩
  have HN1 := hid e1
  have HN2 := hid e2
  rw [e1] at hn1
  rw [e2] at hcap2
  rw [e2] at hn2
  rw [e1, e2]
  have hlen2 := hlen
  rw [e2, e1] at hlen2
  obtain ⟨W0, hW0⟩ : ∃ W0, W0 = w.alloc (C7 6 false [] 0 false p1 n1 c1 p2 n2 c2) := ⟨_, rfl⟩
  have HW0 := hid hW0
  have HB0 := hid (show Below w.heap.size w W0 from by rw [hW0]; exact below_new _ _)
  have HX0 := hid (show W0.heap[w.heap.size]? = some (C7 6 false [] 0 false p1 n1 c1 p2 n2 c2) from by rw [hW0]; exact heap_alloc_new _ _)
  have HP := hid (hp1.below HB0.out)
  have HM := hid (hp2.below HB0.out)
  obtain ⟨G, hG⟩ : ∃ G, (if ns.all Lib.validD = false then ((false, false) : Bool × Bool) else sounds (dup [] ns) ls) = G := ⟨_, rfl⟩
  have HG := hid hG
  rw [hG]
  clear hv hp1 hp2 e1 e2 hW0 hG hS hn3 hn4 hlen
  subst hlen2
  have qe : ((n2 : Int) != (n2 : Int)) = false := by simp
  go_enter Tryz.func46, Tryz.ntmps46
  go_wp2
  go_loopg [4, 5] (n2 + 1) (fun gk s4 s5 wr => ∃ (i : Nat) (tw : Bool), i ≤ n2 ∧ gk = n2 - i + 1 ∧ s4 = .bool tw ∧ s5 = .int .i64 (i : Int) ∧ (if (ns.drop i).all Lib.validD = false then ((false, false) : Bool × Bool) else sounds (tw || dup (ns.take i) (ns.drop i)) ls) = G ∧ Below W0.heap.size W0 wr)
  case atStart => exact ⟨0, false, by omega, rfl, rfl, rfl, HG.out, by rw [← HW0.out]; exact Below.refl _ _⟩
  case round =>
    obtain ⟨i, tw, hi, rfl, rfl, rfl, hs, hb⟩ := hrel
    have HB := hid hb
    have HD := hid hs
    obtain ⟨x0, x1, x2, x3, x4, x5, x6, _⟩ := seven (keep7 HX0.out hb)
    clear hs hb
    by_cases hin : i < n2
    · have b1 : (i : Int) < (n2 : Int) := by omega
      have hi1 : i < ns.length := by rw [HN2.out]; exact hin
      obtain ⟨g, o, rfl, hc1⟩ := HM.out.below HB.out i ns[i] (List.getElem?_eq_getElem hi1)
      have HAl := hid (show (ns.drop i).all Lib.validD = (Lib.validD ns[i] && (ns.drop (i + 1)).all Lib.validD) from by rw [drop_get hi1]; rfl)
      have HDu := hid (dup_step hi1)
      have hzl := HFn.out ns[i] (List.getElem_mem hi1)
      unfold maxI at hzl
      have hU := utf8_any (str ns[i]) (by rw [str_size]; omega)
      rw [show (str ns[i]).data.toList = ns[i] from by simp] at hU
      have hHas : ∀ W, Below W0.heap.size W0 W → ∀ cc, Calls Tryz.prog 66 #[.slice (some ⟨g, o, none⟩) i cc, .string (str ns[i])] W fun e w' => e = .returned (.bool ((ns.take i).contains ns[i])) ∧ w' = W := fun W hW cc => by
        have hno : NamesOn W (ns.take i) (some ⟨g, o, none⟩) := fun j z hj => by
          rw [List.getElem?_take] at hj
          split at hj
          · exact (HM.out.below hW) j z hj
          · cases hj
        have := has_any (cc := cc) ns[i] hno (by rw [List.length_take]; omega)
        rw [List.length_take, show min i ns.length = i by omega] at this
        exact this
      have HHas := hid hHas
      generalize ns[i] = zz at hc1 HAl HDu hU HHas
      clear hi1 hzl hHas
      cases hval : Lib.validD zz with
      | false =>
        rw [hval] at hU
        have HU := hid hU
        have HR := hid (show G = (false, false) from by rw [← HD.out, HAl.out, hval]; rfl)
        clear hU hval
        go_wp2_with (go_at_call 45; (with_reducible refine (HU.out _).mono ?_); rintro e w1 ⟨rfl, hw1⟩; have hw2 := hw1.symm; subst hw2; clear hw1)
        go_ret2
        rw [HR.out]
        exact ⟨rfl, below_out HB0.out HB.out⟩
      | true =>
        rw [hval] at hU
        have HU := hid hU
        have HAl2 := hid (show (ns.drop i).all Lib.validD = (ns.drop (i + 1)).all Lib.validD from by rw [HAl.out, hval]; rfl)
        have hno2 : 0 ≤ i := Nat.zero_le i
        have b2 : i ≤ c2 := by omega
        clear hU hval HAl
        cases tw with
        | true =>
          go_wp2_with (go_at_call 45; (with_reducible refine (HU.out _).mono ?_); rintro e w1 ⟨rfl, hw1⟩; have hw2 := hw1.symm; subst hw2; clear hw1)
          go_quiet (skip)
          go_wp2
          go_roundg (n2 - (i + 1) + 1)
          case measure => omega
          case rel => exact ⟨i + 1, true, by omega, rfl, rfl, by push_cast; rfl, by rw [← HD.out, HAl2.out]; rfl, below_drew HB.out _⟩
        | false =>
          go_wp2_with (go_at_call 45; (with_reducible refine (HU.out _).mono ?_); rintro e w1 ⟨rfl, hw1⟩; have hw2 := hw1.symm; subst hw2; clear hw1)
          go_quiet ((go_at_call 66; exact Calls.quiet_of_same (HHas.out _ (below_drew HB.out _) _)))
          go_wp2
          go_roundg (n2 - (i + 1) + 1)
          case measure => omega
          case rel => exact ⟨i + 1, (ns.take i).contains zz, by omega, rfl, by simp, by push_cast; rfl, by rw [← HD.out, HAl2.out, HDu.out, Bool.false_or], below_drew HB.out _⟩
    · have b1 : ¬ (i : Int) < (n2 : Int) := by omega
      have HLs := hid (show sounds tw ls = G from by
        rw [← HD.out, List.drop_of_length_le (show ns.length ≤ i by rw [HN2.out]; omega)]
        cases tw <;> rfl)
      go_wp2
      go_loopg [4, 6] (n2 + 1) (fun gk s4 s6 wr2 => ∃ (i2 : Nat) (tw2 : Bool), i2 ≤ n2 ∧ gk = n2 - i2 + 1 ∧ s4 = .bool tw2 ∧ s6 = .int .i64 (i2 : Int) ∧ sounds tw2 (ls.drop i2) = G ∧ Below W0.heap.size W0 wr2)
      case atStart => exact ⟨0, tw, by omega, rfl, rfl, rfl, HLs.out, HB.out⟩
      case round =>
        obtain ⟨i2, tw2, hi2, rfl, rfl, rfl, hs2, hb2⟩ := hrel
        have HB2 := hid hb2
        have HD2 := hid hs2
        clear x0 x1 x2 x3 x4 x5 x6
        obtain ⟨x0, x1, x2, x3, x4, x5, x6, _⟩ := seven (keep7 HX0.out hb2)
        clear hs2 hb2
        by_cases hin2 : i2 < n2
        · have d1 : (i2 : Int) < (n2 : Int) := by omega
          have hi3 : i2 < ls.length := by rw [HN1.out]; exact hin2
          obtain ⟨g, o, cs, rfl, hv1, hc1⟩ := HP.out.below HB2.out i2 ls[i2] (List.getElem?_eq_getElem hi3)
          have HStep := hid (sounds_step (tw := tw2) hi3)
          have HC := hid (HSO.out ls[i2] (List.getElem_mem hi3))
          have HFx := hid (HF.out ls[i2] (List.getElem_mem hi3))
          generalize ls[i2] = x at hv1 HStep HC HFx
          obtain ⟨k1, k2, k3, k4, k5, k6, k7, k8, k9, k10, k11, rfl⟩ := hv1.form
          obtain ⟨a0, a1, a2, a3, a4, a5, a6⟩ := row7 hc1
          have HV := hid hv1
          obtain ⟨oa, ob, hso⟩ : ∃ oa ob, soundV x = (oa, ob) := ⟨_, _, rfl⟩
          have HSo := hid hso
          rw [hso] at HStep
          clear hc1 hv1 hi3 hso
          cases oa with
          | false =>
            have HR := hid (show G = (false, false) from by rw [← HD2.out, HStep.out]; rfl)
            go_wp2_with (go_at_call 26; have hcall := HC.out _ _ HFx.out HV.out; rw [HSo.out] at hcall; (with_reducible refine hcall.mono ?_); clear hcall; rintro e w1 ⟨rfl, hb⟩; have HB3 := hid (HB2.out.trans (hb.mono HB2.out.size)); clear hb)
            go_ret2
            rw [HR.out]
            exact ⟨rfl, below_out HB0.out HB3.out⟩
          | true =>
            have HR := hid (show sounds (tw2 || ob) (ls.drop (i2 + 1)) = G from by rw [← HD2.out, HStep.out]; rfl)
            cases tw2 with
            | true =>
              go_wp2_with (go_at_call 26; have hcall := HC.out _ _ HFx.out HV.out; rw [HSo.out] at hcall; (with_reducible refine hcall.mono ?_); clear hcall; rintro e w1 ⟨rfl, hb⟩; have HB3 := hid (HB2.out.trans (hb.mono HB2.out.size)); clear hb)
              go_roundg (n2 - (i2 + 1) + 1)
              case measure => omega
              case rel => exact ⟨i2 + 1, true, by omega, rfl, rfl, by push_cast; rfl, HR.out, HB3.out⟩
            | false =>
              go_wp2_with (go_at_call 26; have hcall := HC.out _ _ HFx.out HV.out; rw [HSo.out] at hcall; (with_reducible refine hcall.mono ?_); clear hcall; rintro e w1 ⟨rfl, hb⟩; have HB3 := hid (HB2.out.trans (hb.mono HB2.out.size)); clear hb)
              go_roundg (n2 - (i2 + 1) + 1)
              case measure => omega
              case rel => exact ⟨i2 + 1, ob, by omega, rfl, rfl, by push_cast; rfl, HR.out, HB3.out⟩
        · have d1 : ¬ (i2 : Int) < (n2 : Int) := by omega
          have HR := hid (show G = (true, tw2) from by
            rw [← HD2.out, List.drop_of_length_le (show ls.length ≤ i2 by rw [HN1.out]; omega)]
            rfl)
          go_wp2
          go_ret2
          rw [HR.out]
          exact ⟨rfl, below_out HB0.out HB2.out⟩
set_option maxRecDepth 20000 in
set_option maxHeartbeats 8000000 in
theorem rpart5 (b : Bool) (tx : B) (n : Int) (hh : Bool) (ls : List JV) (ns : List B) (hS : ∀ x ∈ ls, RSoundOk x) (w : World) (cs : List Value) (hf : Fits (.mk 5 b tx n hh ls ns)) (hv : ValOn w (.mk 5 b tx n hh ls ns) cs) : Calls Tryz.prog 46 #[.agg cs.toArray] w fun e w' => ToldSp (soundV (.mk 5 b tx n hh ls ns)) w e w' := by
  cases b with
  | true =>
    have HR := hid (show soundV (.mk 5 true tx n hh ls ns) = (false, false) from by simp [soundV, formed, sameV])
    rw [HR.out]
    obtain ⟨p1, c1, p2, c2, rfl, _, _⟩ := hv.open
    obtain ⟨n1, e1⟩ : ∃ n1, ls.length = n1 := ⟨_, rfl⟩
    obtain ⟨n2, e2⟩ : ∃ n2, ns.length = n2 := ⟨_, rfl⟩
    rw [e1, e2]
    clear hv hf hS e1 e2 HR 
    go_enter Tryz.func46, Tryz.ntmps46
    go_wp2
    go_ret2
    exact ⟨rfl, below_new _ _⟩
  | false =>
    by_cases ht : tx = []
    case neg =>
      have HR := hid (show soundV (.mk 5 false tx n hh ls ns) = (false, false) from by simp [soundV, formed, sameV, text_nil ht])
      rw [HR.out]
      obtain ⟨p1, c1, p2, c2, rfl, _, _⟩ := hv.open
      obtain ⟨n1, e1⟩ : ∃ n1, ls.length = n1 := ⟨_, rfl⟩
      obtain ⟨n2, e2⟩ : ∃ n2, ns.length = n2 := ⟨_, rfl⟩
      rw [e1, e2]
      have q1 := str_ne ht
      have q2 : ((⟨#[]⟩ : ByteArray).toList == (str tx).toList) = false := beq_eq_false_iff_ne.2 q1
      rw [toList_nil] at q1 q2
      have q3 : ((str tx).toList == []) = false := beq_eq_false_iff_ne.2 (fun e => q1 e.symm)
      generalize str tx = TT at q1 q2 q3 ⊢
      clear hv hf hS e1 e2 HR ht
      go_enter Tryz.func46, Tryz.ntmps46
      go_wp2
      go_ret2
      exact ⟨rfl, below_new _ _⟩
    subst ht
    by_cases hn : n = 0
    case neg =>
      have HR := hid (show soundV (.mk 5 false [] n hh ls ns) = (false, false) from by simp [soundV, formed, sameV, hn])
      rw [HR.out]
      obtain ⟨p1, c1, p2, c2, rfl, _, _⟩ := hv.open
      obtain ⟨n1, e1⟩ : ∃ n1, ls.length = n1 := ⟨_, rfl⟩
      obtain ⟨n2, e2⟩ : ∃ n2, ns.length = n2 := ⟨_, rfl⟩
      rw [e1, e2]
      have q1 : ((0 : Int) == n) = false := by simp only [beq_eq_false_iff_ne, ne_eq]; omega
      have q2 : (n == (0 : Int)) = false := by simp only [beq_eq_false_iff_ne, ne_eq]; omega
      clear hv hf hS e1 e2 HR 
      go_enter Tryz.func46, Tryz.ntmps46
      go_wp2
      go_ret2
      exact ⟨rfl, below_new _ _⟩
    subst hn
    cases hh with
    | true =>
      have HR := hid (show soundV (.mk 5 false [] 0 true ls ns) = (false, false) from by simp [soundV, formed, sameV])
      rw [HR.out]
      obtain ⟨p1, c1, p2, c2, rfl, _, _⟩ := hv.open
      obtain ⟨n1, e1⟩ : ∃ n1, ls.length = n1 := ⟨_, rfl⟩
      obtain ⟨n2, e2⟩ : ∃ n2, ns.length = n2 := ⟨_, rfl⟩
      rw [e1, e2]
      clear hv hf hS e1 e2 HR 
      go_enter Tryz.func46, Tryz.ntmps46
      go_wp2
      go_ret2
      exact ⟨rfl, below_new _ _⟩
    | false =>
      by_cases hm : ns.length = 0
      case neg =>
        have HR := hid (show soundV (.mk 5 false [] 0 false ls ns) = (false, false) from by simp [soundV, formed, sameV, names_nil hm])
        rw [HR.out]
        obtain ⟨p1, c1, p2, c2, rfl, _, _⟩ := hv.open
        obtain ⟨n1, e1⟩ : ∃ n1, ls.length = n1 := ⟨_, rfl⟩
        obtain ⟨n2, e2⟩ : ∃ n2, ns.length = n2 := ⟨_, rfl⟩
        rw [e1, e2]
        have q1 : (0 : Int) < (n2 : Int) := by omega
        clear hv hf hS e1 e2 HR hm
        go_enter Tryz.func46, Tryz.ntmps46
        go_wp2
        go_ret2
        exact ⟨rfl, below_new _ _⟩
      have hs : soundV (.mk 5 false [] 0 false ls ns) = (if ns.all Lib.validD = false then (false, false) else sounds (dup [] ns) ls) := by
        obtain rfl : ns = [] := List.eq_nil_of_length_eq_zero hm
        simp [soundV, formed, sameV, sameL, twice_dup]
      rw [hs]
      exact rparts5 ns ls hS w cs hf hv hm
set_option maxRecDepth 20000 in
set_option maxHeartbeats 8000000 in
theorem rpart6 (b : Bool) (tx : B) (n : Int) (hh : Bool) (ls : List JV) (ns : List B) (hS : ∀ x ∈ ls, RSoundOk x) (w : World) (cs : List Value) (hf : Fits (.mk 6 b tx n hh ls ns)) (hv : ValOn w (.mk 6 b tx n hh ls ns) cs) (hcap : ∀ p n c, cs[6]? = some (.slice p n c) → n ≤ c) : Calls Tryz.prog 46 #[.agg cs.toArray] w fun e w' => ToldSp (soundV (.mk 6 b tx n hh ls ns)) w e w' := by
  cases b with
  | true =>
    have HR := hid (show soundV (.mk 6 true tx n hh ls ns) = (false, false) from by simp [soundV, formed, sameV])
    rw [HR.out]
    obtain ⟨p1, c1, p2, c2, rfl, _, _⟩ := hv.open
    obtain ⟨n1, e1⟩ : ∃ n1, ls.length = n1 := ⟨_, rfl⟩
    obtain ⟨n2, e2⟩ : ∃ n2, ns.length = n2 := ⟨_, rfl⟩
    rw [e1, e2]
    clear hv hf hS e1 e2 HR hcap 
    go_enter Tryz.func46, Tryz.ntmps46
    go_wp2
    go_ret2
    exact ⟨rfl, below_new _ _⟩
  | false =>
    by_cases ht : tx = []
    case neg =>
      have HR := hid (show soundV (.mk 6 false tx n hh ls ns) = (false, false) from by simp [soundV, formed, sameV, text_nil ht])
      rw [HR.out]
      obtain ⟨p1, c1, p2, c2, rfl, _, _⟩ := hv.open
      obtain ⟨n1, e1⟩ : ∃ n1, ls.length = n1 := ⟨_, rfl⟩
      obtain ⟨n2, e2⟩ : ∃ n2, ns.length = n2 := ⟨_, rfl⟩
      rw [e1, e2]
      have q1 := str_ne ht
      have q2 : ((⟨#[]⟩ : ByteArray).toList == (str tx).toList) = false := beq_eq_false_iff_ne.2 q1
      rw [toList_nil] at q1 q2
      have q3 : ((str tx).toList == []) = false := beq_eq_false_iff_ne.2 (fun e => q1 e.symm)
      generalize str tx = TT at q1 q2 q3 ⊢
      clear hv hf hS e1 e2 HR hcap ht
      go_enter Tryz.func46, Tryz.ntmps46
      go_wp2
      go_ret2
      exact ⟨rfl, below_new _ _⟩
    subst ht
    by_cases hn : n = 0
    case neg =>
      have HR := hid (show soundV (.mk 6 false [] n hh ls ns) = (false, false) from by simp [soundV, formed, sameV, hn])
      rw [HR.out]
      obtain ⟨p1, c1, p2, c2, rfl, _, _⟩ := hv.open
      obtain ⟨n1, e1⟩ : ∃ n1, ls.length = n1 := ⟨_, rfl⟩
      obtain ⟨n2, e2⟩ : ∃ n2, ns.length = n2 := ⟨_, rfl⟩
      rw [e1, e2]
      have q1 : ((0 : Int) == n) = false := by simp only [beq_eq_false_iff_ne, ne_eq]; omega
      have q2 : (n == (0 : Int)) = false := by simp only [beq_eq_false_iff_ne, ne_eq]; omega
      clear hv hf hS e1 e2 HR hcap 
      go_enter Tryz.func46, Tryz.ntmps46
      go_wp2
      go_ret2
      exact ⟨rfl, below_new _ _⟩
    subst hn
    cases hh with
    | true =>
      have HR := hid (show soundV (.mk 6 false [] 0 true ls ns) = (false, false) from by simp [soundV, formed, sameV])
      rw [HR.out]
      obtain ⟨p1, c1, p2, c2, rfl, _, _⟩ := hv.open
      obtain ⟨n1, e1⟩ : ∃ n1, ls.length = n1 := ⟨_, rfl⟩
      obtain ⟨n2, e2⟩ : ∃ n2, ns.length = n2 := ⟨_, rfl⟩
      rw [e1, e2]
      clear hv hf hS e1 e2 HR hcap 
      go_enter Tryz.func46, Tryz.ntmps46
      go_wp2
      go_ret2
      exact ⟨rfl, below_new _ _⟩
    | false =>
      by_cases hm : ns.length = ls.length
      case neg =>
        have HR := hid (show soundV (.mk 6 false [] 0 false ls ns) = (false, false) from by simp [soundV, formed, sameV, hm])
        rw [HR.out]
        obtain ⟨p1, c1, p2, c2, rfl, _, _⟩ := hv.open
        obtain ⟨n1, e1⟩ : ∃ n1, ls.length = n1 := ⟨_, rfl⟩
        obtain ⟨n2, e2⟩ : ∃ n2, ns.length = n2 := ⟨_, rfl⟩
        rw [e1, e2]
        have q1 : ((n2 : Int) == (n1 : Int)) = false := by simp only [beq_eq_false_iff_ne, ne_eq]; omega
        have q2 : ((n2 : Int) != (n1 : Int)) = true := by simp only [bne_iff_ne, ne_eq]; omega
        have q3 : ¬ n2 = n1 := by omega
        clear hv hf hS e1 e2 HR hcap hm
        go_enter Tryz.func46, Tryz.ntmps46
        go_wp2
        go_ret2
        exact ⟨rfl, below_new _ _⟩
      have hs : soundV (.mk 6 false [] 0 false ls ns) = (if ns.all Lib.validD = false then (false, false) else sounds (dup [] ns) ls) := by
        cases hval : ns.all Lib.validD with
        | false => simp [soundV, formed, hval]
        | true =>
          simp only [soundV, formed, hval, twice_dup]
          simp [hm, sameV, sameL]
      rw [hs]
      exact rparts6 ns ls hS w cs hf hv hm hcap
end Go.Proofs.YtkoeihliaandeaaGreatDoor
/- The document's answers: whether a value may be, all values. -/
namespace Go.Proofs.YtkoeihliaandeaaGreatDoor
open Go.RowKit

set_option maxRecDepth 20000 in
set_option maxHeartbeats 8000000 in
theorem rsound5 (b : Bool) (tx : B) (n : Int) (hh : Bool) (ls : List JV) (ns : List B) (hS : ∀ x ∈ ls, RSoundOk x) (w : World) (cs : List Value) (hf : Fits (.mk 5 b tx n hh ls ns)) (hv : ValOn w (.mk 5 b tx n hh ls ns) cs) : Calls Tryz.prog 26 #[.agg cs.toArray] w fun e w' => ToldSp (soundV (.mk 5 b tx n hh ls ns)) w e w' := by
  have HF := hid hf
  have HS := hid hS
  have hcp := hv.cap
  have hv2 := hv
  obtain ⟨p1, c1, p2, c2, rfl, _, _⟩ := hv.open
  obtain ⟨n1, e1⟩ : ∃ n1, ls.length = n1 := ⟨_, rfl⟩
  obtain ⟨n2, e2⟩ : ∃ n2, ns.length = n2 := ⟨_, rfl⟩
  rw [e1, e2] at hv2 hcp ⊢
  obtain ⟨oa, ob, hso⟩ : ∃ oa ob, soundV (.mk 5 b tx n hh ls ns) = (oa, ob) := ⟨_, _, rfl⟩
  have hC : ∀ W, Below w.heap.size w W → Calls Tryz.prog 46 #[.agg #[.int .i64 5, .bool b, .string (str tx), .int .i64 n, .bool hh, .slice p1 n1 c1, .slice p2 n2 c2]] W fun e w' => e = .returned (.tuple #[.bool oa, .bool ob]) ∧ Below w.heap.size w w' := fun W hW => by
    refine (rpart5 b tx n hh ls ns HS.out W _ HF.out (hv2.below hW)).mono ?_
    rintro e w' ⟨rfl, hb⟩
    rw [hso]
    exact ⟨rfl, hW.trans (hb.mono hW.size)⟩
  have HC := hid hC
  rw [hso]
  clear hf hS hcp hv2 hv e1 e2 hso hC HF HS
  go_enter Tryz.func26, Tryz.ntmps26
  go_wp2_with (go_at_call 46; (with_reducible refine (HC.out _ (by exact two_box _ _ _)).mono ?_); rintro e w1 ⟨rfl, hb⟩; have HB := hid hb; clear hb)
  go_ret2
  exact ⟨rfl, HB.out⟩
set_option maxRecDepth 20000 in
set_option maxHeartbeats 8000000 in
theorem rsound6 (b : Bool) (tx : B) (n : Int) (hh : Bool) (ls : List JV) (ns : List B) (hS : ∀ x ∈ ls, RSoundOk x) (w : World) (cs : List Value) (hf : Fits (.mk 6 b tx n hh ls ns)) (hv : ValOn w (.mk 6 b tx n hh ls ns) cs) : Calls Tryz.prog 26 #[.agg cs.toArray] w fun e w' => ToldSp (soundV (.mk 6 b tx n hh ls ns)) w e w' := by
  have HF := hid hf
  have HS := hid hS
  have hcp := hv.cap
  have hv2 := hv
  obtain ⟨p1, c1, p2, c2, rfl, _, _⟩ := hv.open
  obtain ⟨n1, e1⟩ : ∃ n1, ls.length = n1 := ⟨_, rfl⟩
  obtain ⟨n2, e2⟩ : ∃ n2, ns.length = n2 := ⟨_, rfl⟩
  rw [e1, e2] at hv2 hcp ⊢
  obtain ⟨oa, ob, hso⟩ : ∃ oa ob, soundV (.mk 6 b tx n hh ls ns) = (oa, ob) := ⟨_, _, rfl⟩
  have hC : ∀ W, Below w.heap.size w W → Calls Tryz.prog 46 #[.agg #[.int .i64 6, .bool b, .string (str tx), .int .i64 n, .bool hh, .slice p1 n1 c1, .slice p2 n2 c2]] W fun e w' => e = .returned (.tuple #[.bool oa, .bool ob]) ∧ Below w.heap.size w w' := fun W hW => by
    refine (rpart6 b tx n hh ls ns HS.out W _ HF.out (hv2.below hW) hcp).mono ?_
    rintro e w' ⟨rfl, hb⟩
    rw [hso]
    exact ⟨rfl, hW.trans (hb.mono hW.size)⟩
  have HC := hid hC
  rw [hso]
  clear hf hS hcp hv2 hv e1 e2 hso hC HF HS
  go_enter Tryz.func26, Tryz.ntmps26
  go_wp2_with (go_at_call 46; (with_reducible refine (HC.out _ (by exact two_box _ _ _)).mono ?_); rintro e w1 ⟨rfl, hb⟩; have HB := hid hb; clear hb)
  go_ret2
  exact ⟨rfl, HB.out⟩
set_option maxRecDepth 20000 in
set_option maxHeartbeats 8000000 in
theorem rsound0 (k : Int) (b : Bool) (tx : B) (n : Int) (hh : Bool) (ls : List JV) (ns : List B) (h1 : k ≠ 1) (h2 : k ≠ 2) (h3 : k ≠ 3) (h4 : k ≠ 4) (h5 : k ≠ 5) (h6 : k ≠ 6) (w : World) (cs : List Value) (hv : ValOn w (.mk k b tx n hh ls ns) cs) : Calls Tryz.prog 26 #[.agg cs.toArray] w fun e w' => ToldSp (false, false) w e w' := by
  obtain ⟨p1, c1, p2, c2, rfl, _, _⟩ := hv.open
  obtain ⟨n1, e1⟩ : ∃ n1, ls.length = n1 := ⟨_, rfl⟩
  obtain ⟨n2, e2⟩ : ∃ n2, ns.length = n2 := ⟨_, rfl⟩
  rw [e1, e2]
  clear hv e1 e2
  have q1 : (k == (1 : Int)) = false := beq_eq_false_iff_ne.2 h1
  have q2 : (k == (2 : Int)) = false := beq_eq_false_iff_ne.2 h2
  have q3 : (k == (3 : Int)) = false := beq_eq_false_iff_ne.2 h3
  have q4 : (k == (4 : Int)) = false := beq_eq_false_iff_ne.2 h4
  have q5 : (k == (5 : Int)) = false := beq_eq_false_iff_ne.2 h5
  have q6 : (k == (6 : Int)) = false := beq_eq_false_iff_ne.2 h6
  go_enter Tryz.func26, Tryz.ntmps26
  go_wp2
  go_ret2
  exact ⟨rfl, two_box w _ _⟩
theorem rsound_one {k : Int} {b : Bool} {t : B} {n : Int} {h : Bool} {ls : List JV} {ns : List B} (hS : ∀ x ∈ ls, RSoundOk x) : RSoundOk (.mk k b t n h ls ns) := by
  intro w cs hf hv
  have htl : t.length ≤ 140737488355328 := by
    have := hf
    simp only [Fits] at this
    unfold maxI at this
    exact this.1
  by_cases h5 : k = 5
  · subst h5
    exact rsound5 b t n h ls ns hS w cs hf hv
  by_cases h6 : k = 6
  · subst h6
    exact rsound6 b t n h ls ns hS w cs hf hv
  rw [sound_flat h5 h6]
  by_cases h1 : k = 1
  · subst h1
    exact sound1 b t n h ls ns w cs hv
  by_cases h2 : k = 2
  · subst h2
    exact sound2 b t n h ls ns w cs hv
  by_cases h3 : k = 3
  · subst h3
    exact sound3 b t n h ls ns w cs htl hv
  by_cases h4 : k = 4
  · subst h4
    exact sound4 b t n h ls ns w cs htl hv
  rw [formed_kind h1 h2 h3 h4 h5 h6]
  exact rsound0 k b t n h ls ns h1 h2 h3 h4 h5 h6 w cs hv
mutual
theorem rsound_any : ∀ a : JV, RSoundOk a
  | .mk _ _ _ _ _ ls _ => rsound_one (rsound_all ls)
theorem rsound_all : ∀ ls : List JV, ∀ x ∈ ls, RSoundOk x
  | [], x, h => by simp at h
  | y :: ys, x, h => by
    simp only [List.mem_cons] at h
    rcases h with rfl | h
    · exact rsound_any x
    · exact rsound_all ys x h
end
set_option maxRecDepth 20000 in
set_option maxHeartbeats 8000000 in
theorem rvalid_any (t : JV) (w : World) (cs : List Value) (hf : Fits t) (hv : ValOn w t cs) : Calls Tryz.prog 14 #[.agg cs.toArray] w fun e w' => e = .returned (.int .i64 ((validN t : Nat) : Int)) ∧ Below w.heap.size w w' := by
  obtain ⟨k1, k2, k3, k4, k5, k6, k7, k8, k9, k10, k11, rfl⟩ := hv.form
  have HB0 := hid (below_new w (C7 k1 k2 k3 k4 k5 k6 k7 k8 k9 k10 k11))
  have HX0 := hid (show (w.alloc (C7 k1 k2 k3 k4 k5 k6 k7 k8 k9 k10 k11)).heap[w.heap.size]? = some (C7 k1 k2 k3 k4 k5 k6 k7 k8 k9 k10 k11) from heap_alloc_new _ _)
  have hC := rdepth_any t (w.alloc (C7 k1 k2 k3 k4 k5 k6 k7 k8 k9 k10 k11)) _ hf (hv.below HB0.out)
  have HS := hid (fun W (hW : Below (w.alloc (C7 k1 k2 k3 k4 k5 k6 k7 k8 k9 k10 k11)).heap.size (w.alloc (C7 k1 k2 k3 k4 k5 k6 k7 k8 k9 k10 k11)) W) => rsound_any t W _ hf ((hv.below HB0.out).below hW))
  obtain ⟨oa, ob, hso⟩ : ∃ oa ob, soundV t = (oa, ob) := ⟨_, _, rfl⟩
  have hval := valid_sound t
  rw [hso] at hval HS
  obtain ⟨D, hD⟩ : ∃ D, depthN 10000 t = D := ⟨_, rfl⟩
  rw [hD] at hval hC
  have HC := hid hC
  clear hf hv hD hso hC
  by_cases h32 : 32 < D
  · have d1 : (32 : Int) < (D : Int) := by omega
    rw [if_pos h32] at hval
    rw [hval]
    clear hval h32
    go_enter Tryz.func14, Tryz.ntmps14
    go_wp2_with (go_at_call 16; (with_reducible refine HC.out.mono ?_); rintro e w1 ⟨rfl, hb⟩; have HB1 := hid hb; obtain ⟨x0, x1, x2, x3, x4, x5, x6, _⟩ := seven (keep7 HX0.out hb); clear hb)
    go_ret
    exact ⟨rfl, below_out HB0.out HB1.out⟩
  · have d1 : ¬ (32 : Int) < (D : Int) := by omega
    rw [if_neg h32] at hval
    rw [hval]
    clear hval h32
    cases oa with
    | false =>
      go_enter Tryz.func14, Tryz.ntmps14
      go_wp2_with (first | (go_at_call 16; (with_reducible refine HC.out.mono ?_); rintro e w1 ⟨rfl, hb⟩; have HB1 := hid hb; obtain ⟨x0, x1, x2, x3, x4, x5, x6, _⟩ := seven (keep7 HX0.out hb); clear hb) | (go_at_call 26; (with_reducible refine (HS.out _ HB1.out).mono ?_); rintro e w2 ⟨rfl, hb⟩; have HB2 := hid (HB1.out.trans (hb.mono HB1.out.size)); clear hb))
      go_ret
      exact ⟨rfl, below_out HB0.out HB2.out⟩
    | true =>
      cases ob with
      | false =>
        go_enter Tryz.func14, Tryz.ntmps14
        go_wp2_with (first | (go_at_call 16; (with_reducible refine HC.out.mono ?_); rintro e w1 ⟨rfl, hb⟩; have HB1 := hid hb; obtain ⟨x0, x1, x2, x3, x4, x5, x6, _⟩ := seven (keep7 HX0.out hb); clear hb) | (go_at_call 26; (with_reducible refine (HS.out _ HB1.out).mono ?_); rintro e w2 ⟨rfl, hb⟩; have HB2 := hid (HB1.out.trans (hb.mono HB1.out.size)); clear hb))
        go_ret
        exact ⟨rfl, below_out HB0.out HB2.out⟩
      | true =>
        go_enter Tryz.func14, Tryz.ntmps14
        go_wp2_with (first | (go_at_call 16; (with_reducible refine HC.out.mono ?_); rintro e w1 ⟨rfl, hb⟩; have HB1 := hid hb; obtain ⟨x0, x1, x2, x3, x4, x5, x6, _⟩ := seven (keep7 HX0.out hb); clear hb) | (go_at_call 26; (with_reducible refine (HS.out _ HB1.out).mono ?_); rintro e w2 ⟨rfl, hb⟩; have HB2 := hid (HB1.out.trans (hb.mono HB1.out.size)); clear hb))
        go_ret
        exact ⟨rfl, below_out HB0.out HB2.out⟩
end Go.Proofs.YtkoeihliaandeaaGreatDoor
