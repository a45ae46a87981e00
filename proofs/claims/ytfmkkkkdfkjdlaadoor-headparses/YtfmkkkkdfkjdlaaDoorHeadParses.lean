/- For all bytes and every bound the law HeadParses returns true and leaves its arguments as they were; errors.errorType is tied to the program's text (the tie is given). -/
import Derived.Test.YtfmkkkkdfkjdlaaDoorRows
import Derived.Test.YtfmkkkkdfkjdlaaDoorCards
import Derived.Test.YtfmkkkkdfkjdlaaDoorTie
import Derived.Test.YtfmkkkkdfkjdlaaDoorLParses
import Derived.Test.YtfmkkkkdfkjdlaaDoorOpenB
import Derived.Test.YtfmkkkkdfkjdlaaDoorLaid
import Derived.Shelf.Vars
import Derived.ProofKit
import Derived.LaidMore
import Derived.LaidHandle
import Derived.OpenShut
import Derived.ShutString
import Derived.ChangeOld
import Derived.Stop.Joined
import Derived.Stop.LaidErr
import Derived.Deep.DeepHandedRow
import Derived.Deep.DeepWitnessRowRef
import Derived.SevenTiedAt
import Derived.ChangeArms
namespace Go.Proofs.YtfmkkkkdfkjdlaaDoor.HeadParses
open Go.ChangeShapes Go.WideShapes Go.ChangeAt Go.RowKit
open Go.ChangeMaps (open_string shut_string)

theorem laidOut : laidOutB Tryd.prog = true := by kernel_rfl
theorem own : ownKnob Tryd.prog.godebug = none := by kernel_rfl
theorem doorP (os : Os) (args : Array Value) : laidMetH Tryd.prog Rows.headParsesRow.laid ((World.doorLaid Tryd.prog 400 os).forCall (fun _ _ => 0) ⟨#[], args, []⟩).memory :=
  laidMetH_of_parts3 (fuel := 8) (laidMet_of_run' 8 (by kernel_rfl) (by kernel_rfl)) (by kernel_rfl) (by kernel_rfl)
theorem envP {W : World} (h : laidMetH Tryd.prog Rows.headParsesRow.laid W) : EnvE W := by
  have h' : laidMet Tryd.prog [] W ∧ handlesMet Tryd.prog [("errors.errorType", Rows.laid_errors_errorType)] W := h
  exact env_of h'.2
theorem bytesU : Tryd.prog.bytesOf 5 = 1 := by kernel_rfl
theorem bytes_bound {H : Type} {enc : TypeId × Value → H} {W : World} {fuel len cap : Nat} {p : Option Addr} {x : DataW H × List MemPlace} (h : DataW.trod enc Tryd.prog W 0 (fun _ => true) true fuel 22 [.slice p len cap] = some x) (hw : ∀ z ∈ x.1.weights Tryd.prog 22, z ≤ reachBytes) : len ≤ 140737488355328 := by
  rcases DataW.trod_slice Tryd.underlying22 h with ⟨e, rfl⟩ | ⟨a, len2, cap2, elems, rest, n2, rfl, e, rfl, _, hcp, _, hlen, hel, _, _⟩
  · simp only [List.cons.injEq, and_true] at e
    cases e
    exact Nat.zero_le _
  · simp only [List.cons.injEq, and_true] at e
    cases e
    have hl := hw ((elems.length + rest.length) * Tryd.prog.bytesOf 5) (by
      simp only [DataW.weights, Tryd.underlying22, List.mem_cons, List.length_map]
      exact .inl trivial)
    rw [bytesU] at hl
    have : (elems.length + rest.length) * 1 ≤ 140737488355328 := Nat.le_trans hl (by decide)
    omega
set_option maxRecDepth 100000 in
theorem liftedP (os : Os) (started : os.Started) (H : Type) (enc : TypeId × Value → H) :
    ReturnsInHanded {} Tryd.checked os 3 .any (fun w args => (Rows.headParsesSpec.pre enc Tryd.prog Tryd.f3 [] false w args ∧ laidMetH Tryd.prog Rows.headParsesRow.laid w) ∧ sizedMet enc Tryd.prog Tryd.f3 (OpenSpec.ofChange Rows.headParsesSpec) false w args)
      (Rows.headParsesSpec.post enc Tryd.prog Tryd.f3 false true false false) := by
  refine returnsInHanded_of_change_and (C := Tryd.checked) (X := fun w _ => laidMetH Tryd.prog Rows.headParsesRow.laid w) (fun _ _ _ hh h => h.of_heap hh) own started (by kernel_rfl) Tryd.func3
    (ChangeSpec.witness_shaped (enc := enc) (C := Tryd.checked) (os := os) (X := fun w _ => laidMetH Tryd.prog Rows.headParsesRow.laid w) false (World.doorLaid Tryd.prog 400 os) #[.slice none 0 0, .int .i64 0] 8 rfl (World.shaped_of_RefB (by kernel_rfl) (by kernel_rfl)) (by kernel_rfl) (by kernel_rfl) (by kernel_rfl) (doorP os _)) ?_
  intro W base args ds gs before hval0 hW _ hwt hL _
  have hval : ∀ (j : Nat) t v, Tryd.f3.params[j]? = some t → args[j]? = some v → Value.okWide Tryd.prog W .any base t v := hval0
  have hW' := hW
  obtain ⟨p, q, hA0, hV, rfl, hfz, hnd⟩ := hW
  have hA : DataW.TrodAll enc Tryd.prog W 0 (fun _ => true) true Tryd.f3.params.toList args.toList ds p := hA0
  have hwt' : (DataW.weightsEach Tryd.prog (Tryd.f3.params.toList ++ Rows.headParsesSpec.plain.varTypes Tryd.prog) (ds ++ gs)).all (· ≤ reachBytes) = true := hwt
  rw [Tryd.params3] at hA hval hwt'
  obtain ⟨v0, v1, d0, d1, p0, p1, rfl, rfl, rfl, h0, h1⟩ := trodAll_two hA
  obtain ⟨rfl, rfl⟩ := trodVars_none hV
  have hlt0 : ∀ x ∈ p0, x.block < W.heap.size := fun x hx => hW'.lt x (by simp [hx])
  have hw0 : ∀ x ∈ d0.weights Tryd.prog 22, x ≤ reachBytes := by
    intro x hx
    have := List.all_eq_true.1 hwt' x (by simp [DataW.weightsEach, hx])
    simpa using this
  obtain ⟨pa, len0, cap0, rfl⟩ := okWide_slice Tryd.underlying22 (hval 0 22 v0 rfl rfl)
  obtain ⟨k, rfl, rfl, rfl, hkw⟩ := open_int Tryd.underlying3 (hval 1 3 v1 rfl rfl) h1
  obtain ⟨fuel, hd⟩ := h0
  have hd2 : DataW.trod enc Tryd.prog W 0 (fun _ => true) true fuel 22 [.slice pa len0 cap0] = some (d0, p0) := hd
  have hlen := bytes_bound hd2 hw0
  obtain ⟨B0, pp, cc, hv, hp, hArg⟩ := open_bytes fuel _ _ hd2
  clear hA0 hval0 hwt hwt'
  have hB : B0.length ≤ 140737488355328 := by
    simp only [Value.slice.injEq] at hv
    omega
  rw [hv]
  refine (parses_walk B0 pp B0.length cc k W rfl hArg hB (envP hL)).mono fun e W' ⟨he, bel⟩ => ?_
  subst he
  rw [hv] at hW' hd
  exact ⟨_, rfl, _, _, _, [], _, [], hW', trodAll_mk1 (shut_bool Tryd.underlying4 _), trodAll_mk2 (Below.trod laidOut (by kernel_rfl) (of_decide_eq_true (by kernel_rfl)) ⟨fuel, hd⟩ bel hlt0) (shut_int Tryd.underlying3 hkw), rfl, bel.frame _, fun h => by cases h⟩
theorem rowP_holds : Rows.HeadParsesSaid :=
  OpenClaim.holds_of_wide 3 Tryd.f3 rfl rfl rfl rfl rfl rfl rfl ⟨rfl, rfl, rfl, rfl, rfl⟩ rfl rfl rfl rfl rfl (by kernel_rfl) Tryd.func3 (by kernel_rfl)
    (of_decide_eq_true (by kernel_rfl)) (by unfold Func.isWrapper; first | (rw [if_pos (by decide +kernel)]; kernel_rfl) | (rw [if_neg (by decide +kernel)]; exact ⟨rfl, rfl⟩))
    (fun os started H enc _ => liftedP os started H enc)
end Go.Proofs.YtfmkkkkdfkjdlaaDoor.HeadParses
namespace Go.Proofs.YtfmkkkkdfkjdlaaDoor
theorem headParses_holds : Rows.HeadParsesCardSaid :=
  Claim7.holds_tied_plain_at .later [] _ _ _ _
    HeadParses.rowP_holds (fun _ h => by cases h) (by kernel_rfl) (fun _ h => by cases h) headParses_row_tie rfl ⟨rfl, rfl⟩ (by kernel_rfl) rfl
    (fun f fn hf hfn => by
      obtain rfl : f = 3 := Option.some.inj ((show Tryd.prog.funcNamed "turnstile/turnstilelaw09.HeadParses" = some 3 by kernel_rfl).symm.trans hf) |>.symm
      obtain rfl : fn = Tryd.f3 := (Option.some.inj (Tryd.func3.symm.trans hfn)).symm
      exact ⟨by kernel_rfl, fun j t ht => by
        rw [Tryd.params3] at ht
        have hm : t ∈ [22, 3] := by simpa using Array.mem_of_getElem? ht
        have hall : ([22, 3].all fun u => !Tryd.prog.wantsStandIn u) = true := by kernel_rfl
        exact (show Tryd.prog.wantsStandIn t = false by simpa using List.all_eq_true.1 hall t hm)⟩)
    (by kernel_rfl)
#print axioms headParses_holds
end Go.Proofs.YtfmkkkkdfkjdlaaDoor
