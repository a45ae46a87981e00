/- For every framing, bound and all pieces the law BodyFeeds returns true and leaves its arguments as they were; the listed tables of Go's library and errors.errorType are tied to the program's text (the tie is given). -/
import Derived.Test.YtnlmjlfoeodleaaGreatDoorRows
import Derived.Test.YtnlmjlfoeodleaaGreatDoorCards
import Derived.Test.YtnlmjlfoeodleaaGreatDoorTie
import Derived.Test.YtnlmjlfoeodleaaGreatDoorLFy
import Derived.Test.YtnlmjlfoeodleaaGreatDoorLFn
import Derived.Shelf.Vars
import Derived.ProofKit
import Derived.LaidMore
import Derived.LaidHandle
import Derived.OpenShut
import Derived.ShutString
import Derived.ChangeOld
import Derived.Stop.Joined
import Derived.Stop.LaidErr
import Derived.Deep.DeepHandedRow
import Derived.Deep.DeepWitnessRowRef
import Derived.SevenTiedAt
import Derived.ChangeArms
namespace Go.Proofs.YtnlmjlfoeodleaaGreatDoor.BodyFeeds
open Go.ChangeShapes Go.WideShapes Go.ChangeAt Go.RowKit
open Go.ChangeMaps (open_string shut_string)

theorem bfeeds_any (K N m : Int) (h9 : m ≤ 9223372036854775807) (ls : List B) (p : Option Addr) (n c : Nat) (E : Bool) (hn : ls.length = n) (hnn : n ≤ 140737488355328) (w : World) (hP : PcsX w p ls) (hE : EnvP w) (hEe : EnvE w) :
    Calls Tryz.prog 3 #[.agg #[.int .i64 K, .int .i64 N, .int .i64 m, .slice p n c, .bool E]] w fun e w' => e = .returned (.bool true) ∧ Below w.heap.size w w' := by
  by_cases h0 : newE K N m = 0
  · exact bfeeds_y K N m h9 ls p n c E hn hnn w hP hE hEe h0
  · exact bfeeds_n K N m h9 p n c E w hE hEe h0

theorem laidOut : laidOutB Tryz.prog = true := by kernel_rfl
theorem own : ownKnob Tryz.prog.godebug = none := by kernel_rfl
set_option maxRecDepth 100000 in
theorem envBodyFeeds {W : World} (h : laidMetH Tryz.prog Rows.bodyFeedsRow.laid W) : EnvE W ∧ EnvP W := by
  have h' : laidMet Tryz.prog [("math/bits.deBruijn32tab", Rows.laid_math_bits_deBruijn32tab), ("math/bits.deBruijn64tab", Rows.laid_math_bits_deBruijn64tab), ("internal/strconv.uint64pow10", Rows.laid_internal_strconv_uint64pow10)] W ∧ handlesMet Tryz.prog [("errors.errorType", Rows.laid_errors_errorType)] W := h
  exact ⟨env_of h'.2, env_pow h'.1.tail.tail⟩
theorem doorBodyFeeds (os : Os) (args : Array Value) : laidMetH Tryz.prog Rows.bodyFeedsRow.laid ((World.doorLaid Tryz.prog 400 os).forCall (fun _ _ => 0) ⟨#[], args, []⟩).memory :=
  laidMetH_of_parts3 (fuel := 8) (laidMet_of_run' 8 (by kernel_rfl) (by kernel_rfl)) (by kernel_rfl) (by kernel_rfl)
set_option maxRecDepth 100000 in
theorem liftedBodyFeeds (os : Os) (started : os.Started) (H : Type) (enc : TypeId × Value → H) :
    ReturnsInHanded {} Tryz.checked os 3 .any (fun w args => (Rows.bodyFeedsSpec.pre enc Tryz.prog Tryz.f3 [] false w args ∧ laidMetH Tryz.prog Rows.bodyFeedsRow.laid w) ∧ sizedMet enc Tryz.prog Tryz.f3 (OpenSpec.ofChange Rows.bodyFeedsSpec) false w args)
      (Rows.bodyFeedsSpec.post enc Tryz.prog Tryz.f3 false true false false) := by
  refine returnsInHanded_of_change_and (C := Tryz.checked) (X := fun w _ => laidMetH Tryz.prog Rows.bodyFeedsRow.laid w) (fun _ _ _ hh h => h.of_heap hh) own started (by kernel_rfl) Tryz.func3
    (ChangeSpec.witness_shaped (enc := enc) (C := Tryz.checked) (os := os) (X := fun w _ => laidMetH Tryz.prog Rows.bodyFeedsRow.laid w) false (World.doorLaid Tryz.prog 400 os) #[.agg #[.int .i64 0, .int .i64 0, .int .i64 0, .slice none 0 0, .bool false]] 8 rfl (World.shaped_of_RefB (by kernel_rfl) (by kernel_rfl)) (by kernel_rfl) (by kernel_rfl) (by kernel_rfl) (doorBodyFeeds os _)) ?_
  intro W base args ds gs before hval0 hW _ hwt hL _
  have hval : ∀ (j : Nat) t v, Tryz.f3.params[j]? = some t → args[j]? = some v → Value.okWide Tryz.prog W .any base t v := hval0
  have hW' := hW
  obtain ⟨p, q, hA0, hV, rfl, hfz, hnd⟩ := hW
  have hA : DataW.TrodAll enc Tryz.prog W 0 (fun _ => true) true Tryz.f3.params.toList args.toList ds p := hA0
  have hwt' : (DataW.weightsEach Tryz.prog (Tryz.f3.params.toList ++ Rows.bodyFeedsSpec.plain.varTypes Tryz.prog) (ds ++ gs)).all (· ≤ reachBytes) = true := hwt
  rw [Tryz.params3] at hA hval hwt'
  obtain ⟨v0, d0, rfl, rfl, h0⟩ := trodAll_one hA
  obtain ⟨rfl, rfl⟩ := trodVars_none hV
  have hlt0 : ∀ x ∈ p, x.block < W.heap.size := fun x hx => hW'.lt x (by simp [hx])
  have hw0 : ∀ x ∈ d0.weights Tryz.prog 26, x ≤ reachBytes := by
    intro x hx
    have := List.all_eq_true.1 hwt' x (by simp [DataW.weightsEach, hx])
    simpa using this
  obtain ⟨xs, rfl, _⟩ := okWide_struct Tryz.underlying26 (hval 0 26 v0 rfl rfl)
  obtain ⟨fuel, hd⟩ := h0
  have hd2 : DataW.trod enc Tryz.prog W 0 (fun _ => true) true fuel 26 xs.toList = some (d0, p) := hd
  obtain ⟨K, N, m, ls, pp, n, c, E, hxs, hm, hn, hP, hnn⟩ := open_fed fuel _ _ hd2 hw0
  clear hA0 hval0 hwt hwt'
  have hcall := bfeeds_any K N m hm ls pp n c E hn hnn W hP (envBodyFeeds hL).2 (envBodyFeeds hL).1
  rw [show (#[.int .i64 K, .int .i64 N, .int .i64 m, .slice pp n c, .bool E] : Array Value) = xs from by rw [← Array.toArray_toList (xs := xs), hxs]] at hcall
  refine hcall.mono fun e W' ⟨he, bel⟩ => ?_
  subst he
  exact ⟨_, rfl, _, _, _, [], _, [], hW', trodAll_mk1 (shut_bool Tryz.underlying4 _), trodAll_mk1 (Below.trod laidOut (by kernel_rfl) (of_decide_eq_true (by kernel_rfl)) ⟨fuel, hd⟩ bel hlt0), rfl, bel.frame _, fun h => by cases h⟩
theorem rowBodyFeeds_holds : Rows.BodyFeedsSaid :=
  OpenClaim.holds_of_wide 3 Tryz.f3 rfl rfl rfl rfl rfl rfl rfl ⟨rfl, rfl, rfl, rfl, rfl⟩ rfl rfl rfl rfl rfl (by kernel_rfl) Tryz.func3 (by kernel_rfl)
    (of_decide_eq_true (by kernel_rfl)) (by unfold Func.isWrapper; first | (rw [if_pos (by decide +kernel)]; kernel_rfl) | (rw [if_neg (by decide +kernel)]; exact ⟨rfl, rfl⟩))
    (fun os started H enc _ => liftedBodyFeeds os started H enc)
end Go.Proofs.YtnlmjlfoeodleaaGreatDoor.BodyFeeds
namespace Go.Proofs.YtnlmjlfoeodleaaGreatDoor
theorem bodyFeeds_holds : Rows.BodyFeedsCardSaid :=
  Claim7.holds_tied_plain_at .later [] _ _ _ _
    BodyFeeds.rowBodyFeeds_holds (fun _ h => by cases h) (by kernel_rfl) (fun _ h => by cases h) bodyFeeds_row_tie rfl ⟨rfl, rfl⟩ (by kernel_rfl) rfl
    (fun f fn hf hfn => by
      obtain rfl : f = 3 := Option.some.inj ((show Tryz.prog.funcNamed "turnstile/turnstilelaw13.BodyFeeds" = some 3 by kernel_rfl).symm.trans hf) |>.symm
      obtain rfl : fn = Tryz.f3 := (Option.some.inj (Tryz.func3.symm.trans hfn)).symm
      exact ⟨by kernel_rfl, fun j t ht => by
        rw [Tryz.params3] at ht
        have hm : t ∈ [26] := by simpa using Array.mem_of_getElem? ht
        have hall : ([26].all fun u => !Tryz.prog.wantsStandIn u) = true := by kernel_rfl
        exact (show Tryz.prog.wantsStandIn t = false by simpa using List.all_eq_true.1 hall t hm)⟩)
    (by kernel_rfl)
#print axioms bodyFeeds_holds
end Go.Proofs.YtnlmjlfoeodleaaGreatDoor
