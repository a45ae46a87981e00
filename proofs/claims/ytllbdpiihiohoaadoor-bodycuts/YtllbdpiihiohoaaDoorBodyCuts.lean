/- For every framing, all bytes and wherever they are cut the law BodyCuts returns true and leaves its arguments as they were; the listed tables of Go's library and errors.errorType are tied to the program's text (the tie is given). -/
import Derived.Test.YtllbdpiihiohoaaDoorRows
import Derived.Test.YtllbdpiihiohoaaDoorCards
import Derived.Test.YtllbdpiihiohoaaDoorTie
import Derived.Test.YtllbdpiihiohoaaDoorLCt
import Derived.Test.YtllbdpiihiohoaaDoorBOpen
import Derived.Shelf.Vars
import Derived.ProofKit
import Derived.LaidMore
import Derived.LaidHandle
import Derived.OpenShut
import Derived.ShutString
import Derived.ChangeOld
import Derived.Stop.Joined
import Derived.Stop.LaidErr
import Derived.Deep.DeepHandedRow
import Derived.Deep.DeepWitnessRowRef
import Derived.SevenTiedAt
import Derived.ChangeArms
namespace Go.Proofs.YtllbdpiihiohoaaDoor.BodyCuts
open Go.ChangeShapes Go.WideShapes Go.ChangeAt Go.RowKit
open Go.ChangeMaps (open_string shut_string)

theorem laidOut : laidOutB Tryd.prog = true := by kernel_rfl
theorem own : ownKnob Tryd.prog.godebug = none := by kernel_rfl
set_option maxRecDepth 100000 in
theorem envBodyCuts {W : World} (h : laidMetH Tryd.prog Rows.bodyCutsRow.laid W) : EnvE W ∧ EnvP W := by
  have h' : laidMet Tryd.prog [("math/bits.deBruijn32tab", Rows.laid_math_bits_deBruijn32tab), ("math/bits.deBruijn64tab", Rows.laid_math_bits_deBruijn64tab), ("internal/strconv.uint64pow10", Rows.laid_internal_strconv_uint64pow10)] W ∧ handlesMet Tryd.prog [("errors.errorType", Rows.laid_errors_errorType)] W := h
  exact ⟨env_of h'.2, env_pow h'.1.tail.tail⟩
theorem doorBodyCuts (os : Os) (args : Array Value) : laidMetH Tryd.prog Rows.bodyCutsRow.laid ((World.doorLaid Tryd.prog 400 os).forCall (fun _ _ => 0) ⟨#[], args, []⟩).memory :=
  laidMetH_of_parts3 (fuel := 8) (laidMet_of_run' 8 (by kernel_rfl) (by kernel_rfl)) (by kernel_rfl) (by kernel_rfl)
set_option maxRecDepth 100000 in
theorem liftedBodyCuts (os : Os) (started : os.Started) (H : Type) (enc : TypeId × Value → H) :
    ReturnsInHanded {} Tryd.checked os 3 .any (fun w args => (Rows.bodyCutsSpec.pre enc Tryd.prog Tryd.f3 [] false w args ∧ laidMetH Tryd.prog Rows.bodyCutsRow.laid w) ∧ sizedMet enc Tryd.prog Tryd.f3 (OpenSpec.ofChange Rows.bodyCutsSpec) false w args)
      (Rows.bodyCutsSpec.post enc Tryd.prog Tryd.f3 false true false false) := by
  refine returnsInHanded_of_change_and (C := Tryd.checked) (X := fun w _ => laidMetH Tryd.prog Rows.bodyCutsRow.laid w) (fun _ _ _ hh h => h.of_heap hh) own started (by kernel_rfl) Tryd.func3
    (ChangeSpec.witness_shaped (enc := enc) (C := Tryd.checked) (os := os) (X := fun w _ => laidMetH Tryd.prog Rows.bodyCutsRow.laid w) false (World.doorLaid Tryd.prog 400 os) #[.agg #[.int .i64 0, .int .i64 0], .slice none 0 0, .int .i64 0] 8 rfl (World.shaped_of_RefB (by kernel_rfl) (by kernel_rfl)) (by kernel_rfl) (by kernel_rfl) (by kernel_rfl) (doorBodyCuts os _)) ?_
  intro W base args ds gs before hval0 hW _ hwt hL _
  have hval : ∀ (j : Nat) t v, Tryd.f3.params[j]? = some t → args[j]? = some v → Value.okWide Tryd.prog W .any base t v := hval0
  have hW' := hW
  obtain ⟨p, q, hA0, hV, rfl, hfz, hnd⟩ := hW
  have hA : DataW.TrodAll enc Tryd.prog W 0 (fun _ => true) true Tryd.f3.params.toList args.toList ds p := hA0
  have hwt' : (DataW.weightsEach Tryd.prog (Tryd.f3.params.toList ++ Rows.bodyCutsSpec.plain.varTypes Tryd.prog) (ds ++ gs)).all (· ≤ reachBytes) = true := hwt
  rw [Tryd.params3] at hA hval hwt'
  obtain ⟨v0, v1, v2, d0, d1, d2, p0, p1, p2, rfl, rfl, rfl, h0, h1, h2⟩ := trodAll_three hA
  obtain ⟨rfl, rfl⟩ := trodVars_none hV
  have hlt0 : ∀ x ∈ p0, x.block < W.heap.size := fun x hx => hW'.lt x (by simp [hx])
  obtain ⟨ys, rfl, _⟩ := okWide_struct Tryd.underlying23 (hval 0 23 v0 rfl rfl)
  obtain ⟨fuel0, hd0⟩ := h0
  have hd0' : DataW.trod enc Tryd.prog W 0 (fun _ => true) true fuel0 23 ys.toList = some (d0, p0) := hd0
  obtain ⟨K, N, hvf, _⟩ := open_frame fuel0 _ _ hd0'
  have hys : (#[.int .i64 K, .int .i64 N] : Array Value) = ys := by rw [← Array.toArray_toList (xs := ys), hvf]
  have hlt1 : ∀ x ∈ p1, x.block < W.heap.size := fun x hx => hW'.lt x (by simp [hx])
  obtain ⟨pa1, len1, cap1, rfl⟩ := okWide_slice Tryd.underlying24 (hval 1 24 v1 rfl rfl)
  obtain ⟨fuel1, hd1⟩ := h1
  have hd1' : DataW.trod enc Tryd.prog W 0 (fun _ => true) true fuel1 24 [.slice pa1 len1 cap1] = some (d1, p1) := hd1
  obtain ⟨L, pp, cc, hv, hSl, hArg, hbk⟩ := open_bytesX rfl fuel1 _ _ hd1'
  obtain ⟨rfl, rfl, rfl⟩ : pa1 = pp ∧ len1 = L.length ∧ cap1 = cc := by simpa using hv
  obtain ⟨k2, rfl, rfl, rfl, hk2⟩ := open_int Tryd.underlying3 (hval 2 3 v2 rfl rfl) h2
  have hw1 : ∀ x ∈ d1.weights Tryd.prog 24, x ≤ reachBytes := by
    intro x hx
    have := List.all_eq_true.1 hwt' x (by simp [DataW.weightsEach, hx])
    simpa using this
  have hlen := open_len hd1' hw1
  clear hA0 hval0 hwt hwt' hbk
  subst hys
  have hcall := bcuts_any K N L pa1 L.length cap1 k2 hSl hlen W hArg (envBodyCuts hL).2 (envBodyCuts hL).1
  refine hcall.mono fun e W' ⟨he, bel⟩ => ?_
  subst he
  exact ⟨_, rfl, _, _, _, [], _, [], hW', trodAll_mk1 (shut_bool Tryd.underlying4 _),
    trodAll_mk3 (Below.trod laidOut (by kernel_rfl) (of_decide_eq_true (by kernel_rfl)) ⟨fuel0, hd0⟩ bel hlt0) (Below.trod laidOut (by kernel_rfl) (of_decide_eq_true (by kernel_rfl)) ⟨fuel1, hd1⟩ bel hlt1) (shut_int Tryd.underlying3 hk2),
    rfl, bel.frame _, fun h => by cases h⟩
theorem rowBodyCuts_holds : Rows.BodyCutsSaid :=
  OpenClaim.holds_of_wide 3 Tryd.f3 rfl rfl rfl rfl rfl rfl rfl ⟨rfl, rfl, rfl, rfl, rfl⟩ rfl rfl rfl rfl rfl (by kernel_rfl) Tryd.func3 (by kernel_rfl)
    (of_decide_eq_true (by kernel_rfl)) (by unfold Func.isWrapper; first | (rw [if_pos (by decide +kernel)]; kernel_rfl) | (rw [if_neg (by decide +kernel)]; exact ⟨rfl, rfl⟩))
    (fun os started H enc _ => liftedBodyCuts os started H enc)
end Go.Proofs.YtllbdpiihiohoaaDoor.BodyCuts
namespace Go.Proofs.YtllbdpiihiohoaaDoor
theorem bodyCuts_holds : Rows.BodyCutsCardSaid :=
  Claim7.holds_tied_plain_at .later [] _ _ _ _
    BodyCuts.rowBodyCuts_holds (fun _ h => by cases h) (by kernel_rfl) (fun _ h => by cases h) bodyCuts_row_tie rfl ⟨rfl, rfl⟩ (by kernel_rfl) rfl
    (fun f fn hf hfn => by
      obtain rfl : f = 3 := Option.some.inj ((show Tryd.prog.funcNamed "turnstile/turnstilelaw13.BodyCuts" = some 3 by kernel_rfl).symm.trans hf) |>.symm
      obtain rfl : fn = Tryd.f3 := (Option.some.inj (Tryd.func3.symm.trans hfn)).symm
      exact ⟨by kernel_rfl, fun j t ht => by
        rw [Tryd.params3] at ht
        have hm : t ∈ [23, 24, 3] := by simpa using Array.mem_of_getElem? ht
        have hall : ([23, 24, 3].all fun u => !Tryd.prog.wantsStandIn u) = true := by kernel_rfl
        exact (show Tryd.prog.wantsStandIn t = false by simpa using List.all_eq_true.1 hall t hm)⟩)
    (by kernel_rfl)
#print axioms bodyCuts_holds
end Go.Proofs.YtllbdpiihiohoaaDoor
