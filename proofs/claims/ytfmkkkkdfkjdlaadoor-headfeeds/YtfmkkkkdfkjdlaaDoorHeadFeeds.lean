/- For all pieces, every bound and both kinds the law HeadFeeds returns true and leaves its arguments as they were; errors.errorType is tied to the program's text (the tie is given). -/
import Derived.Test.YtfmkkkkdfkjdlaaDoorRows
import Derived.Test.YtfmkkkkdfkjdlaaDoorCards
import Derived.Test.YtfmkkkkdfkjdlaaDoorTie
import Derived.Test.YtfmkkkkdfkjdlaaDoorLFeeds
import Derived.Test.YtfmkkkkdfkjdlaaDoorOpenP
import Derived.Test.YtfmkkkkdfkjdlaaDoorLaid
import Derived.Shelf.Vars
import Derived.ProofKit
import Derived.LaidMore
import Derived.LaidHandle
import Derived.OpenShut
import Derived.ShutString
import Derived.ChangeOld
import Derived.Stop.Joined
import Derived.Stop.LaidErr
import Derived.Deep.DeepHandedRow
import Derived.Deep.DeepWitnessRowRef
import Derived.SevenTiedAt
import Derived.ChangeArms
namespace Go.Proofs.YtfmkkkkdfkjdlaaDoor.HeadFeeds
open Go.ChangeShapes Go.WideShapes Go.ChangeAt Go.RowKit
open Go.ChangeMaps (open_string shut_string)

theorem laidOut : laidOutB Tryd.prog = true := by kernel_rfl
theorem own : ownKnob Tryd.prog.godebug = none := by kernel_rfl
theorem doorP (os : Os) (args : Array Value) : laidMetH Tryd.prog Rows.headFeedsRow.laid ((World.doorLaid Tryd.prog 400 os).forCall (fun _ _ => 0) ⟨#[], args, []⟩).memory :=
  laidMetH_of_parts3 (fuel := 8) (laidMet_of_run' 8 (by kernel_rfl) (by kernel_rfl)) (by kernel_rfl) (by kernel_rfl)
theorem envP {W : World} (h : laidMetH Tryd.prog Rows.headFeedsRow.laid W) : EnvE W := by
  have h' : laidMet Tryd.prog [] W ∧ handlesMet Tryd.prog [("errors.errorType", Rows.laid_errors_errorType)] W := h
  exact env_of h'.2
theorem three_toList {xs : Array Value} {a b c : Value} (h : xs.toList = [a, b, c]) : (#[a, b, c] : Array Value) = xs := by rw [← Array.toArray_toList (xs := xs), h]
set_option maxRecDepth 100000 in
theorem liftedP (os : Os) (started : os.Started) (H : Type) (enc : TypeId × Value → H) :
    ReturnsInHanded {} Tryd.checked os 4 .any (fun w args => (Rows.headFeedsSpec.pre enc Tryd.prog Tryd.f4 [] false w args ∧ laidMetH Tryd.prog Rows.headFeedsRow.laid w) ∧ sizedMet enc Tryd.prog Tryd.f4 (OpenSpec.ofChange Rows.headFeedsSpec) false w args)
      (Rows.headFeedsSpec.post enc Tryd.prog Tryd.f4 false true false false) := by
  refine returnsInHanded_of_change_and (C := Tryd.checked) (X := fun w _ => laidMetH Tryd.prog Rows.headFeedsRow.laid w) (fun _ _ _ hh h => h.of_heap hh) own started (by kernel_rfl) Tryd.func4
    (ChangeSpec.witness_shaped (enc := enc) (C := Tryd.checked) (os := os) (X := fun w _ => laidMetH Tryd.prog Rows.headFeedsRow.laid w) false (World.doorLaid Tryd.prog 400 os) #[.agg #[.bool false, .int .i64 0, .slice none 0 0]] 8 rfl (World.shaped_of_RefB (by kernel_rfl) (by kernel_rfl)) (by kernel_rfl) (by kernel_rfl) (by kernel_rfl) (doorP os _)) ?_
  intro W base args ds gs before hval0 hW _ hwt hL _
  have hval : ∀ (j : Nat) t v, Tryd.f4.params[j]? = some t → args[j]? = some v → Value.okWide Tryd.prog W .any base t v := hval0
  have hW' := hW
  obtain ⟨p, q, hA0, hV, rfl, hfz, hnd⟩ := hW
  have hA : DataW.TrodAll enc Tryd.prog W 0 (fun _ => true) true Tryd.f4.params.toList args.toList ds p := hA0
  have hwt' : (DataW.weightsEach Tryd.prog (Tryd.f4.params.toList ++ Rows.headFeedsSpec.plain.varTypes Tryd.prog) (ds ++ gs)).all (· ≤ reachBytes) = true := hwt
  rw [Tryd.params4] at hA hval hwt'
  obtain ⟨v0, d0, rfl, rfl, h0⟩ := trodAll_one hA
  obtain ⟨rfl, rfl⟩ := trodVars_none hV
  have hlt0 : ∀ x ∈ p, x.block < W.heap.size := fun x hx => hW'.lt x (by simp [hx])
  have hw0 : ∀ x ∈ d0.weights Tryd.prog 50, x ≤ reachBytes := by
    intro x hx
    have := List.all_eq_true.1 hwt' x (by simp [DataW.weightsEach, hx])
    simpa using this
  obtain ⟨xs, rfl, _⟩ := okWide_struct Tryd.underlying50 (hval 0 50 v0 rfl rfl)
  obtain ⟨fuel, hd⟩ := h0
  have hd2 : DataW.trod enc Tryd.prog W 0 (fun _ => true) true fuel 50 xs.toList = some (d0, p) := hd
  obtain ⟨y0, y1, y2, n', hx, hl, t0, t1, t2⟩ := Go.Deep.trod_struct3 Tryd.underlying50 hd2
  have cf : Tryd.prog.cellsOf 50 = 3 := by kernel_rfl
  have cb : Tryd.prog.cellsOf 4 = 1 := by kernel_rfl
  have ci : Tryd.prog.cellsOf 3 = 1 := by kernel_rfl
  have cp : Tryd.prog.cellsOf 48 = 1 := by kernel_rfl
  rw [cf] at hl
  obtain ⟨x0, x1, x2, hxs⟩ : ∃ x0 x1 x2, xs.toList = [x0, x1, x2] := by
    obtain ⟨zs, hz⟩ : ∃ zs, xs.toList = zs := ⟨_, rfl⟩
    rw [hz] at hl
    rcases zs with _ | ⟨x0, _ | ⟨x1, _ | ⟨x2, _ | ⟨x3, r⟩⟩⟩⟩ <;> simp at hl
    exact ⟨x0, x1, x2, hz⟩
  rw [hxs] at t0 t1 t2
  have t0' : DataW.trod enc Tryd.prog W 0 (fun _ => true) true n' 4 [x0] = some y0 := by simpa [cb] using t0
  have t1' : DataW.trod enc Tryd.prog W 0 (fun _ => true) true n' 3 [x1] = some y1 := by simpa [ci] using t1
  have t2' : DataW.trod enc Tryd.prog W 0 (fun _ => true) true n' 48 [x2] = some y2 := by simpa [cp] using t2
  obtain ⟨r, e0, _⟩ := DataW.trod_bool Tryd.underlying4 t0'
  obtain ⟨k, e1, _⟩ := DataW.trod_int Tryd.underlying3 t1'
  have hwt2 : ∀ x ∈ y2.1.weights Tryd.prog 48, x ≤ reachBytes := by
    intro x hx2
    refine hw0 x ?_
    obtain ⟨rfl, _⟩ := Prod.mk.inj hx
    simp only [DataW.weights, Tryd.underlying50, DataW.weightsEach, List.map_cons, List.map_nil, List.mem_append]
    simp [hx2]
  obtain ⟨ls, pp, n, cc, e2, hn, hP, hnn⟩ := open_pieces t2' hwt2
  simp only [List.cons.injEq, and_true] at e0 e1
  subst e0 e1 e2
  clear hA0 hval0 hwt hwt'
  have hcall := feeds_walk r k ls pp n cc W hn hP hnn (envP hL)
  rw [three_toList hxs] at hcall
  refine hcall.mono fun e W' ⟨he, bel⟩ => ?_
  subst he
  exact ⟨_, rfl, _, _, _, [], _, [], hW', trodAll_mk1 (shut_bool Tryd.underlying4 _), trodAll_mk1 (Below.trod laidOut (by kernel_rfl) (of_decide_eq_true (by kernel_rfl)) ⟨fuel, hd⟩ bel hlt0), rfl, bel.frame _, fun h => by cases h⟩
theorem rowP_holds : Rows.HeadFeedsSaid :=
  OpenClaim.holds_of_wide 4 Tryd.f4 rfl rfl rfl rfl rfl rfl rfl ⟨rfl, rfl, rfl, rfl, rfl⟩ rfl rfl rfl rfl rfl (by kernel_rfl) Tryd.func4 (by kernel_rfl)
    (of_decide_eq_true (by kernel_rfl)) (by unfold Func.isWrapper; first | (rw [if_pos (by decide +kernel)]; kernel_rfl) | (rw [if_neg (by decide +kernel)]; exact ⟨rfl, rfl⟩))
    (fun os started H enc _ => liftedP os started H enc)
end Go.Proofs.YtfmkkkkdfkjdlaaDoor.HeadFeeds
namespace Go.Proofs.YtfmkkkkdfkjdlaaDoor
theorem headFeeds_holds : Rows.HeadFeedsCardSaid :=
  Claim7.holds_tied_plain_at .later [] _ _ _ _
    HeadFeeds.rowP_holds (fun _ h => by cases h) (by kernel_rfl) (fun _ h => by cases h) headFeeds_row_tie rfl ⟨rfl, rfl⟩ (by kernel_rfl) rfl
    (fun f fn hf hfn => by
      obtain rfl : f = 4 := Option.some.inj ((show Tryd.prog.funcNamed "turnstile/turnstilelaw09.HeadFeeds" = some 4 by kernel_rfl).symm.trans hf) |>.symm
      obtain rfl : fn = Tryd.f4 := (Option.some.inj (Tryd.func4.symm.trans hfn)).symm
      exact ⟨by kernel_rfl, fun j t ht => by
        rw [Tryd.params4] at ht
        have hm : t ∈ [50] := by simpa using Array.mem_of_getElem? ht
        have hall : ([50].all fun u => !Tryd.prog.wantsStandIn u) = true := by kernel_rfl
        exact (show Tryd.prog.wantsStandIn t = false by simpa using List.all_eq_true.1 hall t hm)⟩)
    (by kernel_rfl)
#print axioms headFeeds_holds
end Go.Proofs.YtfmkkkkdfkjdlaaDoor
