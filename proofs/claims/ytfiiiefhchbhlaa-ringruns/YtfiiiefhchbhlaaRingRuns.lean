/- For every size, every row of acts and every number the law RingRuns returns true and leaves its arguments as they were. -/
import Derived.Test.YtfiiiefhchbhlaaOpenActs
namespace Go.Proofs.Ytfiiiefhchbhlaa
open Go.ChangeShapes Go.WideShapes Go.ChangeAt Go.RowKit

theorem params3 : Try.f3.params = #[3, 22, 3] := by kernel_rfl
/-- What the walk must show, where the arguments' sizes are known. -/
theorem lift_runs {os : Os} (started : os.Started) {H : Type} {enc : TypeId × Value → H}
    (walk : ∀ (W : World) (base : Nat) (args : Array Value) (ds gs : List (DataW H)) (before : List MemPlace),
      (∀ (j : Nat) t v, Try.f3.params[j]? = some t → args[j]? = some v → Value.okWide Try.prog W .any base t v) →
      DataW.Whole enc Try.prog Try.f3.params.toList Rows.ringRunsSpec.vars false W args.toList ds gs before →
      (DataW.weightsEach Try.prog (Try.f3.params.toList ++ Rows.ringRunsSpec.plain.varTypes Try.prog) (ds ++ gs)).all (· ≤ reachBytes) = true →
      Calls Try.prog 3 args W fun e W' => ∃ v, e = .returned v ∧ Rows.ringRunsSpec.post enc Try.prog Try.f3 false true false false W args v W') :
    ReturnsInHanded {} Try.checked os 3 .any (Rows.ringRunsSpec.pre6 enc Try.prog Try.f3 Rows.ringRunsRow.domain false) (Rows.ringRunsSpec.post enc Try.prog Try.f3 false true false false) := by
  refine returnsInHanded_of_calls own started (by kernel_rfl)
    (ChangeSpec.witness6 (enc := enc) (C := Try.checked) false ⟨#[], #[.int .i64 0, .slice none 0 0, .int .i64 0], []⟩ 8 (by kernel_rfl) (by kernel_rfl) (by kernel_rfl) (by kernel_rfl)) ?_
  intro w tape i _ _ _ hok hpre _
  obtain ⟨_, _, _, fn', hfn', _, _, _, _, hval⟩ := hok
  obtain rfl : fn' = Try.f3 := Option.some.inj (hfn'.symm.trans Try.func3)
  obtain ⟨⟨ds, gs, before, hw, _⟩, hz⟩ := hpre
  refine (walk (w.forCall tape i) w.heap.size i.args ds gs before hval (DataW.Whole.of_heap (w' := w.forCall tape i) (by rfl) hw) (hz.weights hw)).mono ?_
  rintro e W' ⟨v, rfl, hp⟩
  exact ChangeSpec.post_blind hp
set_option maxRecDepth 100000 in
theorem ringRuns_lifted (os : Os) (started : os.Started) (H : Type) (enc : TypeId × Value → H) :
    ReturnsInHanded {} Try.checked os 3 .any (Rows.ringRunsSpec.pre6 enc Try.prog Try.f3 Rows.ringRunsRow.domain false) (Rows.ringRunsSpec.post enc Try.prog Try.f3 false true false false) := by
  refine lift_runs started ?_
  intro W base args ds gs before hval hW hwt
  have hW' := hW
  obtain ⟨p, q, hA, hV, rfl, hfz, hnd⟩ := hW
  rw [params3] at hA hval hwt
  obtain ⟨v0, v1, v2, d0, d1, d2, p0, p1, p2, rfl, rfl, rfl, h0, h1, h2⟩ := trodAll_three hA
  obtain ⟨rfl, rfl⟩ := trodVars_none hV
  have hlt1 : ∀ x ∈ p1, x.block < W.heap.size := fun x hx => hW'.lt x (by simp [hx])
  have hw1 : ∀ x ∈ d1.weights Try.prog 22, x ≤ reachBytes := by
    intro x hx
    have := List.all_eq_true.1 hwt x (by simp [DataW.weightsEach, hx])
    simpa using this
  obtain ⟨size, rfl, rfl, rfl, ws⟩ := open_int Try.underlying3 (hval 0 3 v0 rfl rfl) h0
  obtain ⟨pc, M, cc, rfl, ha⟩ := open_acts (hval 1 22 v1 rfl rfl) h1 hw1
  obtain ⟨n, rfl, rfl, rfl, wn⟩ := open_int Try.underlying3 (hval 2 3 v2 rfl rfl) h2
  refine (runs_walk size n pc M cc W ha).mono fun e W' ⟨he, bel⟩ => ?_
  subst he
  exact ⟨_, rfl, _, _, _, [], _, [], hW', trodAll_mk1 (shut_bool Try.underlying4 _),
    trodAll_mk3 (shut_int Try.underlying3 ws) (Below.trod laidOut (by kernel_rfl) (of_decide_eq_true (by kernel_rfl)) h1 bel hlt1) (shut_int Try.underlying3 wn),
    rfl, bel.frame _, fun h => by cases h⟩
theorem ringRuns_holds : Rows.RingRunsSaid :=
  OpenClaim.holds_of_wide 3 Try.f3 rfl rfl rfl rfl rfl rfl rfl ⟨rfl, rfl, rfl, rfl, rfl⟩ rfl rfl rfl rfl rfl (by kernel_rfl) Try.func3 (by kernel_rfl)
    (of_decide_eq_true (by kernel_rfl)) (by unfold Func.isWrapper; first | (rw [if_pos (by decide +kernel)]; kernel_rfl) | (rw [if_neg (by decide +kernel)]; exact ⟨rfl, rfl⟩))
    (fun os started H enc _ => ringRuns_lifted os started H enc)
#print axioms ringRuns_holds
end Go.Proofs.Ytfiiiefhchbhlaa
