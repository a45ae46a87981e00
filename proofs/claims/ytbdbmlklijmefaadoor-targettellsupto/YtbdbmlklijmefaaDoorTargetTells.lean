/- For every target's parts whose bulk is at most 1048576 the law TargetTells returns true and leaves its argument as it was; the listed tables of Go's library are tied to the program's text (the tie is given). -/
import Derived.Test.YtbdbmlklijmefaaDoorRows
import Derived.Test.YtbdbmlklijmefaaDoorCards
import Derived.Test.YtbdbmlklijmefaaDoorTie
import Derived.Test.YtbdbmlklijmefaaDoorTellsLaw
import Derived.Shelf.Vars
import Derived.ProofKit
import Derived.LaidMore
import Derived.LaidHandle
import Derived.OpenShut
import Derived.ShutString
import Derived.ChangeOld
import Derived.Stop.Joined
import Derived.Stop.LaidErr
import Derived.Deep.DeepHandedRow
import Derived.Deep.DeepWitnessRowRef
import Derived.SevenTiedAt
import Derived.ChangeArms
namespace Go.Proofs.YtbdbmlklijmefaaDoor.TargetTells
open Go.ChangeShapes Go.WideShapes Go.ChangeAt Go.RowKit
open Go.ChangeMaps (open_string shut_string)

theorem laidOut : laidOutB Tryd.prog = true := by kernel_rfl
theorem own : ownKnob Tryd.prog.godebug = none := by kernel_rfl
def firstCells : Array Value := (Go.Pinned.utf8FirstZ.map fun n : Nat => Value.int .u8 (n : Int)).toArray
def laidOver (w : World) : World :=
  { w with heap := w.heap.modify 1 fun
      | .cells _ t frozen => .cells firstCells t frozen
      | o => o }
theorem door (os : Os) (args : Array Value) : laidMetH Tryd.prog Rows.targetTellsUptoRow.laid ((laidOver (World.doorLaid Tryd.prog 400 os)).forCall (fun _ _ => 0) ⟨#[], args, []⟩).memory :=
  laidMetH_of_parts3 (fuel := 8) (laidMet_of_run' 8 (by kernel_rfl) (by kernel_rfl)) (by kernel_rfl) (by kernel_rfl)
theorem env {W : World} (h : W.ShapedOpen Tryd.prog) : Env W :=
  ⟨cell_of_shapedOpen_int (zero := #[.int .i64 0]) (t := 3) h (of_decide_eq_true (by kernel_rfl)) (by kernel_rfl) rfl (by kernel_rfl) (by kernel_rfl) Tryd.underlying3⟩
theorem str_self (s : ByteArray) : str s.data.toList = s := by cases s; rfl
set_option maxHeartbeats 2000000 in
theorem open_target {H : Type} {enc : TypeId × Value → H} {W : World} {sp : Nat → Bool} {held : Bool} (fuel : Nat) (cs : List Value) (x : DataW H × List MemPlace) (h : DataW.trod enc Tryd.prog W 0 sp held fuel 28 cs = some x) : ∃ t : TG, tgV t = .agg cs.toArray ∧ t.host.length + t.path.length + t.query.length ≤ Rows.uptoBulk x.1 := by
  obtain ⟨xs, n, rfl, rfl, hl, hx, hf⟩ := DataW.trod_struct Tryd.underlying28 h
  have c7 : Tryd.prog.cellsOf 28 = 5 := by kernel_rfl
  have c3 : Tryd.prog.cellsOf 3 = 1 := by kernel_rfl
  have c4 : Tryd.prog.cellsOf 4 = 1 := by kernel_rfl
  have c9 : Tryd.prog.cellsOf 9 = 1 := by kernel_rfl
  rw [c7] at hl
  have hx5 : xs.length = 5 := by rw [hx]; rfl
  rcases cs with _ | ⟨d0, _ | ⟨d1, _ | ⟨d2, _ | ⟨d3, _ | ⟨d4, _ | ⟨d5, r⟩⟩⟩⟩⟩⟩ <;> simp at hl
  rcases xs with _ | ⟨y0, _ | ⟨y1, _ | ⟨y2, _ | ⟨y3, _ | ⟨y4, _ | ⟨y5, r⟩⟩⟩⟩⟩⟩ <;> simp at hx5
  have f0 : DataW.trod enc Tryd.prog W 0 sp held n 3 (([d0, d1, d2, d3, d4].drop 0).take (Tryd.prog.cellsOf 3)) = some y0 := hf 0 _ rfl
  rw [c3] at f0
  replace f0 : DataW.trod enc Tryd.prog W 0 sp held n 3 [d0] = some y0 := f0
  have f1 : DataW.trod enc Tryd.prog W 0 sp held n 9 (([d0, d1, d2, d3, d4].drop 1).take (Tryd.prog.cellsOf 9)) = some y1 := hf 1 _ rfl
  rw [c9] at f1
  replace f1 : DataW.trod enc Tryd.prog W 0 sp held n 9 [d1] = some y1 := f1
  have f2 : DataW.trod enc Tryd.prog W 0 sp held n 9 (([d0, d1, d2, d3, d4].drop 2).take (Tryd.prog.cellsOf 9)) = some y2 := hf 2 _ rfl
  rw [c9] at f2
  replace f2 : DataW.trod enc Tryd.prog W 0 sp held n 9 [d2] = some y2 := f2
  have f3 : DataW.trod enc Tryd.prog W 0 sp held n 9 (([d0, d1, d2, d3, d4].drop 3).take (Tryd.prog.cellsOf 9)) = some y3 := hf 3 _ rfl
  rw [c9] at f3
  replace f3 : DataW.trod enc Tryd.prog W 0 sp held n 9 [d3] = some y3 := f3
  have f4 : DataW.trod enc Tryd.prog W 0 sp held n 4 (([d0, d1, d2, d3, d4].drop 4).take (Tryd.prog.cellsOf 4)) = some y4 := hf 4 _ rfl
  rw [c4] at f4
  replace f4 : DataW.trod enc Tryd.prog W 0 sp held n 4 [d4] = some y4 := f4
  obtain ⟨k, e0, rfl, _⟩ := DataW.trod_int Tryd.underlying3 f0
  obtain ⟨s1, e1, rfl, _⟩ := DataW.trod_string Tryd.underlying9 f1
  obtain ⟨s2, e2, rfl, _⟩ := DataW.trod_string Tryd.underlying9 f2
  obtain ⟨s3, e3, rfl, _⟩ := DataW.trod_string Tryd.underlying9 f3
  obtain ⟨b, e4, rfl⟩ := DataW.trod_bool Tryd.underlying4 f4
  simp only [List.cons.injEq, and_true] at e0 e1 e2 e3 e4
  subst e0 e1 e2 e3 e4
  refine ⟨⟨k, s1.data.toList, s2.data.toList, s3.data.toList, b⟩, ?_, ?_⟩
  · unfold tgV
    simp only [str_self]
  · simp [Rows.uptoBulk, Rows.uptoBulkAll]
    omega
theorem reads (os : Os) {H : Type} (enc : TypeId × Value → H) : ∃ places, DataW.whole enc Tryd.prog ((laidOver (World.doorLaid Tryd.prog 400 os)).forCall (fun _ _ => 0) ⟨#[], #[.agg #[.int .i64 0, .string ByteArray.empty, .string ByteArray.empty, .string ByteArray.empty, .bool false]], []⟩).memory Tryd.f4.params.toList Rows.targetTellsSpec.vars false #[(.agg #[.int .i64 0, .string ByteArray.empty, .string ByteArray.empty, .string ByteArray.empty, .bool false] : Value)].toList 8 = some ([.agg [.lit (.int .i64 0), .lit (.string []), .lit (.string []), .lit (.string []), .lit (.bool false)]], [], places) :=
  ⟨[], by kernel_rfl⟩
set_option maxRecDepth 100000 in
theorem lifted (os : Os) (started : os.Started) (H : Type) (enc : TypeId × Value → H) (F : Stop.Interp) :
    ReturnsInHanded {} Tryd.checked os 4 .any ((Rows.OpenSpec.upto Rows.targetTellsSpec).preRow enc Tryd.prog Tryd.f4 Rows.targetTellsUptoRow.domain false Rows.targetTellsUptoRow.laid) (((Rows.OpenSpec.upto Rows.targetTellsSpec).at F).post enc Tryd.prog Tryd.f4 false true false false) := by
  obtain ⟨places, hx⟩ := reads os enc
  refine returnsInHanded_of_row (C := Tryd.checked) (s := Rows.OpenSpec.upto Rows.targetTellsSpec) own started (by kernel_rfl) Tryd.func4
    (witness_row_atRef (enc := enc) (C := Tryd.checked) false (laidOver (World.doorLaid Tryd.prog 400 os)) #[.agg #[.int .i64 0, .string ByteArray.empty, .string ByteArray.empty, .string ByteArray.empty, .bool false]] rfl (by kernel_rfl) (by kernel_rfl) (by kernel_rfl)
      (OpenSpec.preRow_of_cond 8 hx (by kernel_rfl) (fun k hk => by cases hk; kernel_rfl) (by kernel_rfl) (door os _))) ?_
  intro W base args ds gs before hval0 hW _ hcond _ hL hsh _
  have hval : ∀ (j : Nat) t v, Tryd.f4.params[j]? = some t → args[j]? = some v → Value.okWide Tryd.prog W .any base t v := hval0
  have hk : Rows.uptoSmall H (ds ++ gs) = true := hcond _ rfl
  have hW' := hW
  obtain ⟨p, q, hA0, hV, rfl, hfz, hnd⟩ := hW
  have hA : DataW.TrodAll enc Tryd.prog W 0 (fun _ => true) true Tryd.f4.params.toList args.toList ds p := hA0
  rw [Tryd.params4] at hA hval
  obtain ⟨v0, d0, rfl, rfl, h0⟩ := trodAll_one hA
  obtain ⟨rfl, rfl⟩ := trodVars_none hV
  obtain ⟨xs, rfl, _⟩ := okWide_struct Tryd.underlying28 (hval 0 28 v0 rfl rfl)
  have hlt0 : ∀ x ∈ p, x.block < W.heap.size := fun x hx => by simpa using hW'.lt x (by simp [hx])
  obtain ⟨fuel, hd⟩ := h0
  have hd2 : DataW.trod enc Tryd.prog W 0 (fun _ => true) true fuel 28 xs.toList = some (d0, p) := hd
  obtain ⟨t, hv, hw⟩ := open_target fuel _ _ hd2
  clear hA0 hval0
  have hbulk := of_decide_eq_true hk
  simp only [List.append_nil, Rows.uptoBulkAll] at hbulk
  simp only at hw
  have hcall := targetTells_any t (by omega) W (env hsh)
  rw [hv, Array.toArray_toList] at hcall
  refine hcall.mono fun e W' ⟨he, bel⟩ => ?_
  subst he
  exact ⟨_, rfl, _, _, _, [], _, [], hW', trodAll_mk1 (shut_bool Tryd.underlying4 _), trodAll_mk1 (Below.trod laidOut (by kernel_rfl) (of_decide_eq_true (by kernel_rfl)) ⟨fuel, hd⟩ bel hlt0), rfl, bel.frame _, fun h => by cases h⟩
theorem row_holds : Rows.TargetTellsUptoSaid :=
  OpenClaim.holds_of_cond 4 Tryd.f4 rfl rfl rfl rfl rfl rfl rfl ⟨rfl, rfl, rfl, rfl, rfl⟩ rfl rfl rfl rfl rfl (by kernel_rfl) Tryd.func4 (by kernel_rfl)
    (of_decide_eq_true (by kernel_rfl)) (by unfold Func.isWrapper; first | (rw [if_pos (by decide +kernel)]; kernel_rfl) | (rw [if_neg (by decide +kernel)]; exact ⟨rfl, rfl⟩))
    (fun os started H enc _ F => by rw [OpenClaim.pre_eq_preRow]; exact lifted os started H enc F)
end Go.Proofs.YtbdbmlklijmefaaDoor.TargetTells
namespace Go.Proofs.YtbdbmlklijmefaaDoor
theorem targetTellsUpto_holds : Rows.TargetTellsUptoCardSaid :=
  Claim7.holds_tied_plain_at .later [] _ _ _ _
    TargetTells.row_holds (fun _ h => by cases h) (by kernel_rfl) (fun _ h => by cases h) targetTellsUpto_row_tie rfl ⟨rfl, rfl⟩ (by kernel_rfl) rfl
    (fun f fn hf hfn => by
      obtain rfl : f = 4 := Option.some.inj ((show Tryd.prog.funcNamed "turnstile/turnstilelaw08.TargetTells" = some 4 by kernel_rfl).symm.trans hf) |>.symm
      obtain rfl : fn = Tryd.f4 := (Option.some.inj (Tryd.func4.symm.trans hfn)).symm
      exact ⟨by kernel_rfl, fun j t ht => by
        rw [Tryd.params4] at ht
        have hm : t ∈ [28] := by simpa using Array.mem_of_getElem? ht
        have hall : ([28].all fun u => !Tryd.prog.wantsStandIn u) = true := by kernel_rfl
        exact (show Tryd.prog.wantsStandIn t = false by simpa using List.all_eq_true.1 hall t hm)⟩)
    (by kernel_rfl)
#print axioms targetTellsUpto_holds
end Go.Proofs.YtbdbmlklijmefaaDoor
