/- For all fields and whole numbers whose bulk together is at most 1048576 the law FrameSmuggled returns true and leaves its arguments as they were; the listed variables of the library are tied to the program's text (the tie is given). -/
import Derived.Test.YthakldcfpndabaaDoorRows
import Derived.Test.YthakldcfpndabaaDoorCards
import Derived.Test.YthakldcfpndabaaDoorTie
import Derived.Test.YthakldcfpndabaaDoorLSmug
import Derived.Test.YthakldcfpndabaaDoorOpenAr
import Derived.Test.YthakldcfpndabaaDoorFLaid
import Derived.Test.YthakldcfpndabaaDoorOpenQ
import Derived.Shelf.Vars
import Derived.ProofKit
import Derived.LaidMore
import Derived.LaidHandle
import Derived.OpenShut
import Derived.ShutString
import Derived.ChangeOld
import Derived.Stop.Joined
import Derived.Stop.LaidErr
import Derived.Deep.DeepHandedRow
import Derived.Deep.DeepWitnessRowRef
import Derived.SevenTiedAt
import Derived.ChangeArms
namespace Go.Proofs.YthakldcfpndabaaDoor.FrameSmuggled
open Go.ChangeShapes Go.WideShapes Go.ChangeAt Go.RowKit
open Go.ChangeMaps (open_string shut_string)

theorem laidOut : laidOutB Tryd.prog = true := by kernel_rfl
theorem own : ownKnob Tryd.prog.godebug = none := by kernel_rfl
def firstCells : Array Value := (Go.Pinned.utf8FirstZ.map fun n : Nat => Value.int .u8 (n : Int)).toArray
def laidOver (w : World) : World :=
  { w with heap := w.heap.modify 3 fun
      | .cells _ t frozen => .cells firstCells t frozen
      | o => o }
theorem mxLen {W : World} (h : W.ShapedOpen Tryd.prog) : MxL W :=
  cell_of_shapedOpen_int (zero := #[.int .i64 0]) (t := 3) h (of_decide_eq_true (by kernel_rfl)) (by kernel_rfl) rfl (by kernel_rfl) (by kernel_rfl) Tryd.underlying3
theorem envF {W : World} (h : laidMetH Tryd.prog Rows.frameSmuggledUptoRow.laid W) : EnvE W := by
  have h' : laidMet Tryd.prog [("unicode/utf8.acceptRanges", Rows.laid_unicode_utf8_acceptRanges), ("unicode/utf8.first", Rows.laid_unicode_utf8_first)] W ∧ handlesMet Tryd.prog [("errors.errorType", Rows.laid_errors_errorType)] W := h
  exact env_of h'.2
theorem door (os : Os) (args : Array Value) : laidMetH Tryd.prog Rows.frameSmuggledUptoRow.laid ((laidOver (World.doorLaid Tryd.prog 400 os)).forCall (fun _ _ => 0) ⟨#[], args, []⟩).memory :=
  laidMetH_of_parts3 (fuel := 8) (laidMet_of_run' 8 (by kernel_rfl) (by kernel_rfl)) (by kernel_rfl) (by kernel_rfl)
theorem readsS (os : Os) {H : Type} (enc : TypeId × Value → H) : ∃ places, DataW.whole enc Tryd.prog ((laidOver (World.doorLaid Tryd.prog 400 os)).forCall (fun _ _ => 0) ⟨#[], #[.slice none 0 0, .agg #[.int .i64 0, .int .i64 0], .int .i64 0], []⟩).memory Tryd.f7.params.toList Rows.frameSmuggledSpec.vars false (#[.slice none 0 0, .agg #[.int .i64 0, .int .i64 0], .int .i64 0] : Array Value).toList 8 = some ([.nil, .agg [.lit (.int .i64 0), .lit (.int .i64 0)], .lit (.int .i64 0)], [], places) :=
  ⟨[], by kernel_rfl⟩
set_option maxRecDepth 100000 in
theorem liftedS (os : Os) (started : os.Started) (H : Type) (enc : TypeId × Value → H) (F : Stop.Interp) :
    ReturnsInHanded {} Tryd.checked os 7 .any ((Rows.OpenSpec.upto Rows.frameSmuggledSpec).preRow enc Tryd.prog Tryd.f7 Rows.frameSmuggledUptoRow.domain false Rows.frameSmuggledUptoRow.laid) (((Rows.OpenSpec.upto Rows.frameSmuggledSpec).at F).post enc Tryd.prog Tryd.f7 false true false false) := by
  obtain ⟨places, hx⟩ := readsS os enc
  refine returnsInHanded_of_row (C := Tryd.checked) (s := Rows.OpenSpec.upto Rows.frameSmuggledSpec) own started (by kernel_rfl) Tryd.func7
    (witness_row_atRef (enc := enc) (C := Tryd.checked) false (laidOver (World.doorLaid Tryd.prog 400 os)) #[.slice none 0 0, .agg #[.int .i64 0, .int .i64 0], .int .i64 0] rfl (by kernel_rfl) (by kernel_rfl) (by kernel_rfl)
      (OpenSpec.preRow_of_cond 8 hx (by kernel_rfl) (fun k hk => by cases hk; kernel_rfl) (by kernel_rfl) (door os _))) ?_
  intro W base args ds gs before hval0 hW _ hcond _ hL hsh _
  have hval : ∀ (j : Nat) t v, Tryd.f7.params[j]? = some t → args[j]? = some v → Value.okWide Tryd.prog W .any base t v := hval0
  have hk : Rows.uptoSmall H (ds ++ gs) = true := hcond _ rfl
  have hW' := hW
  obtain ⟨p, q, hA0, hV, rfl, hfz, hnd⟩ := hW
  have hA : DataW.TrodAll enc Tryd.prog W 0 (fun _ => true) true Tryd.f7.params.toList args.toList ds p := hA0
  rw [Tryd.params7] at hA hval
  obtain ⟨v0, v1, v2, d0, d1, d2, p0, p1, p2, rfl, rfl, rfl, h0, h1, h2⟩ := trodAll_three hA
  obtain ⟨rfl, rfl⟩ := trodVars_none hV
  have hlt0 : ∀ x ∈ p0, x.block < W.heap.size := fun x hx => hW'.lt x (by simp [hx])
  have hlt1 : ∀ x ∈ p1, x.block < W.heap.size := fun x hx => hW'.lt x (by simp [hx])
  obtain ⟨pa, len0, cap0, rfl⟩ := okWide_slice Tryd.underlying22 (hval 0 22 v0 rfl rfl)
  obtain ⟨ys, rfl⟩ := okWide_arrG Tryd.underlying62 (hval 1 62 v1 rfl rfl)
  obtain ⟨wh, rfl, rfl, rfl, hwf⟩ := open_int Tryd.underlying3 (hval 2 3 v2 rfl rfl) h2
  obtain ⟨fuel0, hd0⟩ := h0
  obtain ⟨fuel1, hd1⟩ := h1
  have hd0' : DataW.trod enc Tryd.prog W 0 (fun _ => true) true fuel0 22 [.slice pa len0 cap0] = some (d0, p0) := hd0
  have hd1' : DataW.trod enc Tryd.prog W 0 (fun _ => true) true fuel1 62 ys.toList = some (d1, p1) := hd1
  obtain ⟨fs, fp, fc, hv, hfc, hF, hw⟩ := open_fields fuel0 _ _ hd0'
  obtain ⟨K, N, hv', hw'⟩ := open_arr2 fuel1 _ _ hd1'
  clear hA0 hval0
  have hbulk := of_decide_eq_true hk
  simp only [List.append_nil, Rows.uptoBulkAll] at hbulk
  simp only at hw hw'
  obtain ⟨hl1, hl2⟩ := wtF_len fs
  have hnil := fun n c (e : (.slice pa len0 cap0 : Value) = .slice none n c) => open_nil (enc := enc) (W := W) fuel0 n c _ (by rw [← e]; exact hd0')
  have hcall := smug_walk fs fp fs.length fc rfl hfc K N wh W hF (fun e => hnil _ _ (by rw [hv, e])) (fun f hf => by have := hl2 f hf; omega) (by omega) (mxLen hsh) (envF hL)
  rw [hv]
  rw [hv] at hW' hd0
  rw [show (#[.int .i64 K, .int .i64 N] : Array Value) = ys from by rw [← Array.toArray_toList (xs := ys), hv']] at hcall
  refine hcall.mono fun e W' ⟨he, bel⟩ => ?_
  subst he
  exact ⟨_, rfl, _, _, _, [], _, [], hW', trodAll_mk1 (shut_bool Tryd.underlying4 _),
    trodAll_mk3 (Below.trod laidOut (by kernel_rfl) (of_decide_eq_true (by kernel_rfl)) ⟨fuel0, hd0⟩ bel hlt0) (Below.trod laidOut (by kernel_rfl) (of_decide_eq_true (by kernel_rfl)) ⟨fuel1, hd1⟩ bel hlt1) (shut_int Tryd.underlying3 hwf),
    rfl, bel.frame _, fun h => by cases h⟩
theorem rowS_holds : Rows.FrameSmuggledUptoSaid :=
  OpenClaim.holds_of_cond 7 Tryd.f7 rfl rfl rfl rfl rfl rfl rfl ⟨rfl, rfl, rfl, rfl, rfl⟩ rfl rfl rfl rfl rfl (by kernel_rfl) Tryd.func7 (by kernel_rfl)
    (of_decide_eq_true (by kernel_rfl)) (by unfold Func.isWrapper; first | (rw [if_pos (by decide +kernel)]; kernel_rfl) | (rw [if_neg (by decide +kernel)]; exact ⟨rfl, rfl⟩))
    (fun os started H enc _ F => by rw [OpenClaim.pre_eq_preRow]; exact liftedS os started H enc F)
end Go.Proofs.YthakldcfpndabaaDoor.FrameSmuggled
namespace Go.Proofs.YthakldcfpndabaaDoor
theorem frameSmuggledUpto_holds : Rows.FrameSmuggledUptoCardSaid :=
  Claim7.holds_tied_plain_at .later [] _ _ _ _
    FrameSmuggled.rowS_holds (fun _ h => by cases h) (by kernel_rfl) (fun _ h => by cases h) frameSmuggledUpto_row_tie rfl ⟨rfl, rfl⟩ (by kernel_rfl) rfl
    (fun f fn hf hfn => by
      obtain rfl : f = 7 := Option.some.inj ((show Tryd.prog.funcNamed "turnstile/turnstilelaw11.FrameSmuggled" = some 7 by kernel_rfl).symm.trans hf) |>.symm
      obtain rfl : fn = Tryd.f7 := (Option.some.inj (Tryd.func7.symm.trans hfn)).symm
      exact ⟨by kernel_rfl, fun j t ht => by
        rw [Tryd.params7] at ht
        have hm : t ∈ [22, 62, 3] := by simpa using Array.mem_of_getElem? ht
        have hall : ([22, 62, 3].all fun u => !Tryd.prog.wantsStandIn u) = true := by kernel_rfl
        exact (show Tryd.prog.wantsStandIn t = false by simpa using List.all_eq_true.1 hall t hm)⟩)
    (by kernel_rfl)
#print axioms frameSmuggledUpto_holds
end Go.Proofs.YthakldcfpndabaaDoor
