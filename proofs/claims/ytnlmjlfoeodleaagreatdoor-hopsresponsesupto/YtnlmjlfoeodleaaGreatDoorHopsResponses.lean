/- For all responses whose bulk is at most 1048576 and every way on the law HopsResponses returns true and leaves its arguments as they were; the listed variables of the library are tied to the program's text (the tie is given). -/
import Derived.Test.YtnlmjlfoeodleaaGreatDoorRows
import Derived.Test.YtnlmjlfoeodleaaGreatDoorCards
import Derived.Test.YtnlmjlfoeodleaaGreatDoorTie
import Derived.Test.YtnlmjlfoeodleaaGreatDoorOQRLaw
import Derived.Test.YtnlmjlfoeodleaaGreatDoorOOpen
import Derived.Lib.LaidTab
import Derived.Shelf.Vars
import Derived.ProofKit
import Derived.LaidMore
import Derived.LaidHandle
import Derived.OpenShut
import Derived.ShutString
import Derived.ChangeOld
import Derived.Stop.Joined
import Derived.Stop.LaidErr
import Derived.Deep.DeepHandedRow
import Derived.Deep.DeepWitnessRowRef
import Derived.SevenTiedAt
import Derived.ChangeArms
namespace Go.Proofs.YtnlmjlfoeodleaaGreatDoor.HopsResponses
open Go.ChangeShapes Go.WideShapes Go.ChangeAt Go.RowKit
open Go.ChangeMaps (open_string shut_string)

theorem open_way {H : Type} {enc : TypeId × Value → H} {W : World} {sp : Nat → Bool} {held : Bool} (fuel : Nat) (cs : List Value) (x : DataW H × List MemPlace) (h : DataW.trod enc Tryz.prog W 0 sp held fuel 64 cs = some x) : ∃ (K L mi : Int) (lst : Bool), cs = [.int .i64 K, .int .i64 L, .int .i64 mi, .bool lst] ∧ (-9223372036854775808 ≤ L ∧ L ≤ 9223372036854775807) := by
  obtain ⟨xs, n, rfl, rfl, hl, hx, hf⟩ := DataW.trod_struct Tryz.underlying64 h
  have c4 : Tryz.prog.cellsOf 64 = 4 := by kernel_rfl
  have cF : Tryz.prog.cellsOf 23 = 2 := by kernel_rfl
  have cI : Tryz.prog.cellsOf 3 = 1 := by kernel_rfl
  have cB : Tryz.prog.cellsOf 4 = 1 := by kernel_rfl
  rw [c4] at hl
  have hx4 : xs.length = 3 := by rw [hx]; rfl
  rcases cs with _ | ⟨d0, _ | ⟨d1, _ | ⟨d2, _ | ⟨d3, _ | ⟨d4, r⟩⟩⟩⟩⟩ <;> simp at hl
  rcases xs with _ | ⟨y0, _ | ⟨y1, _ | ⟨y2, _ | ⟨y3, r⟩⟩⟩⟩ <;> simp at hx4
  have f0 : DataW.trod enc Tryz.prog W 0 sp held n 23 (([d0, d1, d2, d3].drop 0).take (Tryz.prog.cellsOf 23)) = some y0 := hf 0 _ rfl
  have f1 : DataW.trod enc Tryz.prog W 0 sp held n 3 (([d0, d1, d2, d3].drop 2).take (Tryz.prog.cellsOf 3)) = some y1 := hf 1 _ rfl
  have f2 : DataW.trod enc Tryz.prog W 0 sp held n 4 (([d0, d1, d2, d3].drop 3).take (Tryz.prog.cellsOf 4)) = some y2 := hf 2 _ rfl
  rw [cF] at f0
  rw [cI] at f1
  rw [cB] at f2
  replace f0 : DataW.trod enc Tryz.prog W 0 sp held n 23 [d0, d1] = some y0 := f0
  replace f1 : DataW.trod enc Tryz.prog W 0 sp held n 3 [d2] = some y1 := f1
  replace f2 : DataW.trod enc Tryz.prog W 0 sp held n 4 [d3] = some y2 := f2
  obtain ⟨K, L, e0, hb, _⟩ := open_frameO n _ _ f0
  obtain ⟨m, e1, _, _⟩ := DataW.trod_int Tryz.underlying3 f1
  obtain ⟨E, e2, _⟩ := DataW.trod_bool Tryz.underlying4 f2
  simp only [List.cons.injEq, and_true] at e0 e1 e2
  obtain ⟨e00, e01⟩ := e0
  subst e00 e01 e1 e2
  exact ⟨K, L, m, E, rfl, hb⟩
theorem laidOut : laidOutB Tryz.prog = true := by kernel_rfl
theorem own : ownKnob Tryz.prog.godebug = none := by kernel_rfl
def firstCells : Array Value := (Go.Pinned.utf8FirstZ.map fun n : Nat => Value.int .u8 (n : Int)).toArray
def laidOver (w : World) : World :=
  { w with heap := w.heap.modify 5 fun
      | .cells _ t frozen => .cells firstCells t frozen
      | o => o }
theorem mxLen {W : World} (h : W.ShapedOpen Tryz.prog) : ∃ m : Int, W.cell? ⟨2, 0, none⟩ = some (.int .i64 m) :=
  cell_of_shapedOpen_int (zero := #[.int .i64 0]) (t := 3) h (of_decide_eq_true (by kernel_rfl)) (by kernel_rfl) rfl (by kernel_rfl) (by kernel_rfl) Tryz.underlying3
theorem gPow : Tryz.prog.globalNamed "internal/strconv.uint64pow10" = some 1 := by kernel_rfl
theorem tPow : (Tryz.prog.globals[1]?).map (·.type) = some 193 := by kernel_rfl
set_option maxRecDepth 100000 in
theorem pow_of {W : World} (h : laidMet Tryz.prog [("math/bits.deBruijn32tab", Rows.laid_math_bits_deBruijn32tab), ("math/bits.deBruijn64tab", Rows.laid_math_bits_deBruijn64tab), ("internal/strconv.uint64pow10", Rows.laid_internal_strconv_uint64pow10), ("unicode/utf8.acceptRanges", Rows.laid_unicode_utf8_acceptRanges), ("unicode/utf8.first", Rows.laid_unicode_utf8_first)] W) : EnvP W := by
  have h3 : laidMet Tryz.prog (("internal/strconv.uint64pow10", Lib.tabData .u64 Lib.pow10Tab) :: [("unicode/utf8.acceptRanges", Rows.laid_unicode_utf8_acceptRanges), ("unicode/utf8.first", Rows.laid_unicode_utf8_first)]) W := h.tail.tail
  exact Lib.tabIs_of_head gPow tPow Tryz.underlying193 Tryz.underlying126 (by kernel_rfl) (by kernel_rfl) h3
theorem envs {W : World} (h : laidMetH Tryz.prog Rows.hopsResponsesUptoRow.laid W) : EnvP W := by
  rw [MakeChecks.laidMetH_plain _ _ _ (by kernel_rfl)] at h
  exact pow_of h
theorem door (os : Os) (args : Array Value) : laidMetH Tryz.prog Rows.hopsResponsesUptoRow.laid ((laidOver (World.doorLaid Tryz.prog 400 os)).forCall (fun _ _ => 0) ⟨#[], args, []⟩).memory :=
  laidMetH_of_parts3 (fuel := 8) (laidMet_of_run' 8 (by kernel_rfl) (by kernel_rfl)) (by kernel_rfl) (by kernel_rfl)
theorem readsHopsResponses (os : Os) {H : Type} (enc : TypeId × Value → H) : ∃ places, DataW.whole enc Tryz.prog ((laidOver (World.doorLaid Tryz.prog 400 os)).forCall (fun _ _ => 0) ⟨#[], #[.agg #[.int .i64 0, .string ⟨#[]⟩, .int .i64 0, .slice none 0 0], .agg #[.int .i64 0, .int .i64 0, .int .i64 0, .bool false]], []⟩).memory Tryz.f5.params.toList Rows.hopsResponsesSpec.vars false (#[.agg #[.int .i64 0, .string ⟨#[]⟩, .int .i64 0, .slice none 0 0], .agg #[.int .i64 0, .int .i64 0, .int .i64 0, .bool false]] : Array Value).toList 8 = some ([.agg [.lit (.int .i64 0), .lit (.string []), .lit (.int .i64 0), .nil], .agg [.agg [.lit (.int .i64 0), .lit (.int .i64 0)], .lit (.int .i64 0), .lit (.bool false)]], [], places) :=
  ⟨[], by kernel_rfl⟩
set_option maxRecDepth 100000 in
theorem liftedHopsResponses (os : Os) (started : os.Started) (H : Type) (enc : TypeId × Value → H) (F : Stop.Interp) :
    ReturnsInHanded {} Tryz.checked os 5 .any ((Rows.OpenSpec.upto Rows.hopsResponsesSpec).preRow enc Tryz.prog Tryz.f5 Rows.hopsResponsesUptoRow.domain false Rows.hopsResponsesUptoRow.laid) (((Rows.OpenSpec.upto Rows.hopsResponsesSpec).at F).post enc Tryz.prog Tryz.f5 false true false false) := by
  obtain ⟨places, hx⟩ := readsHopsResponses os enc
  refine returnsInHanded_of_row (C := Tryz.checked) (s := Rows.OpenSpec.upto Rows.hopsResponsesSpec) own started (by kernel_rfl) Tryz.func5
    (witness_row_atRef (enc := enc) (C := Tryz.checked) false (laidOver (World.doorLaid Tryz.prog 400 os)) #[.agg #[.int .i64 0, .string ⟨#[]⟩, .int .i64 0, .slice none 0 0], .agg #[.int .i64 0, .int .i64 0, .int .i64 0, .bool false]] rfl (by kernel_rfl) (by kernel_rfl) (by kernel_rfl)
      (OpenSpec.preRow_of_cond 8 hx (by kernel_rfl) (fun k hk => by cases hk; kernel_rfl) (by kernel_rfl) (door os _))) ?_
  intro W base args ds gs before hval0 hW _ hcond _ hL hsh _
  have hval : ∀ (j : Nat) t v, Tryz.f5.params[j]? = some t → args[j]? = some v → Value.okWide Tryz.prog W .any base t v := hval0
  have hk : Rows.uptoSmall H (ds ++ gs) = true := hcond _ rfl
  have hW' := hW
  obtain ⟨p, q, hA0, hV, rfl, hfz, hnd⟩ := hW
  have hA : DataW.TrodAll enc Tryz.prog W 0 (fun _ => true) true Tryz.f5.params.toList args.toList ds p := hA0
  rw [Tryz.params5] at hA hval
  obtain ⟨v0, v1, d0, d1, p0, p1, rfl, rfl, rfl, h0, h1⟩ := trodAll_two hA
  obtain ⟨rfl, rfl⟩ := trodVars_none hV
  have hlt0 : ∀ x ∈ p0, x.block < W.heap.size := fun x hx => hW'.lt x (by simp [hx])
  have hlt1 : ∀ x ∈ p1, x.block < W.heap.size := fun x hx => hW'.lt x (by simp [hx])
  obtain ⟨ys, rfl, _⟩ := okWide_struct Tryz.underlying62 (hval 0 62 v0 rfl rfl)
  obtain ⟨zs, rfl, _⟩ := okWide_struct Tryz.underlying64 (hval 1 64 v1 rfl rfl)
  obtain ⟨fuel0, hd0⟩ := h0
  obtain ⟨fuel1, hd1⟩ := h1
  have hd0' : DataW.trod enc Tryz.prog W 0 (fun _ => true) true fuel0 62 ys.toList = some (d0, p0) := hd0
  have hd1' : DataW.trod enc Tryz.prog W 0 (fun _ => true) true fuel1 64 zs.toList = some (d1, p1) := hd1
  obtain ⟨st, r, k, fs, fp, fc, hv, hF, hw⟩ := open_response fuel0 _ _ hd0'
  obtain ⟨K, L, mi, lst, hv', hb⟩ := open_way fuel1 _ _ hd1'
  clear hA0 hval0
  have hbulk := of_decide_eq_true hk
  simp only [List.append_nil, Rows.uptoBulkAll] at hbulk
  simp only at hw
  obtain ⟨hl1, hl2⟩ := wtF_len fs
  have hcall := show Calls Tryz.prog 5 #[.agg #[.int .i64 st, .string (str r), .int .i64 k, .slice fp fs.length fc], .agg #[.int .i64 K, .int .i64 L, .int .i64 mi, .bool lst]] W _ from by
    by_cases hn5 : 500 < fs.length
    · exact hresps_few st (str r) k K L mi lst fp fs.length fc W (envs hL) (mxLen hsh) hn5
    · exact hresps st r k K L mi lst fs fp fs.length fc rfl W hF (fun f hf => by have := hl2 f hf; omega) (by omega) hb.1 hb.2 (envs hL) (mxLen hsh) (by omega)
  rw [show (#[.int .i64 st, .string (str r), .int .i64 k, .slice fp fs.length fc] : Array Value) = ys from by rw [← Array.toArray_toList (xs := ys), hv], show (#[.int .i64 K, .int .i64 L, .int .i64 mi, .bool lst] : Array Value) = zs from by rw [← Array.toArray_toList (xs := zs), hv']] at hcall
  refine hcall.mono fun e W' ⟨he, bel⟩ => ?_
  subst he
  exact ⟨_, rfl, _, _, _, [], _, [], hW', trodAll_mk1 (shut_bool Tryz.underlying4 _),
    trodAll_mk2 (Below.trod laidOut (by kernel_rfl) (of_decide_eq_true (by kernel_rfl)) ⟨fuel0, hd0⟩ bel hlt0) (Below.trod laidOut (by kernel_rfl) (of_decide_eq_true (by kernel_rfl)) ⟨fuel1, hd1⟩ bel hlt1),
    rfl, bel.frame _, fun h => by cases h⟩
theorem rowHopsResponses_holds : Rows.HopsResponsesUptoSaid :=
  OpenClaim.holds_of_cond 5 Tryz.f5 rfl rfl rfl rfl rfl rfl rfl ⟨rfl, rfl, rfl, rfl, rfl⟩ rfl rfl rfl rfl rfl (by kernel_rfl) Tryz.func5 (by kernel_rfl)
    (of_decide_eq_true (by kernel_rfl)) (by unfold Func.isWrapper; first | (rw [if_pos (by decide +kernel)]; kernel_rfl) | (rw [if_neg (by decide +kernel)]; exact ⟨rfl, rfl⟩))
    (fun os started H enc _ F => by rw [OpenClaim.pre_eq_preRow]; exact liftedHopsResponses os started H enc F)
end Go.Proofs.YtnlmjlfoeodleaaGreatDoor.HopsResponses
namespace Go.Proofs.YtnlmjlfoeodleaaGreatDoor
theorem hopsResponsesUpto_holds : Rows.HopsResponsesUptoCardSaid :=
  Claim7.holds_tied_plain_at .later [] _ _ _ _
    HopsResponses.rowHopsResponses_holds (fun _ h => by cases h) (by kernel_rfl) (fun _ h => by cases h) hopsResponsesUpto_row_tie rfl ⟨rfl, rfl⟩ (by kernel_rfl) rfl
    (fun f fn hf hfn => by
      obtain rfl : f = 5 := Option.some.inj ((show Tryz.prog.funcNamed "turnstile/turnstilelaw14.HopsResponses" = some 5 by kernel_rfl).symm.trans hf) |>.symm
      obtain rfl : fn = Tryz.f5 := (Option.some.inj (Tryz.func5.symm.trans hfn)).symm
      exact ⟨by kernel_rfl, fun j t ht => by
        rw [Tryz.params5] at ht
        have hm : t ∈ [62, 64] := by simpa using Array.mem_of_getElem? ht
        have hall : ([62, 64].all fun u => !Tryz.prog.wantsStandIn u) = true := by kernel_rfl
        exact (show Tryz.prog.wantsStandIn t = false by simpa using List.all_eq_true.1 hall t hm)⟩)
    (by kernel_rfl)
#print axioms hopsResponsesUpto_holds
end Go.Proofs.YtnlmjlfoeodleaaGreatDoor
