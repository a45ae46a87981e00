/- For all requests and clients whose bulk together is at most 1048576 and every length the law HopsRequests returns true and leaves its arguments as they were; the listed variables of the library are tied to the program's text (the tie is given). -/
import Derived.Test.YtnlmjlfoeodleaaGreatDoorRows
import Derived.Test.YtnlmjlfoeodleaaGreatDoorCards
import Derived.Test.YtnlmjlfoeodleaaGreatDoorTie
import Derived.Test.YtnlmjlfoeodleaaGreatDoorOQSz
import Derived.Test.YtnlmjlfoeodleaaGreatDoorOOpen
import Derived.Lib.LaidTab
import Derived.Shelf.Vars
import Derived.ProofKit
import Derived.LaidMore
import Derived.LaidHandle
import Derived.OpenShut
import Derived.ShutString
import Derived.ChangeOld
import Derived.Stop.Joined
import Derived.Stop.LaidErr
import Derived.Deep.DeepHandedRow
import Derived.Deep.DeepWitnessRowRef
import Derived.SevenTiedAt
import Derived.ChangeArms
namespace Go.Proofs.YtnlmjlfoeodleaaGreatDoor.HopsRequests
open Go.ChangeShapes Go.WideShapes Go.ChangeAt Go.RowKit
open Go.ChangeMaps (open_string shut_string)

theorem laidOut : laidOutB Tryz.prog = true := by kernel_rfl
theorem own : ownKnob Tryz.prog.godebug = none := by kernel_rfl
def firstCells : Array Value := (Go.Pinned.utf8FirstZ.map fun n : Nat => Value.int .u8 (n : Int)).toArray
def laidOver (w : World) : World :=
  { w with heap := w.heap.modify 5 fun
      | .cells _ t frozen => .cells firstCells t frozen
      | o => o }
theorem mxLen {W : World} (h : W.ShapedOpen Tryz.prog) : ∃ m : Int, W.cell? ⟨2, 0, none⟩ = some (.int .i64 m) :=
  cell_of_shapedOpen_int (zero := #[.int .i64 0]) (t := 3) h (of_decide_eq_true (by kernel_rfl)) (by kernel_rfl) rfl (by kernel_rfl) (by kernel_rfl) Tryz.underlying3
theorem gPow : Tryz.prog.globalNamed "internal/strconv.uint64pow10" = some 1 := by kernel_rfl
theorem tPow : (Tryz.prog.globals[1]?).map (·.type) = some 193 := by kernel_rfl
set_option maxRecDepth 100000 in
theorem pow_of {W : World} (h : laidMet Tryz.prog [("math/bits.deBruijn32tab", Rows.laid_math_bits_deBruijn32tab), ("math/bits.deBruijn64tab", Rows.laid_math_bits_deBruijn64tab), ("internal/strconv.uint64pow10", Rows.laid_internal_strconv_uint64pow10), ("unicode/utf8.acceptRanges", Rows.laid_unicode_utf8_acceptRanges), ("unicode/utf8.first", Rows.laid_unicode_utf8_first)] W) : EnvP W := by
  have h3 : laidMet Tryz.prog (("internal/strconv.uint64pow10", Lib.tabData .u64 Lib.pow10Tab) :: [("unicode/utf8.acceptRanges", Rows.laid_unicode_utf8_acceptRanges), ("unicode/utf8.first", Rows.laid_unicode_utf8_first)]) W := h.tail.tail
  exact Lib.tabIs_of_head gPow tPow Tryz.underlying193 Tryz.underlying126 (by kernel_rfl) (by kernel_rfl) h3
theorem envs {W : World} (h : laidMetH Tryz.prog Rows.hopsRequestsUptoRow.laid W) : EnvP W := by
  rw [MakeChecks.laidMetH_plain _ _ _ (by kernel_rfl)] at h
  exact pow_of h
theorem door (os : Os) (args : Array Value) : laidMetH Tryz.prog Rows.hopsRequestsUptoRow.laid ((laidOver (World.doorLaid Tryz.prog 400 os)).forCall (fun _ _ => 0) ⟨#[], args, []⟩).memory :=
  laidMetH_of_parts3 (fuel := 8) (laidMet_of_run' 8 (by kernel_rfl) (by kernel_rfl)) (by kernel_rfl) (by kernel_rfl)
theorem readsHopsRequests (os : Os) {H : Type} (enc : TypeId × Value → H) : ∃ places, DataW.whole enc Tryz.prog ((laidOver (World.doorLaid Tryz.prog 400 os)).forCall (fun _ _ => 0) ⟨#[], #[.agg #[.string ⟨#[]⟩, .string ⟨#[]⟩, .int .i64 0, .slice none 0 0], .string ⟨#[]⟩, .int .i64 0], []⟩).memory Tryz.f4.params.toList Rows.hopsRequestsSpec.vars false (#[.agg #[.string ⟨#[]⟩, .string ⟨#[]⟩, .int .i64 0, .slice none 0 0], .string ⟨#[]⟩, .int .i64 0] : Array Value).toList 8 = some ([.agg [.lit (.string []), .lit (.string []), .lit (.int .i64 0), .nil], .lit (.string []), .lit (.int .i64 0)], [], places) :=
  ⟨[], by kernel_rfl⟩
set_option maxRecDepth 100000 in
theorem liftedHopsRequests (os : Os) (started : os.Started) (H : Type) (enc : TypeId × Value → H) (F : Stop.Interp) :
    ReturnsInHanded {} Tryz.checked os 4 .any ((Rows.OpenSpec.upto Rows.hopsRequestsSpec).preRow enc Tryz.prog Tryz.f4 Rows.hopsRequestsUptoRow.domain false Rows.hopsRequestsUptoRow.laid) (((Rows.OpenSpec.upto Rows.hopsRequestsSpec).at F).post enc Tryz.prog Tryz.f4 false true false false) := by
  obtain ⟨places, hx⟩ := readsHopsRequests os enc
  refine returnsInHanded_of_row (C := Tryz.checked) (s := Rows.OpenSpec.upto Rows.hopsRequestsSpec) own started (by kernel_rfl) Tryz.func4
    (witness_row_atRef (enc := enc) (C := Tryz.checked) false (laidOver (World.doorLaid Tryz.prog 400 os)) #[.agg #[.string ⟨#[]⟩, .string ⟨#[]⟩, .int .i64 0, .slice none 0 0], .string ⟨#[]⟩, .int .i64 0] rfl (by kernel_rfl) (by kernel_rfl) (by kernel_rfl)
      (OpenSpec.preRow_of_cond 8 hx (by kernel_rfl) (fun k hk => by cases hk; kernel_rfl) (by kernel_rfl) (door os _))) ?_
  intro W base args ds gs before hval0 hW _ hcond _ hL hsh _
  have hval : ∀ (j : Nat) t v, Tryz.f4.params[j]? = some t → args[j]? = some v → Value.okWide Tryz.prog W .any base t v := hval0
  have hk : Rows.uptoSmall H (ds ++ gs) = true := hcond _ rfl
  have hW' := hW
  obtain ⟨p, q, hA0, hV, rfl, hfz, hnd⟩ := hW
  have hA : DataW.TrodAll enc Tryz.prog W 0 (fun _ => true) true Tryz.f4.params.toList args.toList ds p := hA0
  rw [Tryz.params4] at hA hval
  obtain ⟨v0, v1, v2, d0, d1, d2, p0, p1, p2, rfl, rfl, rfl, h0, h1, h2⟩ := trodAll_three hA
  obtain ⟨rfl, rfl⟩ := trodVars_none hV
  have hlt0 : ∀ x ∈ p0, x.block < W.heap.size := fun x hx => hW'.lt x (by simp [hx])
  obtain ⟨s, rfl, rfl, rfl, hs⟩ := open_string Tryz.underlying9 (hval 1 9 v1 rfl rfl) h1
  obtain ⟨k1, rfl, rfl, rfl, hk1⟩ := open_int Tryz.underlying3 (hval 2 3 v2 rfl rfl) h2
  obtain ⟨ys, rfl, _⟩ := okWide_struct Tryz.underlying54 (hval 0 54 v0 rfl rfl)
  obtain ⟨fuel0, hd0⟩ := h0
  have hd0' : DataW.trod enc Tryz.prog W 0 (fun _ => true) true fuel0 54 ys.toList = some (d0, p0) := hd0
  obtain ⟨m, t, k, fs, fp, fc, hv, hF, hw⟩ := open_request fuel0 _ _ hd0'
  clear hA0 hval0
  have hbulk := of_decide_eq_true hk
  simp only [List.append_nil, Rows.uptoBulkAll, Rows.uptoBulk] at hbulk
  simp only at hw
  have ea : s.data.toList.length = s.size := by simp
  obtain ⟨hl1, hl2⟩ := wtF_len fs
  have hcall := show Calls Tryz.prog 4 #[.agg #[.string (str m), .string (str t), .int .i64 k, .slice fp fs.length fc], .string s, .int .i64 k1] W _ from by
    rw [← str_back s]
    by_cases hn5 : 500 < fs.length
    · exact hreqs_few (str m) (str t) k k1 fp fs.length fc _ W (envs hL) (mxLen hsh) hn5
    · exact hreqs m t k k1 fs fp fs.length fc rfl s.data.toList W hF (fun f hf => by have := hl2 f hf; omega) (by omega) (by omega) (by omega) (bounds_i64 hk1).1 (bounds_i64 hk1).2 (onQ_sz1 (by omega) (bounds_i64 hk1).1 (bounds_i64 hk1).2) (envs hL) (mxLen hsh) (by omega)
  rw [show (#[.string (str m), .string (str t), .int .i64 k, .slice fp fs.length fc] : Array Value) = ys from by rw [← Array.toArray_toList (xs := ys), hv]] at hcall
  refine hcall.mono fun e W' ⟨he, bel⟩ => ?_
  subst he
  exact ⟨_, rfl, _, _, _, [], _, [], hW', trodAll_mk1 (shut_bool Tryz.underlying4 _),
    trodAll_mk3 (Below.trod laidOut (by kernel_rfl) (of_decide_eq_true (by kernel_rfl)) ⟨fuel0, hd0⟩ bel hlt0) (shut_string Tryz.underlying9 hs) (shut_int Tryz.underlying3 hk1),
    rfl, bel.frame _, fun h => by cases h⟩
theorem rowHopsRequests_holds : Rows.HopsRequestsUptoSaid :=
  OpenClaim.holds_of_cond 4 Tryz.f4 rfl rfl rfl rfl rfl rfl rfl ⟨rfl, rfl, rfl, rfl, rfl⟩ rfl rfl rfl rfl rfl (by kernel_rfl) Tryz.func4 (by kernel_rfl)
    (of_decide_eq_true (by kernel_rfl)) (by unfold Func.isWrapper; first | (rw [if_pos (by decide +kernel)]; kernel_rfl) | (rw [if_neg (by decide +kernel)]; exact ⟨rfl, rfl⟩))
    (fun os started H enc _ F => by rw [OpenClaim.pre_eq_preRow]; exact liftedHopsRequests os started H enc F)
end Go.Proofs.YtnlmjlfoeodleaaGreatDoor.HopsRequests
namespace Go.Proofs.YtnlmjlfoeodleaaGreatDoor
theorem hopsRequestsUpto_holds : Rows.HopsRequestsUptoCardSaid :=
  Claim7.holds_tied_plain_at .later [] _ _ _ _
    HopsRequests.rowHopsRequests_holds (fun _ h => by cases h) (by kernel_rfl) (fun _ h => by cases h) hopsRequestsUpto_row_tie rfl ⟨rfl, rfl⟩ (by kernel_rfl) rfl
    (fun f fn hf hfn => by
      obtain rfl : f = 4 := Option.some.inj ((show Tryz.prog.funcNamed "turnstile/turnstilelaw14.HopsRequests" = some 4 by kernel_rfl).symm.trans hf) |>.symm
      obtain rfl : fn = Tryz.f4 := (Option.some.inj (Tryz.func4.symm.trans hfn)).symm
      exact ⟨by kernel_rfl, fun j t ht => by
        rw [Tryz.params4] at ht
        have hm : t ∈ [54, 9, 3] := by simpa using Array.mem_of_getElem? ht
        have hall : ([54, 9, 3].all fun u => !Tryz.prog.wantsStandIn u) = true := by kernel_rfl
        exact (show Tryz.prog.wantsStandIn t = false by simpa using List.all_eq_true.1 hall t hm)⟩)
    (by kernel_rfl)
#print axioms hopsRequestsUpto_holds
end Go.Proofs.YtnlmjlfoeodleaaGreatDoor
