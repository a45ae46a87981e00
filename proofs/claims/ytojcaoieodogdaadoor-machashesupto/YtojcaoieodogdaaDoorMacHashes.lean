/- For every text, every row of texts and every number whose bulk together is at most 1048576 the law MacHashes returns true and leaves its arguments as they were; the table of constants is tied to the program's text (the tie is given). -/
import Derived.Test.YtojcaoieodogdaaDoorRows
import Derived.Test.YtojcaoieodogdaaDoorCards
import Derived.Test.YtojcaoieodogdaaDoorTie
import Derived.Test.YtojcaoieodogdaaDoorOpen
import Derived.Test.YtojcaoieodogdaaDoorMHashWalk
import Derived.SliceStrings
import Derived.LaidMore
import Derived.ShutString
import Derived.ChangeOld
import Derived.Stop.Joined
import Derived.Stop.LaidErr
import Derived.Deep.DeepHandedRow
import Derived.Deep.DeepWitnessRowRef
import Derived.SevenTiedAt
namespace Go.Proofs.YtojcaoieodogdaaDoor.MHashes
open Go.ChangeShapes Go.WideShapes Go.ChangeAt Go.RowKit
open Go.ChangeMaps (open_string shut_string)

theorem door (os : Os) (args : Array Value) : laidMetH Tryd.prog Rows.macHashesUptoRow.laid ((World.doorLaid Tryd.prog 400 os).forCall (fun _ _ => 0) ⟨#[], args, []⟩).memory :=
  laidMetH_of_parts3 (fuel := 8) (laidMet_of_run' 8 (by kernel_rfl) (by kernel_rfl)) (by kernel_rfl) (by kernel_rfl)
theorem env {W : World} (h : laidMetH Tryd.prog Rows.macHashesUptoRow.laid W) : KAt W := by
  rw [MakeChecks.laidMetH_plain _ _ _ (by kernel_rfl)] at h
  exact kAt_of h
theorem params5 : Tryd.f5.params = #[9, 39, 40] := by kernel_rfl
theorem cells9 : Tryd.prog.cellsOf 9 = 1 := by kernel_rfl
theorem reads (os : Os) {H : Type} (enc : TypeId × Value → H) : ∃ places, DataW.whole enc Tryd.prog ((World.doorLaid Tryd.prog 400 os).forCall (fun _ _ => 0) ⟨#[], #[.string ByteArray.empty, .slice none 0 0, .int .u64 0], []⟩).memory Tryd.f5.params.toList Rows.macHashesSpec.vars false #[Value.string ByteArray.empty, .slice none 0 0, .int .u64 0].toList 8 = some ([.lit (.string []), .nil, .lit (.int .u64 0)], [], places) :=
  ⟨[], by kernel_rfl⟩
theorem bulk_strs {H : Type} : ∀ l : List ByteArray, Rows.uptoBulkAll (strs (H := H) l) = (outOf l).length
  | [] => rfl
  | s :: l => by
    have e : strs (H := H) (s :: l) = .lit (.string s.data.toList) :: strs l := rfl
    rw [e]
    simp only [Rows.uptoBulkAll, Rows.uptoBulk]
    rw [bulk_strs l]
    have e2 : outOf (s :: l) = intsOf s ++ [0] ++ outOf l := by simp [outOf]
    rw [e2, List.length_append, List.length_append, intsOf_len]
    simp
theorem out_len (l : List ByteArray) : l.length ≤ (outOf l).length := by
  induction l with
  | nil => simp
  | cons s l ih =>
    have e2 : outOf (s :: l) = intsOf s ++ [0] ++ outOf l := by simp [outOf]
    rw [e2, List.length_append, List.length_append]
    simp
    omega
set_option maxRecDepth 100000 in
theorem open_texts {H : Type} {enc : TypeId × Value → H} {W : World} {base : Nat} {v : Value} {d : DataW H} {p : List MemPlace} (hv : Value.okWide Tryd.prog W .any base 39 v) (h : DataW.Trod enc Tryd.prog W 0 (fun _ => true) true 39 v d p) (hb : Rows.uptoBulk d ≤ 1048576) :
    ∃ L : List ByteArray, StrsAt W v L ∧ (∀ s ∈ L, s.size ≤ maxLen) ∧ L.length ≤ 1048576 ∧ (outOf L).length ≤ 4194304 := by
  obtain ⟨pa, len0, cap0, rfl⟩ := okWide_slice Tryd.underlying39 hv
  obtain ⟨fuel, hf⟩ := h
  rcases open_strings Tryd.underlying39 Tryd.underlying9 cells9 hf with ⟨hcs, _⟩ | ⟨a, len, cap, ss, hcs, h1, h2, h3, h4, h5, h6, h7⟩
  · simp only [Value.cells] at hcs
    obtain ⟨rfl, rfl, rfl⟩ : pa = none ∧ len0 = 0 ∧ cap0 = 0 := by simpa using hcs
    exact ⟨[], .inl ⟨rfl, rfl⟩, fun s hs => by simp at hs, by simp, by simp [outOf]⟩
  · simp only [Value.cells] at hcs
    obtain ⟨rfl, rfl, rfl⟩ : pa = some a ∧ len0 = len ∧ cap0 = cap := by simpa using hcs
    obtain ⟨hs, hbl⟩ := slice_place Tryd.underlying39 hv
    obtain ⟨b, o, sp⟩ := a
    simp only at hs hbl
    subst hs
    simp only [if_true] at h4
    have hd : d = .slice (strs (ss.take len0)) (strs (ss.drop len0)) := congrArg Prod.fst h5
    subst hd
    simp only [Rows.uptoBulk] at hb
    rw [bulk_strs, bulk_strs] at hb
    have hl : (ss.take len0).length = len0 := by simp; omega
    have hle := out_len (ss.take len0)
    refine ⟨ss.take len0, .inr ⟨b, o, cap0, hbl, by rw [hl], by omega, h3, ?_⟩, fun s hs => h7 s (List.mem_of_mem_take hs), by omega, by omega⟩
    intro j s hj
    rw [List.getElem?_take] at hj
    split at hj
    · have := h6 j (by omega)
      rw [Go.WideShapes.add_plain] at this
      rw [this]
      simp [List.getD, hj]
    · simp at hj
set_option maxRecDepth 100000 in
theorem lifted (os : Os) (started : os.Started) (H : Type) (enc : TypeId × Value → H) (F : Stop.Interp) :
    ReturnsInHanded {} Tryd.checked os 5 .any ((Rows.OpenSpec.upto Rows.macHashesSpec).preRow enc Tryd.prog Tryd.f5 Rows.macHashesUptoRow.domain false Rows.macHashesUptoRow.laid) (((Rows.OpenSpec.upto Rows.macHashesSpec).at F).post enc Tryd.prog Tryd.f5 false true false false) := by
  obtain ⟨places, hx⟩ := reads os enc
  refine returnsInHanded_of_row (C := Tryd.checked) (s := Rows.OpenSpec.upto Rows.macHashesSpec) own started (by kernel_rfl) Tryd.func5
    (witness_row_atRef (enc := enc) (C := Tryd.checked) false (World.doorLaid Tryd.prog 400 os) #[.string ByteArray.empty, .slice none 0 0, .int .u64 0] rfl (by kernel_rfl) (by kernel_rfl) (by kernel_rfl)
      (OpenSpec.preRow_of_cond 8 hx (by kernel_rfl) (fun k hk => by cases hk; kernel_rfl) (by kernel_rfl) (door os _))) ?_
  intro W base args ds gs before hval0 hW _ hcond _ hL _ _
  have hval : ∀ (j : Nat) t v, Tryd.f5.params[j]? = some t → args[j]? = some v → Value.okWide Tryd.prog W .any base t v := hval0
  have hk : Rows.uptoSmall H (ds ++ gs) = true := hcond _ rfl
  have hW' := hW
  obtain ⟨p, q, hA0, hV, rfl, hfz, hnd⟩ := hW
  have hA : DataW.TrodAll enc Tryd.prog W 0 (fun _ => true) true Tryd.f5.params.toList args.toList ds p := hA0
  rw [params5] at hA hval
  obtain ⟨v0, v1, v2, d0, d1, d2, p0, p1, p2, rfl, rfl, rfl, h0, h1, h2⟩ := trodAll_three hA
  obtain ⟨rfl, rfl⟩ := trodVars_none hV
  have hlt1 : ∀ x ∈ p1, x.block < W.heap.size := fun x hx => hW'.lt x (by simp [hx])
  have hbulk := of_decide_eq_true hk
  simp only [List.append_nil, Rows.uptoBulkAll] at hbulk
  obtain ⟨s, rfl, rfl, rfl, hs⟩ := open_string Tryd.underlying9 (hval 0 9 v0 rfl rfl) h0
  obtain ⟨L, hS, hz, hN, hO⟩ := open_texts (hval 1 39 v1 rfl rfl) h1 (by omega)
  obtain ⟨n, rfl, rfl, rfl, wn⟩ := open_int Tryd.underlying40 (hval 2 40 v2 rfl rfl) h2
  have bn := bounds_u64 wn
  obtain ⟨m, rfl⟩ : ∃ m : Nat, n = m := ⟨n.toNat, by omega⟩
  clear hA0 hval0
  refine (machashes_walk s v1 L m W (env hL) hS hs hz hN hO (by omega)).mono fun e W' ⟨he, bel⟩ => ?_
  subst he
  exact ⟨_, rfl, _, _, _, [], _, [], hW', trodAll_mk1 (shut_bool Tryd.underlying4 _), trodAll_mk3 (shut_string Tryd.underlying9 hs) (Below.trod laidOut (by kernel_rfl) (of_decide_eq_true (by kernel_rfl)) h1 bel hlt1) (shut_int Tryd.underlying40 wn), rfl, bel.frame _, fun h => by cases h⟩
theorem row_holds : Rows.MacHashesUptoSaid :=
  OpenClaim.holds_of_cond 5 Tryd.f5 rfl rfl rfl rfl rfl rfl rfl ⟨rfl, rfl, rfl, rfl, rfl⟩ rfl rfl rfl rfl rfl (by kernel_rfl) Tryd.func5 (by kernel_rfl)
    (of_decide_eq_true (by kernel_rfl)) (by unfold Func.isWrapper; first | (rw [if_pos (by decide +kernel)]; kernel_rfl) | (rw [if_neg (by decide +kernel)]; exact ⟨rfl, rfl⟩))
    (fun os started H enc _ F => by rw [OpenClaim.pre_eq_preRow]; exact lifted os started H enc F)
end Go.Proofs.YtojcaoieodogdaaDoor.MHashes
namespace Go.Proofs.YtojcaoieodogdaaDoor
theorem macHashesUpto_holds : Rows.MacHashesUptoCardSaid :=
  Claim7.holds_tied_plain_at .later [] _ _ _ _
    MHashes.row_holds (fun _ h => by cases h) (by kernel_rfl) (fun _ h => by cases h) macHashesUpto_row_tie rfl ⟨rfl, rfl⟩ (by kernel_rfl) rfl
    (fun f fn hf hfn => by
      obtain rfl : f = 5 := Option.some.inj ((show Tryd.prog.funcNamed "turnstile/turnstilelaw04.MacHashes" = some 5 by kernel_rfl).symm.trans hf) |>.symm
      obtain rfl : fn = Tryd.f5 := (Option.some.inj (Tryd.func5.symm.trans hfn)).symm
      exact ⟨by kernel_rfl, fun j t ht => by
        rw [MHashes.params5] at ht
        have hm : t ∈ [9, 39, 40] := by simpa using Array.mem_of_getElem? ht
        have hall : ([9, 39, 40].all fun u => !Tryd.prog.wantsStandIn u) = true := by kernel_rfl
        exact (show Tryd.prog.wantsStandIn t = false by simpa using List.all_eq_true.1 hall t hm)⟩)
    (by kernel_rfl)
#print axioms macHashesUpto_holds
end Go.Proofs.YtojcaoieodogdaaDoor
