/- For every block of 64 bytes and every number the law ShaParts returns true and leaves its arguments as they were; the table of constants and errors.errorType are tied to the program's text (the tie is given). -/
import Derived.Test.YthfjbfoipmjckaaDoorRows
import Derived.Test.YthfjbfoipmjckaaDoorCards
import Derived.Test.YthfjbfoipmjckaaDoorTie
import Derived.Test.YthfjbfoipmjckaaDoorOpen
import Derived.Test.YthfjbfoipmjckaaDoorPartsWalk
import Derived.LaidMore
import Derived.LaidHandle
import Derived.ChangeOld
import Derived.Stop.Joined
import Derived.Stop.LaidErr
import Derived.SevenTiedAt
namespace Go.Proofs.YthfjbfoipmjckaaDoor.Parts
open Go.ChangeShapes Go.WideShapes Go.ChangeAt Go.RowKit

theorem gErr : Tryd.prog.globalNamed "errors.errorType" = some 1 := by kernel_rfl
theorem rtyp : (Tryd.prog.cutTypes.find? (·.1 == "internal/reflectlite.rtype")).map (·.2) = some 83 := by kernel_rfl
theorem oneRow : ((List.range 124).filter fun t => Tryd.prog.rowNamed t [101, 114, 114, 111, 114]) = [42] := by kernel_rfl
theorem size : Tryd.prog.types.size = 124 := by kernel_rfl
theorem door (os : Os) (args : Array Value) : laidMetH Tryd.prog Rows.shaPartsRow.laid ((World.doorLaid Tryd.prog 400 os).forCall (fun _ _ => 0) ⟨#[], args, []⟩).memory :=
  laidMetH_of_parts3 (fuel := 8) (laidMet_of_run' 8 (by kernel_rfl) (by kernel_rfl)) (by kernel_rfl) (by kernel_rfl)
set_option maxRecDepth 100000 in
theorem env {W : World} (h : laidMetH Tryd.prog Rows.shaPartsRow.laid W) : KAt W ∧ ErrAt W := by
  have h' : laidMet Tryd.prog [("turnstile/sha.constants", Rows.laid_turnstile_sha_constants)] W ∧ handlesMet Tryd.prog [("errors.errorType", Rows.laid_errors_errorType)] W := h
  refine ⟨kAt_of h'.1, ?_⟩
  obtain ⟨name, u, ty, e1, e2, e3, e4, e5⟩ := h'.2 _ (List.mem_singleton.2 rfl)
  have en : name = [101, 114, 114, 111, 114] := (Option.some.inj e1).symm
  subst en
  obtain rfl := Option.some.inj (rtyp.symm.trans e2)
  have hm : ty ∈ (List.range 124).filter fun t => Tryd.prog.rowNamed t [101, 114, 114, 111, 114] := List.mem_filter.2 ⟨List.mem_range.2 (by rw [← size]; exact e3), e4⟩
  rw [oneRow] at hm
  obtain rfl := List.mem_singleton.1 hm
  have hh : typeHandle Tryd.prog 42 = .pointer (some ⟨2, 42, none⟩) := by kernel_rfl
  rw [hh] at e5
  have := World.var?_cell gErr e5 0
  unfold ErrAt
  simpa using this
theorem params4 : Tryd.f4.params = #[35, 3] := by kernel_rfl
theorem cells35 : Tryd.prog.cellsOf 35 = 64 := by kernel_rfl
def numOf : Value → Int
  | .int _ n => n
  | _ => 0
set_option maxRecDepth 100000 in
theorem open_block {H : Type} {enc : TypeId × Value → H} {W : World} {base : Nat} {v : Value} {d : DataW H} {p : List MemPlace} (hv : Value.okWide Tryd.prog W .any base 35 v) (h : DataW.Trod enc Tryd.prog W 0 (fun _ => true) true 35 v d p) :
    ∃ blk : List Int, v = .agg (bsv blk) ∧ blk.length = 64 ∧ ∀ x ∈ blk, 0 ≤ x ∧ x < 256 := by
  simp only [Value.okWide, und35] at hv
  obtain ⟨cs, rfl, hsz, _⟩ := hv
  rw [cells35] at hsz
  obtain ⟨fuel, hf⟩ := h
  have each : ∀ i : Nat, i < 64 → ∃ m : Int, cs[i]? = some (.int .u8 m) ∧ (Lit.int .u8 m).wf = true := by
    intro i hi
    cases fuel with
    | zero => simp [DataW.trod] at hf
    | succ n =>
      unfold DataW.trod at hf
      rw [und35] at hf
      simp only [Value.cells, cells5, Nat.mul_one] at hf
      split at hf
      · obtain ⟨xs, hx, _⟩ := Option.map_eq_some_iff.1 hf
        have hg := mapM_some_get hx i i (by simp [hi])
        have hl := mapM_some_length hx
        obtain ⟨y, hy⟩ : ∃ y, xs[i]? = some y := ⟨_, List.getElem?_eq_getElem (by simp at hl; omega)⟩
        rw [hy] at hg
        obtain ⟨m, hm, _, hw⟩ := DataW.trod_int Tryd.underlying5 hg
        refine ⟨m, ?_, hw⟩
        have e : ((cs.toList.drop i).take 1)[0]? = some (.int .u8 m) := by rw [hm]; rfl
        simpa using e
      · simp at hf
  refine ⟨cs.toList.map numOf, ?_, by simp [hsz], ?_⟩
  · congr 1
    apply Array.ext_getElem?
    intro i
    by_cases hi : i < 64
    · obtain ⟨m, hm, _⟩ := each i hi
      rw [hm]
      simp [bsv, hm, numOf]
    · rw [Array.getElem?_eq_none (by omega), Array.getElem?_eq_none (by simp [bsv, hsz]; omega)]
  · intro x hx
    obtain ⟨c, hc, rfl⟩ := List.mem_map.1 hx
    obtain ⟨i, hi⟩ := List.getElem?_of_mem hc
    have hlt : i < 64 := by have := (List.getElem?_eq_some_iff.1 hi).1; simp at this; omega
    obtain ⟨m, hm, hw⟩ := each i hlt
    rw [Array.getElem?_toList] at hi
    rw [hm] at hi
    obtain rfl := (Option.some.inj hi).symm
    simp only [Lit.wf, IntKind.min, IntKind.max, IntKind.signed, IntKind.bits, Bool.and_eq_true] at hw
    simp [numOf]
    simp at hw
    omega
set_option maxRecDepth 100000 in
theorem lifted (os : Os) (started : os.Started) (H : Type) (enc : TypeId × Value → H) :
    ReturnsInHanded {} Tryd.checked os 4 .any (fun w args => (Rows.shaPartsSpec.pre enc Tryd.prog Tryd.f4 [] false w args ∧ laidMetH Tryd.prog Rows.shaPartsRow.laid w) ∧ sizedMet enc Tryd.prog Tryd.f4 (OpenSpec.ofChange Rows.shaPartsSpec) false w args)
      (Rows.shaPartsSpec.post enc Tryd.prog Tryd.f4 false true false false) := by
  refine returnsInHanded_of_change_and (C := Tryd.checked) (X := fun w _ => laidMetH Tryd.prog Rows.shaPartsRow.laid w) (fun _ _ _ hh h => h.of_heap hh) own started (by kernel_rfl) Tryd.func4
    (ChangeSpec.witness_shaped (enc := enc) (C := Tryd.checked) (os := os) (X := fun w _ => laidMetH Tryd.prog Rows.shaPartsRow.laid w) false (World.doorLaid Tryd.prog 400 os) #[.agg (bsv (List.replicate 64 0)), .int .i64 0] 8 rfl (World.shaped_of_RefB (by kernel_rfl) (by kernel_rfl)) (by kernel_rfl) (by kernel_rfl) (by kernel_rfl) (door os _)) ?_
  intro W base args ds gs before hval0 hW _ _ hL _
  have hval : ∀ (j : Nat) t v, Tryd.f4.params[j]? = some t → args[j]? = some v → Value.okWide Tryd.prog W .any base t v := hval0
  have hW' := hW
  obtain ⟨p, q, hA0, hV, rfl, hfz, hnd⟩ := hW
  have hA : DataW.TrodAll enc Tryd.prog W 0 (fun _ => true) true Tryd.f4.params.toList args.toList ds p := hA0
  rw [params4] at hA hval
  obtain ⟨v0, v1, d0, d1, p0, p1, rfl, rfl, rfl, h0, h1⟩ := trodAll_two hA
  obtain ⟨rfl, rfl⟩ := trodVars_none hV
  have hlt0 : ∀ x ∈ p0, x.block < W.heap.size := fun x hx => hW'.lt x (by simp [hx])
  obtain ⟨blk, rfl, hl, hbd⟩ := open_block (hval 0 35 v0 rfl rfl) h0
  obtain ⟨n, rfl, rfl, rfl, wn⟩ := open_int Tryd.underlying3 (hval 1 3 v1 rfl rfl) h1
  clear hA0 hval0
  refine (parts_some blk hl hbd n W (env hL).1 (env hL).2).mono fun e W' ⟨he, bel⟩ => ?_
  subst he
  exact ⟨_, rfl, _, _, _, [], _, [], hW', trodAll_mk1 (shut_bool Tryd.underlying4 _),
    trodAll_mk2 (Below.trod laidOut (by kernel_rfl) (of_decide_eq_true (by kernel_rfl)) h0 bel hlt0) (shut_int Tryd.underlying3 wn),
    rfl, bel.frame _, fun h => by cases h⟩
theorem row_holds : Rows.ShaPartsSaid :=
  OpenClaim.holds_of_wide 4 Tryd.f4 rfl rfl rfl rfl rfl rfl rfl ⟨rfl, rfl, rfl, rfl, rfl⟩ rfl rfl rfl rfl rfl (by kernel_rfl) Tryd.func4 (by kernel_rfl)
    (of_decide_eq_true (by kernel_rfl)) (by unfold Func.isWrapper; first | (rw [if_pos (by decide +kernel)]; kernel_rfl) | (rw [if_neg (by decide +kernel)]; exact ⟨rfl, rfl⟩))
    (fun os started H enc _ => lifted os started H enc)
end Go.Proofs.YthfjbfoipmjckaaDoor.Parts
namespace Go.Proofs.YthfjbfoipmjckaaDoor
theorem shaParts_holds : Rows.ShaPartsCardSaid :=
  Claim7.holds_tied_plain_at .later [] [.handle, .data] true (true, "41c1efe880839145e1a4e06dc6a72a6500f6930146cb4d097f5fbe9affa069c1") true
    Parts.row_holds (fun _ h => by cases h) (by kernel_rfl) (fun _ h => by cases h) shaParts_row_tie rfl ⟨rfl, rfl⟩ (by kernel_rfl) rfl
    (fun f fn hf hfn => by
      obtain rfl : f = 4 := Option.some.inj ((show Tryd.prog.funcNamed "turnstile/turnstilelaw03.ShaParts" = some 4 by kernel_rfl).symm.trans hf) |>.symm
      obtain rfl : fn = Tryd.f4 := (Option.some.inj (Tryd.func4.symm.trans hfn)).symm
      exact ⟨by kernel_rfl, fun j t ht => by
        rw [Parts.params4] at ht
        have hm : t ∈ [35, 3] := by simpa using Array.mem_of_getElem? ht
        have hall : ([35, 3].all fun u => !Tryd.prog.wantsStandIn u) = true := by kernel_rfl
        exact (show Tryd.prog.wantsStandIn t = false by simpa using List.all_eq_true.1 hall t hm)⟩)
    (by kernel_rfl)
#print axioms shaParts_holds
end Go.Proofs.YthfjbfoipmjckaaDoor
