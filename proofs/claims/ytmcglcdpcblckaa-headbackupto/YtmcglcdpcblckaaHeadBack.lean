/- For every request and response whose bulk together is at most 1048576 the law HeadBack returns true and leaves its arguments as they were. -/
import Derived.Test.YtmcglcdpcblckaaRows
import Derived.Test.YtmcglcdpcblckaaLBack
import Derived.Test.YtmcglcdpcblckaaOpenQ
import Derived.ProofKit
import Derived.OpenShut
import Derived.ShutString
import Derived.ChangeOld
import Derived.JoinedCond
import Derived.ChangeArms
namespace Go.Proofs.Ytmcglcdpcblckaa
open Go.ChangeShapes Go.WideShapes Go.ChangeAt Go.RowKit
open Go.ChangeMaps (open_string shut_string)

theorem own : ownKnob Try.prog.godebug = none := by kernel_rfl
theorem laidOut : laidOutB Try.prog = true := by kernel_rfl
set_option maxRecDepth 100000 in
theorem lifted (os : Os) (started : os.Started) (H : Type) (enc : TypeId × Value → H) (F : Stop.Interp) :
    ReturnsInHanded {} Try.checked os 3 .any ((Rows.OpenSpec.upto Rows.headBackSpec).pre6 enc Try.prog Try.f3 Rows.headBackUptoRow.domain false) (((Rows.OpenSpec.upto Rows.headBackSpec).at F).post enc Try.prog Try.f3 false true false false) := by
  refine returnsInHanded_of_cond (C := Try.checked) (s := Rows.OpenSpec.upto Rows.headBackSpec) (k := Rows.uptoSmall) rfl own started (by kernel_rfl) Try.func3
    (OpenSpec.witness (enc := enc) (C := Try.checked) (s := Rows.OpenSpec.upto Rows.headBackSpec) (k := Rows.uptoSmall) rfl false ⟨#[], #[.agg #[.string ByteArray.empty, .string ByteArray.empty, .int .i64 0, .slice none 0 0], .agg #[.int .i64 0, .string ByteArray.empty, .int .i64 0, .slice none 0 0]], []⟩ 8 (by kernel_rfl) (by kernel_rfl) (by kernel_rfl)
      (x := ([.agg [.lit (.string []), .lit (.string []), .lit (.int .i64 0), .nil], .agg [.lit (.int .i64 0), .lit (.string []), .lit (.int .i64 0), .nil]], [], [])) (by kernel_rfl) rfl (by kernel_rfl)) ?_
  intro W base args ds gs before hval0 hW _ hk _
  have hval : ∀ (j : Nat) t v, Try.f3.params[j]? = some t → args[j]? = some v → Value.okWide Try.prog W .any base t v := hval0
  have hW' := hW
  obtain ⟨p, q, hA0, hV, rfl, hfz, hnd⟩ := hW
  have hA : DataW.TrodAll enc Try.prog W 0 (fun _ => true) true Try.f3.params.toList args.toList ds p := hA0
  rw [Try.params3] at hA hval
  obtain ⟨v0, v1, d0, d1, p0, p1, rfl, rfl, rfl, h0, h1⟩ := trodAll_two hA
  obtain ⟨rfl, rfl⟩ := trodVars_none hV
  have hlt0 : ∀ x ∈ p0, x.block < W.heap.size := fun x hx => hW'.lt x (by simp [hx])
  have hlt1 : ∀ x ∈ p1, x.block < W.heap.size := fun x hx => hW'.lt x (by simp [hx])
  have hbulk := of_decide_eq_true hk
  simp only [List.append_nil, Rows.uptoBulkAll] at hbulk
  obtain ⟨xs, rfl, _⟩ := okWide_struct Try.underlying24 (hval 0 24 v0 rfl rfl)
  obtain ⟨ys, rfl, _⟩ := okWide_struct Try.underlying26 (hval 1 26 v1 rfl rfl)
  obtain ⟨fuel0, hd0⟩ := h0
  obtain ⟨fuel1, hd1⟩ := h1
  have hd0' : DataW.trod enc Try.prog W 0 (fun _ => true) true fuel0 24 xs.toList = some (d0, p0) := hd0
  have hd1' : DataW.trod enc Try.prog W 0 (fun _ => true) true fuel1 26 ys.toList = some (d1, p1) := hd1
  obtain ⟨m, t, k, fs, fp, fc, hv, hF, hw⟩ := open_request fuel0 _ _ hd0'
  obtain ⟨s, r, k', fs', fp', fc', hv', hF', hw'⟩ := open_response fuel1 _ _ hd1'
  clear hA0 hval0
  simp only at hw hw'
  obtain ⟨hl1, hl2⟩ := wtF_len fs
  obtain ⟨hl1', hl2'⟩ := wtF_len fs'
  have hcall := back_walk m t k fs fp fs.length fc rfl s r k' fs' fp' fs'.length fc' rfl W hF (fun f hf => by have := hl2 f hf; omega) (by omega) (by omega) (by omega) hF' (fun f hf => by have := hl2' f hf; omega) (by omega) (by omega)
  rw [show (#[.string (str m), .string (str t), .int .i64 k, .slice fp fs.length fc] : Array Value) = xs from by rw [← Array.toArray_toList (xs := xs), hv], show (#[.int .i64 s, .string (str r), .int .i64 k', .slice fp' fs'.length fc'] : Array Value) = ys from by rw [← Array.toArray_toList (xs := ys), hv']] at hcall
  refine hcall.mono fun e W' ⟨he, bel⟩ => ?_
  subst he
  exact ⟨_, rfl, _, _, _, [], _, [], hW', trodAll_mk1 (shut_bool Try.underlying4 _),
    trodAll_mk2 (Below.trod laidOut (by kernel_rfl) (of_decide_eq_true (by kernel_rfl)) ⟨fuel0, hd0⟩ bel hlt0) (Below.trod laidOut (by kernel_rfl) (of_decide_eq_true (by kernel_rfl)) ⟨fuel1, hd1⟩ bel hlt1),
    rfl, bel.frame _, fun h => by cases h⟩
theorem headBackUpto_holds : Rows.HeadBackUptoSaid :=
  OpenClaim.holds_of_cond 3 Try.f3 rfl rfl rfl rfl rfl rfl rfl ⟨rfl, rfl, rfl, rfl, rfl⟩ rfl rfl rfl rfl rfl (by kernel_rfl) Try.func3 (by kernel_rfl)
    (of_decide_eq_true (by kernel_rfl)) (by unfold Func.isWrapper; first | (rw [if_pos (by decide +kernel)]; kernel_rfl) | (rw [if_neg (by decide +kernel)]; exact ⟨rfl, rfl⟩))
    (fun os started H enc _ F => lifted os started H enc F)
#print axioms headBackUpto_holds
end Go.Proofs.Ytmcglcdpcblckaa
