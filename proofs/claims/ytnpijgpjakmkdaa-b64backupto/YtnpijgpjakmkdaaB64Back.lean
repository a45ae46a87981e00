/- For all bytes and every text whose bulk together is at most 1048576 the law B64Back returns true and leaves its arguments as they were. -/
import Derived.Test.YtnpijgpjakmkdaaRows
import Derived.Test.YtnpijgpjakmkdaaBackWalk
import Derived.ProofKit
import Derived.OpenShut
import Derived.ShutString
import Derived.ChangeOld
import Derived.JoinedCond
namespace Go.Proofs.Ytnpijgpjakmkdaa
open Go.ChangeShapes Go.WideShapes Go.ChangeAt Go.RowKit
open Go.ChangeMaps (open_string shut_string)

theorem own : ownKnob Try.prog.godebug = none := by kernel_rfl
theorem laidOut : laidOutB Try.prog = true := by kernel_rfl
theorem cells5 : Try.prog.cellsOf 5 = 1 := by kernel_rfl
theorem bulk_lits {H : Type} : ∀ l : List Int, Rows.uptoBulkAll (lits (H := H) .u8 l) = l.length
  | [] => rfl
  | x :: l => by
    have e : lits (H := H) .u8 (x :: l) = .lit (.int .u8 x) :: lits .u8 l := rfl
    rw [e]
    simp only [Rows.uptoBulkAll, Rows.uptoBulk, List.length_cons]
    rw [bulk_lits l]
    omega
set_option maxRecDepth 100000 in
theorem slice_place {W : World} {base t e len cap : Nat} {a : Addr} (ht : Try.prog.underlying t = some (.slice e)) (hv : Value.okWide Try.prog W .any base t (.slice (some a) len cap)) : a.spot = none ∧ a.block < W.heap.size := by
  simp only [Value.okWide, ht, Cell.okWide, Cell.ok] at hv
  obtain ⟨_, _, _, h1, row, cells, h2, _⟩ := hv
  refine ⟨h1, ?_⟩
  unfold World.shape? at h2
  rcases Nat.lt_or_ge a.block W.heap.size with h | h
  · exact h
  · rw [Array.getElem?_eq_none h] at h2; simp at h2
set_option maxRecDepth 100000 in
theorem open_bytesU {H : Type} {enc : TypeId × Value → H} {W : World} {base : Nat} {v : Value} {d : DataW H} {p : List MemPlace} (hv : Value.okWide Try.prog W .any base 22 v) (h : DataW.Trod enc Try.prog W 0 (fun _ => true) true 22 v d p) (hw : Rows.uptoBulk d ≤ 1048576) :
    ∃ (bs : List Int) (pv : Option Addr) (N c : Nat), v = .slice pv N c ∧ bs.length = N ∧ ArgAt W (.slice pv N c) bs ∧ Oct bs ∧ N ≤ 1048576 := by
  obtain ⟨pa, len0, cap0, rfl⟩ := okWide_slice Try.underlying22 hv
  obtain ⟨fuel, hf⟩ := h
  rcases open_ints Try.underlying22 Try.underlying5 cells5 hf with ⟨hcs, _⟩ | ⟨a, len, cap, zs, hcs, h1, h2, h3, h4, h5, h6, h7⟩
  · simp only [Value.cells] at hcs
    obtain ⟨rfl, rfl, rfl⟩ : pa = none ∧ len0 = 0 ∧ cap0 = 0 := by simpa using hcs
    exact ⟨[], none, 0, 0, rfl, rfl, .inl ⟨rfl, rfl⟩, fun x hx => by simp at hx, by omega⟩
  · simp only [Value.cells] at hcs
    obtain ⟨rfl, rfl, rfl⟩ : pa = some a ∧ len0 = len ∧ cap0 = cap := by simpa using hcs
    obtain ⟨hs, hb⟩ := slice_place Try.underlying22 hv
    obtain ⟨b, o, sp⟩ := a
    simp only at hs hb
    subst hs
    simp only [if_true] at h4
    have hd : d = .slice (lits .u8 (zs.take len0)) (lits .u8 (zs.drop len0)) := congrArg Prod.fst h5
    subst hd
    simp only [Rows.uptoBulk] at hw
    rw [bulk_lits, bulk_lits] at hw
    have hl : (zs.take len0).length = len0 := by simp; omega
    refine ⟨zs.take len0, some ⟨b, o, none⟩, len0, cap0, rfl, hl, .inr ⟨b, o, cap0, hb, by rw [hl], by omega, h3, ?_⟩, ?_, by omega⟩
    · intro j x hj
      rw [List.getElem?_take] at hj
      split at hj
      · have := h6 j (by omega)
        rw [Go.WideShapes.add_plain] at this
        rw [this]
        simp [List.getD, hj]
      · simp at hj
    · intro x hx
      have := bounds_u8 (h7 x (List.mem_of_mem_take hx))
      omega
theorem params3 : Try.f3.params = #[22, 9] := by kernel_rfl
set_option maxRecDepth 100000 in
theorem lifted (os : Os) (started : os.Started) (H : Type) (enc : TypeId × Value → H) (F : Stop.Interp) :
    ReturnsInHanded {} Try.checked os 3 .any ((Rows.OpenSpec.upto Rows.b64BackSpec).pre6 enc Try.prog Try.f3 Rows.b64BackUptoRow.domain false) (((Rows.OpenSpec.upto Rows.b64BackSpec).at F).post enc Try.prog Try.f3 false true false false) := by
  refine returnsInHanded_of_cond (C := Try.checked) (s := Rows.OpenSpec.upto Rows.b64BackSpec) (k := Rows.uptoSmall) rfl own started (by kernel_rfl) Try.func3
    (OpenSpec.witness (enc := enc) (C := Try.checked) (s := Rows.OpenSpec.upto Rows.b64BackSpec) (k := Rows.uptoSmall) rfl false ⟨#[], #[.slice none 0 0, .string ByteArray.empty], []⟩ 8 (by kernel_rfl) (by kernel_rfl) (by kernel_rfl)
      (x := ([.nil, .lit (.string [])], [], [])) (by kernel_rfl) rfl (by kernel_rfl)) ?_
  intro W base args ds gs before hval0 hW _ hk _
  have hval : ∀ (j : Nat) t v, Try.f3.params[j]? = some t → args[j]? = some v → Value.okWide Try.prog W .any base t v := hval0
  have hW' := hW
  obtain ⟨p, q, hA0, hV, rfl, hfz, hnd⟩ := hW
  have hA : DataW.TrodAll enc Try.prog W 0 (fun _ => true) true Try.f3.params.toList args.toList ds p := hA0
  rw [params3] at hA hval
  obtain ⟨v0, v1, d0, d1, p0, p1, rfl, rfl, rfl, h0, h1⟩ := trodAll_two hA
  obtain ⟨rfl, rfl⟩ := trodVars_none hV
  have hlt0 : ∀ x ∈ p0, x.block < W.heap.size := fun x hx => hW'.lt x (by simp [hx])
  have hbulk := of_decide_eq_true hk
  simp only [List.append_nil, Rows.uptoBulkAll] at hbulk
  obtain ⟨bs, pv, N, c, rfl, hN, hb, ho, hz⟩ := open_bytesU (hval 0 22 v0 rfl rfl) h0 (by omega)
  obtain ⟨s, rfl, rfl, rfl, hs⟩ := open_string Try.underlying9 (hval 1 9 v1 rfl rfl) h1
  have hsz : s.size ≤ 140737488355328 := by
    have e : Rows.uptoBulk (DataW.lit (H := H) (.string s.data.toList)) = s.size + 1 := by simp [Rows.uptoBulk]
    rw [e] at hbulk
    omega
  clear hA0 hval0
  refine (back_walk pv N c bs s W hb hN ho (by omega) hsz).mono fun e W' ⟨he, bel⟩ => ?_
  subst he
  exact ⟨_, rfl, _, _, _, [], _, [], hW', trodAll_mk1 (shut_bool Try.underlying4 _),
    trodAll_mk2 (Below.trod laidOut (by kernel_rfl) (of_decide_eq_true (by kernel_rfl)) h0 bel hlt0) (shut_string Try.underlying9 hs),
    rfl, bel.frame _, fun h => by cases h⟩
theorem b64BackUpto_holds : Rows.B64BackUptoSaid :=
  OpenClaim.holds_of_cond 3 Try.f3 rfl rfl rfl rfl rfl rfl rfl ⟨rfl, rfl, rfl, rfl, rfl⟩ rfl rfl rfl rfl rfl (by kernel_rfl) Try.func3 (by kernel_rfl)
    (of_decide_eq_true (by kernel_rfl)) (by unfold Func.isWrapper; first | (rw [if_pos (by decide +kernel)]; kernel_rfl) | (rw [if_neg (by decide +kernel)]; exact ⟨rfl, rfl⟩))
    (fun os started H enc _ F => lifted os started H enc F)
#print axioms b64BackUpto_holds
end Go.Proofs.Ytnpijgpjakmkdaa
