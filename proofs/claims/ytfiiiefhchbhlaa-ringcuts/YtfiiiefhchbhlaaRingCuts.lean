/- For every text of bytes, every row of cuts and every number the law RingCuts returns true and leaves its arguments as they were. -/
import Derived.Test.YtfiiiefhchbhlaaOpen
import Derived.Test.YtfiiiefhchbhlaaCutsWalk
namespace Go.Proofs.Ytfiiiefhchbhlaa
open Go.ChangeShapes Go.WideShapes Go.ChangeAt Go.RowKit

theorem open_cuts {H : Type} {enc : TypeId × Value → H} {W : World} {base : Nat} {v : Value} {d : DataW H} {p : List MemPlace} (hv : Value.okWide Try.prog W .any base 52 v) (h : DataW.Trod enc Try.prog W 0 (fun _ => true) true 52 v d p) :
    ∃ (pc : Option Addr) (M c : Nat), v = .slice pc M c ∧ (M : Int) ≤ 9223372036854775807 ∧ CutsAt W pc M := by
  obtain ⟨pa, len0, cap0, rfl⟩ := okWide_slice Try.underlying52 hv
  obtain ⟨fuel, hf⟩ := h
  rcases open_ints Try.underlying52 Try.underlying3 cells3i hf with ⟨hcs, _⟩ | ⟨a, len, cap, zs, hcs, h1, h2, h3, h4, h5, h6, h7⟩
  · simp only [Value.cells] at hcs
    obtain ⟨rfl, rfl, rfl⟩ : pa = none ∧ len0 = 0 ∧ cap0 = 0 := by simpa using hcs
    exact ⟨none, 0, 0, rfl, by omega, fun k hk => by omega⟩
  · simp only [Value.cells] at hcs
    obtain ⟨rfl, rfl, rfl⟩ : pa = some a ∧ len0 = len ∧ cap0 = cap := by simpa using hcs
    obtain ⟨hs, hb⟩ := slice_place Try.underlying52 hv
    obtain ⟨b, o, sp⟩ := a
    simp only at hs hb
    subst hs
    simp only [if_true] at h4
    unfold maxLen at h3
    refine ⟨some ⟨b, o, none⟩, len0, cap0, rfl, by omega, ?_⟩
    intro k hk
    have := h6 k (by omega)
    rw [Go.WideShapes.add_plain] at this
    exact ⟨b, o, _, rfl, hb, this⟩
theorem params5 : Try.f5.params = #[28, 52, 3] := by kernel_rfl
set_option maxRecDepth 100000 in
theorem ringCuts_lifted (os : Os) (started : os.Started) (H : Type) (enc : TypeId × Value → H) :
    ReturnsInHanded {} Try.checked os 5 .any (Rows.ringCutsSpec.pre6 enc Try.prog Try.f5 Rows.ringCutsRow.domain false) (Rows.ringCutsSpec.post enc Try.prog Try.f5 false true false false) := by
  refine returnsInHanded_of_change (C := Try.checked) own started (by kernel_rfl) Try.func5
    (ChangeSpec.witness6 (enc := enc) (C := Try.checked) false ⟨#[], #[.slice none 0 0, .slice none 0 0, .int .i64 0], []⟩ 8 (by kernel_rfl) (by kernel_rfl) (by kernel_rfl) (by kernel_rfl)) ?_
  intro W base args ds gs before hval0 hW _ _
  have hval : ∀ (j : Nat) t v, Try.f5.params[j]? = some t → args[j]? = some v → Value.okWide Try.prog W .any base t v := hval0
  have hW' := hW
  obtain ⟨p, q, hA0, hV, rfl, hfz, hnd⟩ := hW
  have hA : DataW.TrodAll enc Try.prog W 0 (fun _ => true) true Try.f5.params.toList args.toList ds p := hA0
  rw [params5] at hA hval
  obtain ⟨v0, v1, v2, d0, d1, d2, p0, p1, p2, rfl, rfl, rfl, h0, h1, h2⟩ := trodAll_three hA
  obtain ⟨rfl, rfl⟩ := trodVars_none hV
  have hlt0 : ∀ x ∈ p0, x.block < W.heap.size := fun x hx => hW'.lt x (by simp [hx])
  have hlt1 : ∀ x ∈ p1, x.block < W.heap.size := fun x hx => hW'.lt x (by simp [hx])
  obtain ⟨bs, pv, N, c, rfl, hN, hb⟩ := open_bytes (hval 0 28 v0 rfl rfl) h0
  obtain ⟨pc, M, cc, rfl, hM, hc⟩ := open_cuts (hval 1 52 v1 rfl rfl) h1
  obtain ⟨n, rfl, rfl, rfl, wn⟩ := open_int Try.underlying3 (hval 2 3 v2 rfl rfl) h2
  clear hA0 hval0
  have bd := bounds_i64 wn
  refine (cuts_walk pv pc N c M cc bs n W hb hN hc hM bd.2).mono fun e W' ⟨he, bel⟩ => ?_
  subst he
  exact ⟨_, rfl, _, _, _, [], _, [], hW', trodAll_mk1 (shut_bool Try.underlying4 _),
    trodAll_mk3 (Below.trod laidOut (by kernel_rfl) (of_decide_eq_true (by kernel_rfl)) h0 bel hlt0) (Below.trod laidOut (by kernel_rfl) (of_decide_eq_true (by kernel_rfl)) h1 bel hlt1) (shut_int Try.underlying3 wn),
    rfl, bel.frame _, fun h => by cases h⟩
theorem ringCuts_holds : Rows.RingCutsSaid :=
  OpenClaim.holds_of_wide 5 Try.f5 rfl rfl rfl rfl rfl rfl rfl ⟨rfl, rfl, rfl, rfl, rfl⟩ rfl rfl rfl rfl rfl (by kernel_rfl) Try.func5 (by kernel_rfl)
    (of_decide_eq_true (by kernel_rfl)) (by unfold Func.isWrapper; first | (rw [if_pos (by decide +kernel)]; kernel_rfl) | (rw [if_neg (by decide +kernel)]; exact ⟨rfl, rfl⟩))
    (fun os started H enc _ => ringCuts_lifted os started H enc)
#print axioms ringCuts_holds
end Go.Proofs.Ytfiiiefhchbhlaa
