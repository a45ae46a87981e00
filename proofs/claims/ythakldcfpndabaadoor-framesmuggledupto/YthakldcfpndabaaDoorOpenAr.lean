/- What was handed in: an array of two whole numbers; a row of fields that is nil. -/
import Derived.Test.YthakldcfpndabaaDoorOpenQ
import Derived.OpenShut
namespace Go.Proofs.YthakldcfpndabaaDoor
open Go.RowKit Go.ChangeShapes

theorem okWide_arrG {P : Program} {t e : TypeId} {n : Nat} {W : World} {r : Reach} {base : Nat} {v : Value} (ht : P.underlying t = some (.array n e)) (h : Value.okWide P W r base t v) : ∃ cs, v = .agg cs := by
  simp only [Value.okWide, ht] at h
  obtain ⟨cs, h1, _⟩ := h
  exact ⟨cs, h1⟩
theorem open_arrG {H : Type} {enc : TypeId × Value → H} {P : Program} {t e : TypeId} {W : World} {sp : Nat → Bool} {held : Bool} (ht : P.underlying t = some (.array 2 e)) (he : P.underlying e = some (.int .i64)) (c2 : P.cellsOf t = 2) (c3 : P.cellsOf e = 1) (fuel : Nat) (cs : List Value) (x : DataW H × List MemPlace) (h : DataW.trod enc P W 0 sp held fuel t cs = some x) : ∃ (K N : Int), cs = [.int .i64 K, .int .i64 N] ∧ 2 ≤ Rows.uptoBulk x.1 := by
  obtain ⟨xs, n, rfl, rfl, hl, hx, hf⟩ := DataW.trod_array ht h
  rw [c2] at hl
  rcases cs with _ | ⟨d0, _ | ⟨d1, _ | ⟨d2, r⟩⟩⟩ <;> simp at hl
  rcases xs with _ | ⟨y0, _ | ⟨y1, _ | ⟨y2, r⟩⟩⟩ <;> simp at hx
  have f0 := hf 0 (by decide)
  have f1 := hf 1 (by decide)
  rw [c3] at f0 f1
  replace f0 : DataW.trod enc P W 0 sp held n e [d0] = some y0 := f0
  replace f1 : DataW.trod enc P W 0 sp held n e [d1] = some y1 := f1
  obtain ⟨s0, e0, rfl, _⟩ := DataW.trod_int he f0
  obtain ⟨s1, e1, rfl, _⟩ := DataW.trod_int he f1
  simp only [List.cons.injEq, and_true] at e0 e1
  subst e0 e1
  refine ⟨s0, s1, rfl, ?_⟩
  simp [Rows.uptoBulk, Rows.uptoBulkAll]
theorem open_arr2 {H : Type} {enc : TypeId × Value → H} {W : World} {sp : Nat → Bool} {held : Bool} (fuel : Nat) (cs : List Value) (x : DataW H × List MemPlace) (h : DataW.trod enc Tryd.prog W 0 sp held fuel 62 cs = some x) : ∃ (K N : Int), cs = [.int .i64 K, .int .i64 N] ∧ 2 ≤ Rows.uptoBulk x.1 :=
  open_arrG Tryd.underlying62 Tryd.underlying3 (by kernel_rfl) (by kernel_rfl) fuel cs x h
theorem open_nil {H : Type} {enc : TypeId × Value → H} {W : World} {sp : Nat → Bool} {held : Bool} (fuel : Nat) (n c : Nat) (x : DataW H × List MemPlace) (h : DataW.trod enc Tryd.prog W 0 sp held fuel 22 [.slice none n c] = some x) : n = 0 ∧ c = 0 := by
  rcases DataW.trod_slice Tryd.underlying22 h with ⟨e, rfl⟩ | ⟨a, len, cap, elems, rest, n2, rfl, e, _⟩
  · simp at e; exact e
  · simp at e
end Go.Proofs.YthakldcfpndabaaDoor
