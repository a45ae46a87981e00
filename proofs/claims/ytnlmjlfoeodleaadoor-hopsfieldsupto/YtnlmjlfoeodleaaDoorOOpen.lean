/- What was handed in: bounds of numbers and rows. -/
import Derived.Test.YtnlmjlfoeodleaaDoorOpenQ
import Derived.OpenShut
namespace Go.Proofs.YtnlmjlfoeodleaaDoor
open Go.RowKit Go.ChangeShapes Go.WideShapes

theorem open_capO {H : Type} {enc : TypeId × Value → H} {W : World} {sp : Nat → Bool} {held : Bool} {fuel : Nat} {p : Option Addr} {n c : Nat} {x : DataW H × List MemPlace} (h : DataW.trod enc Tryd.prog W 0 sp held fuel 22 [.slice p n c] = some x) : p = none → c = 0 := by
  rcases DataW.trod_slice Tryd.underlying22 h with ⟨e, rfl⟩ | ⟨a, len, cap, elems, rest, n2, rfl, e, rfl, _⟩
  · simp only [List.cons.injEq, and_true, Value.slice.injEq] at e
    exact fun _ => e.2.2
  · simp only [List.cons.injEq, and_true, Value.slice.injEq] at e
    intro h
    rw [e.1] at h
    cases h
set_option maxHeartbeats 2000000 in
theorem open_frameO {H : Type} {enc : TypeId × Value → H} {W : World} {sp : Nat → Bool} {held : Bool} (fuel : Nat) (cs : List Value) (x : DataW H × List MemPlace) (h : DataW.trod enc Tryd.prog W 0 sp held fuel 24 cs = some x) : ∃ (K N : Int), cs = [.int .i64 K, .int .i64 N] ∧ (-9223372036854775808 ≤ N ∧ N ≤ 9223372036854775807) ∧ 1 ≤ Rows.uptoBulk x.1 := by
  obtain ⟨xs, n, rfl, rfl, hl, hx, hf⟩ := DataW.trod_struct Tryd.underlying24 h
  have c2 : Tryd.prog.cellsOf 24 = 2 := by kernel_rfl
  have c3 : Tryd.prog.cellsOf 3 = 1 := by kernel_rfl
  rw [c2] at hl
  have hx2 : xs.length = 2 := by rw [hx]; rfl
  rcases cs with _ | ⟨d0, _ | ⟨d1, _ | ⟨d2, r⟩⟩⟩ <;> simp at hl
  rcases xs with _ | ⟨y0, _ | ⟨y1, _ | ⟨y2, r⟩⟩⟩ <;> simp at hx2
  have f0 : DataW.trod enc Tryd.prog W 0 sp held n 3 (([d0, d1].drop 0).take (Tryd.prog.cellsOf 3)) = some y0 := hf 0 _ rfl
  rw [c3] at f0
  replace f0 : DataW.trod enc Tryd.prog W 0 sp held n 3 [d0] = some y0 := f0
  have f1 : DataW.trod enc Tryd.prog W 0 sp held n 3 (([d0, d1].drop 1).take (Tryd.prog.cellsOf 3)) = some y1 := hf 1 _ rfl
  rw [c3] at f1
  replace f1 : DataW.trod enc Tryd.prog W 0 sp held n 3 [d1] = some y1 := f1
  obtain ⟨s0, e0, rfl, _⟩ := DataW.trod_int Tryd.underlying3 f0
  obtain ⟨s1, e1, rfl, hwf1⟩ := DataW.trod_int Tryd.underlying3 f1
  simp only [List.cons.injEq, and_true] at e0 e1
  subst e0 e1
  refine ⟨s0, s1, rfl, bounds_i64 hwf1, ?_⟩
  simp [Rows.uptoBulk, Rows.uptoBulkAll]
  try omega
end Go.Proofs.YtnlmjlfoeodleaaDoor
