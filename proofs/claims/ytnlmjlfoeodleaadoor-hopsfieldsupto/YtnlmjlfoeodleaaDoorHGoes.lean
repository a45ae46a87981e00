/- The document's head: a line that goes on, its error's number. -/
import Derived.Test.YtnlmjlfoeodleaaDoorHStatus
namespace Go.Proofs.YtnlmjlfoeodleaaDoor
open Go.RowKit

def goesB (resp : Bool) (ln : Nat) (s : B) (wh : Bool) : Bool := if 0 < ln then fieldB s wh else if resp then statusB s wh else requestB s wh
def kindN (ln : Nat) : Nat := if 0 < ln then 21 else 20
structure Seven (w : World) (g : Nat) (c0 c1 c2 c3 c4 c5 c6 : Value) : Prop where
  a0 : w.cell? ⟨g, 0, none⟩ = some c0
  a1 : w.cell? ⟨g, 1, none⟩ = some c1
  a2 : w.cell? ⟨g, 2, none⟩ = some c2
  a3 : w.cell? ⟨g, 3, none⟩ = some c3
  a4 : w.cell? ⟨g, 4, none⟩ = some c4
  a5 : w.cell? ⟨g, 5, none⟩ = some c5
  a6 : w.cell? ⟨g, 6, none⟩ = some c6
  z : ∀ j, w.frozen? ⟨g, j, none⟩ = false
theorem seven {w : World} {g : Nat} {c0 c1 c2 c3 c4 c5 c6 : Value} {T : TypeId} (h : w.heap[g]? = some (.cells #[c0, c1, c2, c3, c4, c5, c6] T (0, 0))) : Seven w g c0 c1 c2 c3 c4 c5 c6 := by
  refine ⟨?_, ?_, ?_, ?_, ?_, ?_, ?_, fun j => by simp [World.frozen?, h]⟩ <;> simp [World.cell?, h]
end Go.Proofs.YtnlmjlfoeodleaaDoor
