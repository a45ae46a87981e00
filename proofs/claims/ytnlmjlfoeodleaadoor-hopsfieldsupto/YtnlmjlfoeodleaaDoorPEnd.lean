/- The program's reader: the end of a line. -/
import Derived.Test.YtnlmjlfoeodleaaDoorPRow
namespace Go.Proofs.YtnlmjlfoeodleaaDoor
open Go.RowKit

structure RdE (U : World) (g : Nat) (c6 c7 c13 : Value) : Prop where
  a6 : U.cell? ⟨g, 6, none⟩ = some c6
  a7 : U.cell? ⟨g, 7, none⟩ = some c7
  a13 : U.cell? ⟨g, 13, none⟩ = some c13
theorem RdE.below {U V : World} {g : Nat} {c6 c7 c13 : Value} (h : RdE U g c6 c7 c13) (hb : Below U.heap.size U V) : RdE V g c6 c7 c13 := ⟨cell_keep hb h.a6, cell_keep hb h.a7, cell_keep hb h.a13⟩
theorem two_cells {V : World} {g : Nat} {a b : Value} {T : TypeId} (h : V.heap[g]? = some (.cells #[a, b] T (0, 0))) : ∀ j u, [a, b][j]? = some u → V.cell? ((⟨g, 0, none⟩ : Addr).add j) = some u := by
  intro j u hj
  rw [add_off]
  simp only [World.cell?, h]
  simpa using hj
theorem sliceF_len {w : World} {N n c : Nat} {p : Option Addr} {acc : List (B × B)} (h : OwnF w N (.slice p n c) acc) : acc.length = n := by
  rcases h.2 with ⟨h1, h2⟩ | ⟨g, cap, cur, h1, _⟩
  · cases h1; exact h2
  · cases h1; rfl
end Go.Proofs.YtnlmjlfoeodleaaDoor
