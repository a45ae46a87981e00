/- The program reads whole heads. -/
import Derived.Test.YtnlmjlfoeodleaaGreatDoorPReq
namespace Go.Proofs.YtnlmjlfoeodleaaGreatDoor
open Go.RowKit

def allE (s : PS) : Nat := if s.err ≠ 0 then s.err else if s.st = 11 then 0 else 32
theorem allE_zero {s : PS} (h : allE s = 0) : s.err = 0 ∧ s.st = 11 := by
  unfold allE at h
  split at h
  · rename_i h1; exact absurd h h1
  · split at h
    · rename_i h1 h2; exact ⟨by simpa using h1, h2⟩
    · cases h
theorem cells4_only {F : Nat → Prop} {w w' : World} {g : Nat} {c0 c1 c2 c3 : Value} {cs : Array Value} {T : TypeId} (h : Cells4 w g c0 c1 c2 c3) (hb : w.heap[g]? = some (.cells cs T (0, 0))) (ho : Only F w w') (hg : ¬ F g) : Cells4 w' g c0 c1 c2 c3 :=
  ⟨cell_only ho hg h.a0, cell_only ho hg h.a1, cell_only ho hg h.a2, cell_only ho hg h.a3, fun j => by have e := (ho.block g (lt_of_heap hb) hg).trans hb; simp [World.frozen?, e]⟩
def parseE (r : Bool) (l : B) (m : Int) : Nat := if 1 ≤ m ∧ m ≤ 65536 then allE (feedP (newP r m) l) else 1
end Go.Proofs.YtnlmjlfoeodleaaGreatDoor
