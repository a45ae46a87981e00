/- What must come whatever the input is. -/
import Derived.Test.YtnlmjlfoeodleaaGreatDoorPParse
import Derived.Lib.SlBytesConst
namespace Go.Proofs.YtnlmjlfoeodleaaGreatDoor
open Go.RowKit

def sureL : B := [71, 69, 84, 32, 47, 32, 72, 84, 84, 80, 47, 49, 46, 49, 13, 10, 72, 111, 115, 116, 58, 32, 97, 13, 10, 13, 10]
theorem sure_plain : allE (feedP (newP false 100) sureL) = 0 ∧ (feedP (newP false 100) sureL).taken = 27 ∧ (feedP (newP false 100) sureL).method = [71, 69, 84] ∧ (feedP (newP false 100) sureL).target = [47] ∧ (feedP (newP false 100) sureL).minor = 1 ∧ (feedP (newP false 100) sureL).fields.length = 1 := by decide +kernel
theorem sure_arg (w : World) (fr : Nat × Nat) : ArgAt (w.alloc (.cells #[.int .u8 71, .int .u8 69, .int .u8 84, .int .u8 32, .int .u8 47, .int .u8 32, .int .u8 72, .int .u8 84, .int .u8 84, .int .u8 80, .int .u8 47, .int .u8 49, .int .u8 46, .int .u8 49, .int .u8 13, .int .u8 10, .int .u8 72, .int .u8 111, .int .u8 115, .int .u8 116, .int .u8 58, .int .u8 32, .int .u8 97, .int .u8 13, .int .u8 10, .int .u8 13, .int .u8 10] 5 fr)) (some ⟨w.heap.size, 0, none⟩) sureL := by
  intro i y hi
  refine ⟨w.heap.size, 0, rfl, ?_⟩
  have e : (#[.int .u8 71, .int .u8 69, .int .u8 84, .int .u8 32, .int .u8 47, .int .u8 32, .int .u8 72, .int .u8 84, .int .u8 84, .int .u8 80, .int .u8 47, .int .u8 49, .int .u8 46, .int .u8 49, .int .u8 13, .int .u8 10, .int .u8 72, .int .u8 111, .int .u8 115, .int .u8 116, .int .u8 58, .int .u8 32, .int .u8 97, .int .u8 13, .int .u8 10, .int .u8 13, .int .u8 10] : Array Value) = (Lib.byteCells sureL).toArray := rfl
  have h1 := heap_alloc_new w (.cells #[.int .u8 71, .int .u8 69, .int .u8 84, .int .u8 32, .int .u8 47, .int .u8 32, .int .u8 72, .int .u8 84, .int .u8 84, .int .u8 80, .int .u8 47, .int .u8 49, .int .u8 46, .int .u8 49, .int .u8 13, .int .u8 10, .int .u8 72, .int .u8 111, .int .u8 115, .int .u8 116, .int .u8 58, .int .u8 32, .int .u8 97, .int .u8 13, .int .u8 10, .int .u8 13, .int .u8 10] 5 fr)
  rw [Nat.zero_add]
  simp only [World.cell?, h1]
  rw [e]
  simp [Lib.byteCells, hi]
end Go.Proofs.YtnlmjlfoeodleaaGreatDoor
