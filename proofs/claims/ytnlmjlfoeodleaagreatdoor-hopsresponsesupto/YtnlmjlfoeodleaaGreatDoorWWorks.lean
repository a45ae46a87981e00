/- What must come whatever the input is. -/
import Derived.Test.YtnlmjlfoeodleaaGreatDoorWLocal
namespace Go.Proofs.YtnlmjlfoeodleaaGreatDoor
open Go.RowKit

def workT : B := [71, 69, 84, 32, 47, 32, 72, 84, 84, 80, 47, 49, 46, 49, 13, 10, 72, 111, 115, 116, 58, 32, 97, 13, 10, 13, 10]
theorem work_head : headW (firstQ [71, 69, 84] [47] (verC 1)) [([72, 111, 115, 116], [97])] = workT := by decide +kernel
theorem work_wr : wrE (firstQ [71, 69, 84] [47] (verC 1)) [([72, 111, 115, 116], [97])] = 0 := by decide +kernel
theorem work_line : lineQ [71, 69, 84] [47] 1 = true := by decide +kernel
theorem work_bad : lineQ [71, 32, 84] [47] 0 = false := by decide +kernel
theorem work_loc : locB 404 1 = true := by decide +kernel
theorem work_body : bodyL 404 = [52, 48, 52, 32, 78, 111, 116, 32, 70, 111, 117, 110, 100, 10] := by decide +kernel
theorem work_reason : reasonB 404 = [78, 111, 116, 32, 70, 111, 117, 110, 100] := by decide +kernel
theorem fat_one (w : World) (f : B × B) : FAt (w.alloc (.cells #[.string (str f.1), .string (str f.2)] 88 (0, 0))) (some ⟨w.heap.size, 0, none⟩) [f] := by
  intro j g hj
  have hh := heap_alloc_new w (.cells #[.string (str f.1), .string (str f.2)] 88 (0, 0))
  match j, hj with
  | 0, hj =>
    simp at hj
    subst hj
    exact ⟨_, _, rfl, by simp only [World.cell?, hh]; rfl, by simp only [World.cell?, hh]; rfl⟩
  | j + 1, hj => simp at hj
end Go.Proofs.YtnlmjlfoeodleaaGreatDoor
