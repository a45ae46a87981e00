/- The program's reader: its small functions. -/
import Derived.Test.YtnlmjlfoeodleaaDoorPMem
namespace Go.Proofs.YtnlmjlfoeodleaaDoor
open Go.RowKit

def verA : ByteArray := { data := #[72, 84, 84, 80, 47, 49, 46] }
theorem ver_byte (n : Nat) (h2 : n < ({ data := #[72, 84, 84, 80, 47, 49, 46] } : ByteArray).size) : ver0[n]? = some (({ data := #[72, 84, 84, 80, 47, 49, 46] } : ByteArray)[n]'h2) := by
  have h : n < 7 := h2
  have : n = 0 ∨ n = 1 ∨ n = 2 ∨ n = 3 ∨ n = 4 ∨ n = 5 ∨ n = 6 := by omega
  rcases this with rfl | rfl | rfl | rfl | rfl | rfl | rfl <;> rfl
theorem ver_at (n : Nat) (h : n < 7) (h2 : n < ({ data := #[72, 84, 84, 80, 47, 49, 46] } : ByteArray).size) (c : UInt8) : ((c.toNat : Int) == ((({ data := #[72, 84, 84, 80, 47, 49, 46] } : ByteArray)[n]'h2).toNat : Int)) = verAt n c := by
  unfold verAt
  rw [if_pos h, ver_byte n h2, Bool.eq_iff_iff, decide_eq_true_iff, beq_iff_eq]
  constructor
  · intro e
    congr 1
    exact UInt8.toNat_inj.1 (by omega)
  · intro e
    rw [Option.some.inj e]
end Go.Proofs.YtnlmjlfoeodleaaDoor
