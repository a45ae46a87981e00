/- The program's reader: a row of bytes goes on or ends. -/
import Derived.Test.YtnlmjlfoeodleaaDoorPKeep
import Derived.Maps.AppendAt
namespace Go.Proofs.YtnlmjlfoeodleaaDoor
open Go.RowKit

theorem u8_ne {c x : UInt8} (h : c ≠ x) : ((c.toNat : Int) == (x.toNat : Int)) = false := by
  rw [beq_eq_false_iff_ne]
  exact fun e => h (UInt8.toNat_inj.1 (by omega))
end Go.Proofs.YtnlmjlfoeodleaaDoor
