/- What the card of ConfigSame needs of the program: nothing goes. -/
import Derived.Test.YtlmefgjhbohjlaaGreatDoorRows
import Derived.Stop.Joined
import Derived.SevenTiedAt
import Derived.ProofKit
namespace Go.Proofs.YtlmefgjhbohjlaaGreatDoor.ConfigSame
theorem noGoes : false = Rows.configSameUptoRow.goesBy Tryz.prog := by kernel_rfl
end Go.Proofs.YtlmefgjhbohjlaaGreatDoor.ConfigSame
