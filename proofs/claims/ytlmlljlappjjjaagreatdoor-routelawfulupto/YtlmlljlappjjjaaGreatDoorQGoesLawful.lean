/- What the card of RouteLawful needs of the program: nothing goes. -/
import Derived.Test.YtlmlljlappjjjaaGreatDoorRows
import Derived.Stop.Joined
import Derived.SevenTiedAt
import Derived.ProofKit
namespace Go.Proofs.YtlmlljlappjjjaaGreatDoor.RouteLawful
theorem noGoes : false = Rows.routeLawfulUptoRow.goesBy Tryz.prog := by kernel_rfl
end Go.Proofs.YtlmlljlappjjjaaGreatDoor.RouteLawful
