/- What the card of RouteFinds needs of the program: nothing goes. -/
import Derived.Test.YtlmlljlappjjjaaGreatDoorRows
import Derived.Stop.Joined
import Derived.SevenTiedAt
import Derived.ProofKit
namespace Go.Proofs.YtlmlljlappjjjaaGreatDoor.RouteFinds
theorem noGoesF : false = Rows.routeFindsUptoRow.goesBy Tryz.prog := by kernel_rfl
end Go.Proofs.YtlmlljlappjjjaaGreatDoor.RouteFinds
