/- What the card of RouteRequests needs of the program: nothing goes. -/
import Derived.Test.YtlmlljlappjjjaaGreatDoorRows
import Derived.Stop.Joined
import Derived.SevenTiedAt
import Derived.ProofKit
namespace Go.Proofs.YtlmlljlappjjjaaGreatDoor.RouteRequests
theorem noGoesR : false = Rows.routeRequestsUptoRow.goesBy Tryz.prog := by kernel_rfl
end Go.Proofs.YtlmlljlappjjjaaGreatDoor.RouteRequests
