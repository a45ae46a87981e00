/- What the card of RouteOrder needs of the program: nothing goes. -/
import Derived.Test.YtlmlljlappjjjaaGreatDoorRows
import Derived.Stop.Joined
import Derived.SevenTiedAt
import Derived.ProofKit
namespace Go.Proofs.YtlmlljlappjjjaaGreatDoor.RouteOrder
theorem noGoesO : false = Rows.routeOrderUptoRow.goesBy Tryz.prog := by kernel_rfl
end Go.Proofs.YtlmlljlappjjjaaGreatDoor.RouteOrder
