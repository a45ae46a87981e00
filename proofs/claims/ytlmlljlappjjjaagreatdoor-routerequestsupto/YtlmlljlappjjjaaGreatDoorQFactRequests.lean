/- What the card of RouteRequests needs of the program. -/
import Derived.Test.YtlmlljlappjjjaaGreatDoorRows
import Derived.ProofKit
namespace Go.Proofs.YtlmlljlappjjjaaGreatDoor.RouteRequests
theorem jfMapsR:(mapsRowed Tryz.prog)=true:=by kernel_rfl
theorem jfInR:(Rows.routeRequestsUptoRow.inPlace== Tryz.prog.inPlace 4)=true:=by kernel_rfl
theorem jfUnR:(Rows.routeRequestsUptoRow.unfollowed== Tryz.prog.unfollowed 4)=true:=by kernel_rfl
theorem jfReR:(Rows.routeRequestsUptoRow.recurses== Tryz.prog.recurses 4)=true:=by kernel_rfl
theorem jfNaR:(Rows.routeRequestsUptoRow.named== Tryz.prog.varsNamed 4)=true:=by kernel_rfl
theorem laidOutR:laidOutB Tryz.prog=true:=by kernel_rfl
theorem joinedR:joinedFacts Tryz.prog 4 Tryz.f4 (Rows.OpenSpec.upto Rows.routeRequestsSpec).bare Rows.routeRequestsUptoRow=true:=by
 unfold joinedFacts;rw [laidOutR,jfMapsR,jfInR,jfUnR,jfReR,jfNaR]
 kernel_rfl
end Go.Proofs.YtlmlljlappjjjaaGreatDoor.RouteRequests
