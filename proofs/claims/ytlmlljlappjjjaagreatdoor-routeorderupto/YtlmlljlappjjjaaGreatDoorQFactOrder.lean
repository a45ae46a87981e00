/- What the card of RouteOrder needs of the program. -/
import Derived.Test.YtlmlljlappjjjaaGreatDoorRows
import Derived.JoinedCond
import Derived.ProofKit
namespace Go.Proofs.YtlmlljlappjjjaaGreatDoor.RouteOrder
theorem jfMapsO:(mapsRowed Tryz.prog)=true:=by kernel_rfl
theorem jfInO:(Rows.routeOrderUptoRow.inPlace== Tryz.prog.inPlace 5)=true:=by kernel_rfl
theorem jfUnO:(Rows.routeOrderUptoRow.unfollowed== Tryz.prog.unfollowed 5)=true:=by kernel_rfl
theorem jfReO:(Rows.routeOrderUptoRow.recurses== Tryz.prog.recurses 5)=true:=by kernel_rfl
theorem jfNaO:(Rows.routeOrderUptoRow.named== Tryz.prog.varsNamed 5)=true:=by kernel_rfl
theorem laidOutO:laidOutB Tryz.prog=true:=by kernel_rfl
theorem joinedO:joinedFacts Tryz.prog 5 Tryz.f5 (Rows.OpenSpec.upto Rows.routeOrderSpec).bare Rows.routeOrderUptoRow=true:=by
 unfold joinedFacts;rw [laidOutO,jfMapsO,jfInO,jfUnO,jfReO,jfNaO]
 kernel_rfl
end Go.Proofs.YtlmlljlappjjjaaGreatDoor.RouteOrder
