/- What the card of RouteFinds needs of the program. -/
import Derived.Test.YtlmlljlappjjjaaGreatDoorRows
import Derived.ProofKit
namespace Go.Proofs.YtlmlljlappjjjaaGreatDoor.RouteFinds
theorem jfMapsF:(mapsRowed Tryz.prog)=true:=by kernel_rfl
theorem jfInF:(Rows.routeFindsUptoRow.inPlace== Tryz.prog.inPlace 3)=true:=by kernel_rfl
theorem jfUnF:(Rows.routeFindsUptoRow.unfollowed== Tryz.prog.unfollowed 3)=true:=by kernel_rfl
theorem jfReF:(Rows.routeFindsUptoRow.recurses== Tryz.prog.recurses 3)=true:=by kernel_rfl
theorem jfNaF:(Rows.routeFindsUptoRow.named== Tryz.prog.varsNamed 3)=true:=by kernel_rfl
theorem laidOutF:laidOutB Tryz.prog=true:=by kernel_rfl
theorem joinedF:joinedFacts Tryz.prog 3 Tryz.f3 (Rows.OpenSpec.upto Rows.routeFindsSpec).bare Rows.routeFindsUptoRow=true:=by
 unfold joinedFacts;rw [laidOutF,jfMapsF,jfInF,jfUnF,jfReF,jfNaF]
 kernel_rfl
end Go.Proofs.YtlmlljlappjjjaaGreatDoor.RouteFinds
