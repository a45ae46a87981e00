/- What the card of RouteLawful needs of the program. -/
import Derived.Test.YtlmlljlappjjjaaGreatDoorRows
import Derived.JoinedCond
import Derived.ProofKit
namespace Go.Proofs.YtlmlljlappjjjaaGreatDoor.RouteLawful
theorem jfMaps:(mapsRowed Tryz.prog)=true:=by kernel_rfl
theorem jfIn:(Rows.routeLawfulUptoRow.inPlace== Tryz.prog.inPlace 6)=true:=by kernel_rfl
theorem jfUn:(Rows.routeLawfulUptoRow.unfollowed== Tryz.prog.unfollowed 6)=true:=by kernel_rfl
theorem jfRe:(Rows.routeLawfulUptoRow.recurses== Tryz.prog.recurses 6)=true:=by kernel_rfl
theorem jfNa:(Rows.routeLawfulUptoRow.named== Tryz.prog.varsNamed 6)=true:=by kernel_rfl
theorem laidOut:laidOutB Tryz.prog=true:=by kernel_rfl
theorem joined:joinedFacts Tryz.prog 6 Tryz.f6 (Rows.OpenSpec.upto Rows.routeLawfulSpec).bare Rows.routeLawfulUptoRow=true:=by
 unfold joinedFacts;rw [laidOut,jfMaps,jfIn,jfUn,jfRe,jfNa]
 kernel_rfl
end Go.Proofs.YtlmlljlappjjjaaGreatDoor.RouteLawful
