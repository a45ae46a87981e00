/- What the card of ConfigSame needs of the program. -/
import Derived.Test.YtlmefgjhbohjlaaGreatDoorRows
import Derived.ProofKit
namespace Go.Proofs.YtlmefgjhbohjlaaGreatDoor.ConfigSame
theorem jfMaps:(mapsRowed Tryz.prog)=true:=by kernel_rfl
theorem jfIn:(Rows.configSameUptoRow.inPlace== Tryz.prog.inPlace 5)=true:=by kernel_rfl
theorem jfUn:(Rows.configSameUptoRow.unfollowed== Tryz.prog.unfollowed 5)=true:=by kernel_rfl
theorem jfRe:(Rows.configSameUptoRow.recurses== Tryz.prog.recurses 5)=true:=by kernel_rfl
theorem jfNa:(Rows.configSameUptoRow.named== Tryz.prog.varsNamed 5)=true:=by kernel_rfl
theorem laidOut:laidOutB Tryz.prog=true:=by kernel_rfl
theorem joined:joinedFacts Tryz.prog 5 Tryz.f5 (Rows.OpenSpec.upto Rows.configSameSpec).bare Rows.configSameUptoRow=true:=by
 unfold joinedFacts;rw [laidOut,jfMaps,jfIn,jfUn,jfRe,jfNa]
 kernel_rfl
end Go.Proofs.YtlmefgjhbohjlaaGreatDoor.ConfigSame
