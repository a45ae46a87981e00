/- The law's own: fields, requests and responses part by part; a reader of a kind; an error's number. -/
import Derived.Test.YthakldcfpndabaaGreatDoorPSure
import Derived.Test.YthakldcfpndabaaGreatDoorHFine
import Derived.Test.YthakldcfpndabaaGreatDoorLSizes
namespace Go.Proofs.YthakldcfpndabaaGreatDoor
open Go.RowKit

structure RdL (U : World) (g o g' o' : Nat) (N V : ByteArray) : Prop where
  a0 : U.cell? ⟨g, o, none⟩ = some (.string N)
  a1 : U.cell? ⟨g, o + 1, none⟩ = some (.string V)
  b0 : U.cell? ⟨g', o', none⟩ = some (.string N)
  b1 : U.cell? ⟨g', o' + 1, none⟩ = some (.string V)
end Go.Proofs.YthakldcfpndabaaGreatDoor
