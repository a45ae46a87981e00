/-
  DERIVED. GIVEN WITH THE SEED: THE CARDS: each row of YtkoeihliaandeaaGreatDoorRows.lean that lists a variable, with what it lists TIED to the program's text (the seventh form; the later family's looks); each row that meets fmt, with fmt's text TOLD by the authors' own Lean function (tested against real Go, not proved from fmt's source: count such statements apart). THE CARD IS WHAT COUNTS. Prove the row's statement (the work); the ties are given (YtkoeihliaandeaaGreatDoorTie.lean); close each card by the builder's one call (the guide's Derived/Test/ToyasCard.lean, 'card_holds'). Laid BY PROGRAM, IN A SANDBOX (cutbox-door.mjs). By AI agents, Wed Nov 11 2026. No macro, syntax, notation, axiom, sorry.
-/
import Derived.Test.YtkoeihliaandeaaGreatDoorRows
import GoSem.ClaimSeven
namespace Go.Proofs.YtkoeihliaandeaaGreatDoor
namespace Rows

/-- THE TIED CARD OF 'turnstilelaw06.JsonReads'. -/
def jsonReadsCard : Claim7 := { stood := { row := jsonReadsRow, standIns := [], harness := (true, "50633b1c20aa933f0f6075a7db0d2edf241808024667012bf28335543a68d725"), looks := true }, kinds := [], alts := [], laidByText := true, laidKinds := [.data, .data, .data, .data, .sentinel, .sentinel, .pinned], laidTests := true, laidLooks := .later }
def JsonReadsCardSaid : Prop := Claim7.holds Tryz.pinned (.plain (OpenSpec.ofChange jsonReadsSpec)) jsonReadsCard

/-- THE TIED CARD OF 'turnstilelaw06.JsonValues'. -/
def jsonValuesCard : Claim7 := { stood := { row := jsonValuesRow, standIns := [], harness := (true, "50633b1c20aa933f0f6075a7db0d2edf241808024667012bf28335543a68d725"), looks := true }, kinds := [], alts := [], laidByText := true, laidKinds := [.data, .data, .data, .data, .sentinel, .sentinel, .pinned], laidTests := true, laidLooks := .later }
def JsonValuesCardSaid : Prop := Claim7.holds Tryz.pinned (.plain (OpenSpec.ofChange jsonValuesSpec)) jsonValuesCard

/-- THE SECOND FORM's CARD OF 'turnstilelaw06.JsonReads'. -/
def jsonReadsUptoCard : Claim7 := { stood := { row := jsonReadsUptoRow, standIns := [], harness := (true, "50633b1c20aa933f0f6075a7db0d2edf241808024667012bf28335543a68d725"), looks := true }, kinds := [], alts := [], laidByText := true, laidKinds := [.data, .data, .data, .data, .sentinel, .sentinel, .pinned], laidTests := true, laidLooks := .later }
def JsonReadsUptoCardSaid : Prop := Claim7.holds Tryz.pinned (.plain (OpenSpec.upto jsonReadsSpec)) jsonReadsUptoCard

/-- THE SECOND FORM's CARD OF 'turnstilelaw06.JsonValues'. -/
def jsonValuesUptoCard : Claim7 := { stood := { row := jsonValuesUptoRow, standIns := [], harness := (true, "50633b1c20aa933f0f6075a7db0d2edf241808024667012bf28335543a68d725"), looks := true }, kinds := [], alts := [], laidByText := true, laidKinds := [.data, .data, .data, .data, .sentinel, .sentinel, .pinned], laidTests := true, laidLooks := .later }
def JsonValuesUptoCardSaid : Prop := Claim7.holds Tryz.pinned (.plain (OpenSpec.upto jsonValuesSpec)) jsonValuesUptoCard
end Rows
end Go.Proofs.YtkoeihliaandeaaGreatDoor
