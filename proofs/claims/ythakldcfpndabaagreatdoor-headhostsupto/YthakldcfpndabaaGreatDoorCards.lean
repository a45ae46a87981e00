/-
  DERIVED. GIVEN WITH THE SEED: THE CARDS: each row of YthakldcfpndabaaGreatDoorRows.lean that lists a variable, with what it lists TIED to the program's text (the seventh form; the later family's looks); each row that meets fmt, with fmt's text TOLD by the authors' own Lean function (tested against real Go, not proved from fmt's source: count such statements apart). THE CARD IS WHAT COUNTS. Prove the row's statement (the work); the ties are given (YthakldcfpndabaaGreatDoorTie.lean); close each card by the builder's one call (the guide's Derived/Test/ToyasCard.lean, 'card_holds'). Laid BY PROGRAM, IN A SANDBOX (cutbox-door.mjs). By AI agents, Wed Nov 11 2026. No macro, syntax, notation, axiom, sorry.
-/
import Derived.Test.YthakldcfpndabaaGreatDoorRows
import GoSem.ClaimSeven
namespace Go.Proofs.YthakldcfpndabaaGreatDoor
namespace Rows

/-- THE TIED CARD OF 'turnstilelaw09.HeadHosts'. -/
def headHostsCard : Claim7 := { stood := { row := headHostsRow, standIns := [], harness := (true, "a27d3f5574079dfe57bd59406c6fe5c55769317f37b1fcb6698f1954dfe97f19"), looks := true }, kinds := [], alts := [], laidByText := true, laidKinds := [.data, .handle, .pinned], laidTests := true, laidLooks := .later }
def HeadHostsCardSaid : Prop := Claim7.holds Tryz.pinned (.plain (OpenSpec.ofChange headHostsSpec)) headHostsCard

/-- THE SECOND FORM's CARD OF 'turnstilelaw09.HeadHosts'. -/
def headHostsUptoCard : Claim7 := { stood := { row := headHostsUptoRow, standIns := [], harness := (true, "a27d3f5574079dfe57bd59406c6fe5c55769317f37b1fcb6698f1954dfe97f19"), looks := true }, kinds := [], alts := [], laidByText := true, laidKinds := [.data, .handle, .pinned], laidTests := true, laidLooks := .later }
def HeadHostsUptoCardSaid : Prop := Claim7.holds Tryz.pinned (.plain (OpenSpec.upto headHostsSpec)) headHostsUptoCard
end Rows
end Go.Proofs.YthakldcfpndabaaGreatDoor
