/-
  DERIVED. GIVEN WITH THE SEED: THE CARDS: each row of YtmcglcdpcblckabDoorRows.lean that lists a variable, with what it lists TIED to the program's text (the seventh form; the later family's looks); each row that meets fmt, with fmt's text TOLD by the authors' own Lean function (tested against real Go, not proved from fmt's source: count such statements apart). THE CARD IS WHAT COUNTS. Prove the row's statement (the work); the ties are given (YtmcglcdpcblckabDoorTie.lean); close each card by the builder's one call (the guide's Derived/Test/ToyasCard.lean, 'card_holds'). Laid BY PROGRAM, IN A SANDBOX (cutbox-door.mjs). By AI agents, Wed Nov 11 2026. No macro, syntax, notation, axiom, sorry.
-/
import Derived.Test.YtmcglcdpcblckabDoorRows
import GoSem.ClaimSeven
namespace Go.Proofs.YtmcglcdpcblckabDoor
namespace Rows

/-- THE TIED CARD OF 'turnstilelaw09.HeadSizes'. -/
def headSizesCard : Claim7 := { stood := { row := headSizesRow, standIns := [], harness := (true, "183b374ed7e1e7b10053cf4159647ee73426ffb4101d35a9d2626740141d71d8"), looks := true }, kinds := [], alts := [], laidByText := true, laidKinds := [.handle], laidTests := true, laidLooks := .later }
def HeadSizesCardSaid : Prop := Claim7.holds Tryd.pinned (.plain (OpenSpec.ofChange headSizesSpec)) headSizesCard

/-- THE TIED CARD OF 'turnstilelaw09.HeadBare'. -/
def headBareCard : Claim7 := { stood := { row := headBareRow, standIns := [], harness := (true, "183b374ed7e1e7b10053cf4159647ee73426ffb4101d35a9d2626740141d71d8"), looks := true }, kinds := [], alts := [], laidByText := true, laidKinds := [.handle], laidTests := true, laidLooks := .later }
def HeadBareCardSaid : Prop := Claim7.holds Tryd.pinned (.plain (OpenSpec.ofChange headBareSpec)) headBareCard

/-- THE SECOND FORM's CARD OF 'turnstilelaw09.HeadSizes'. -/
def headSizesUptoCard : Claim7 := { stood := { row := headSizesUptoRow, standIns := [], harness := (true, "183b374ed7e1e7b10053cf4159647ee73426ffb4101d35a9d2626740141d71d8"), looks := true }, kinds := [], alts := [], laidByText := true, laidKinds := [.handle], laidTests := true, laidLooks := .later }
def HeadSizesUptoCardSaid : Prop := Claim7.holds Tryd.pinned (.plain (OpenSpec.upto headSizesSpec)) headSizesUptoCard

/-- THE SECOND FORM's CARD OF 'turnstilelaw09.HeadBare'. -/
def headBareUptoCard : Claim7 := { stood := { row := headBareUptoRow, standIns := [], harness := (true, "183b374ed7e1e7b10053cf4159647ee73426ffb4101d35a9d2626740141d71d8"), looks := true }, kinds := [], alts := [], laidByText := true, laidKinds := [.handle], laidTests := true, laidLooks := .later }
def HeadBareUptoCardSaid : Prop := Claim7.holds Tryd.pinned (.plain (OpenSpec.upto headBareSpec)) headBareUptoCard
end Rows
end Go.Proofs.YtmcglcdpcblckabDoor
