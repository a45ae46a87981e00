/-
  DERIVED. GIVEN WITH THE SEED: THE CARDS: each row of YtllbdpiihiohoaaGreatDoorRows.lean that lists a variable, with what it lists TIED to the program's text (the seventh form; the later family's looks); each row that meets fmt, with fmt's text TOLD by the authors' own Lean function (tested against real Go, not proved from fmt's source: count such statements apart). THE CARD IS WHAT COUNTS. Prove the row's statement (the work); the ties are given (YtllbdpiihiohoaaGreatDoorTie.lean); close each card by the builder's one call (the guide's Derived/Test/ToyasCard.lean, 'card_holds'). Laid BY PROGRAM, IN A SANDBOX (cutbox-door.mjs). By AI agents, Wed Nov 11 2026. No macro, syntax, notation, axiom, sorry.
-/
import Derived.Test.YtllbdpiihiohoaaGreatDoorRows
import GoSem.ClaimSeven
namespace Go.Proofs.YtllbdpiihiohoaaGreatDoor
namespace Rows

/-- THE TIED CARD OF 'turnstilelaw13.BodyFeeds'. -/
def bodyFeedsCard : Claim7 := { stood := { row := bodyFeedsRow, standIns := [], harness := (true, "af2ce5f8fb5271ed8ec5258790679abb2be9c35264dae7f18ddebe1ea903df64"), looks := true }, kinds := [], alts := [], laidByText := true, laidKinds := [.data, .data, .data, .handle], laidTests := true, laidLooks := .later }
def BodyFeedsCardSaid : Prop := Claim7.holds Tryz.pinned (.plain (OpenSpec.ofChange bodyFeedsSpec)) bodyFeedsCard

/-- THE TIED CARD OF 'turnstilelaw13.BodyWhole'. -/
def bodyWholeCard : Claim7 := { stood := { row := bodyWholeRow, standIns := [], harness := (true, "af2ce5f8fb5271ed8ec5258790679abb2be9c35264dae7f18ddebe1ea903df64"), looks := true }, kinds := [], alts := [], laidByText := true, laidKinds := [.data, .data, .data, .handle], laidTests := true, laidLooks := .later }
def BodyWholeCardSaid : Prop := Claim7.holds Tryz.pinned (.plain (OpenSpec.ofChange bodyWholeSpec)) bodyWholeCard

/-- THE SECOND FORM's CARD OF 'turnstilelaw13.BodyFeeds'. -/
def bodyFeedsUptoCard : Claim7 := { stood := { row := bodyFeedsUptoRow, standIns := [], harness := (true, "af2ce5f8fb5271ed8ec5258790679abb2be9c35264dae7f18ddebe1ea903df64"), looks := true }, kinds := [], alts := [], laidByText := true, laidKinds := [.data, .data, .data, .handle], laidTests := true, laidLooks := .later }
def BodyFeedsUptoCardSaid : Prop := Claim7.holds Tryz.pinned (.plain (OpenSpec.upto bodyFeedsSpec)) bodyFeedsUptoCard

/-- THE SECOND FORM's CARD OF 'turnstilelaw13.BodyWhole'. -/
def bodyWholeUptoCard : Claim7 := { stood := { row := bodyWholeUptoRow, standIns := [], harness := (true, "af2ce5f8fb5271ed8ec5258790679abb2be9c35264dae7f18ddebe1ea903df64"), looks := true }, kinds := [], alts := [], laidByText := true, laidKinds := [.data, .data, .data, .handle], laidTests := true, laidLooks := .later }
def BodyWholeUptoCardSaid : Prop := Claim7.holds Tryz.pinned (.plain (OpenSpec.upto bodyWholeSpec)) bodyWholeUptoCard
end Rows
end Go.Proofs.YtllbdpiihiohoaaGreatDoor
