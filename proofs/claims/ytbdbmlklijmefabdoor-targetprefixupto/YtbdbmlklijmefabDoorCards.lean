/-
  DERIVED. GIVEN WITH THE SEED: THE CARDS: each row of YtbdbmlklijmefabDoorRows.lean that lists a variable, with what it lists TIED to the program's text (the seventh form; the later family's looks); each row that meets fmt, with fmt's text TOLD by the authors' own Lean function (tested against real Go, not proved from fmt's source: count such statements apart). THE CARD IS WHAT COUNTS. Prove the row's statement (the work); the ties are given (YtbdbmlklijmefabDoorTie.lean); close each card by the builder's one call (the guide's Derived/Test/ToyasCard.lean, 'card_holds'). Laid BY PROGRAM, IN A SANDBOX (cutbox-door.mjs). By AI agents, Wed Nov 11 2026. No macro, syntax, notation, axiom, sorry.
-/
import Derived.Test.YtbdbmlklijmefabDoorRows
import GoSem.ClaimSeven
namespace Go.Proofs.YtbdbmlklijmefabDoor
namespace Rows

/-- THE TIED CARD OF 'turnstilelaw08.TargetPrefix'. -/
def targetPrefixCard : Claim7 := { stood := { row := targetPrefixRow, standIns := [], harness := (true, "cbae3e0b1753e9b58cdf4fc8b74da6b49eda98b135c9e102ae5282fa1b334ab9"), looks := true }, kinds := [], alts := [], laidByText := true, laidKinds := [.data, .pinned], laidTests := true, laidLooks := .later }
def TargetPrefixCardSaid : Prop := Claim7.holds Tryd.pinned (.plain (OpenSpec.ofChange targetPrefixSpec)) targetPrefixCard

/-- THE SECOND FORM's CARD OF 'turnstilelaw08.TargetPrefix'. -/
def targetPrefixUptoCard : Claim7 := { stood := { row := targetPrefixUptoRow, standIns := [], harness := (true, "cbae3e0b1753e9b58cdf4fc8b74da6b49eda98b135c9e102ae5282fa1b334ab9"), looks := true }, kinds := [], alts := [], laidByText := true, laidKinds := [.data, .pinned], laidTests := true, laidLooks := .later }
def TargetPrefixUptoCardSaid : Prop := Claim7.holds Tryd.pinned (.plain (OpenSpec.upto targetPrefixSpec)) targetPrefixUptoCard
end Rows
end Go.Proofs.YtbdbmlklijmefabDoor
