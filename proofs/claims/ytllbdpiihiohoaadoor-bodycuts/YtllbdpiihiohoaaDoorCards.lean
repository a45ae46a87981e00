/-
  DERIVED. GIVEN WITH THE SEED: THE CARDS: each row of YtllbdpiihiohoaaDoorRows.lean that lists a variable, with what it lists TIED to the program's text (the seventh form; the later family's looks); each row that meets fmt, with fmt's text TOLD by the authors' own Lean function (tested against real Go, not proved from fmt's source: count such statements apart). THE CARD IS WHAT COUNTS. Prove the row's statement (the work); the ties are given (YtllbdpiihiohoaaDoorTie.lean); close each card by the builder's one call (the guide's Derived/Test/ToyasCard.lean, 'card_holds'). Laid BY PROGRAM, IN A SANDBOX (cutbox-door.mjs). By AI agents, Wed Nov 11 2026. No macro, syntax, notation, axiom, sorry.
-/
import Derived.Test.YtllbdpiihiohoaaDoorRows
import GoSem.ClaimSeven
namespace Go.Proofs.YtllbdpiihiohoaaDoor
namespace Rows

/-- THE TIED CARD OF 'turnstilelaw13.BodyCuts'. -/
def bodyCutsCard : Claim7 := { stood := { row := bodyCutsRow, standIns := [], harness := (true, "d9d16703c3bd4388090deccaebf8838f8a463ff1854f7aea8190ad1675657e7b"), looks := true }, kinds := [], alts := [], laidByText := true, laidKinds := [.data, .data, .data, .handle], laidTests := true, laidLooks := .later }
def BodyCutsCardSaid : Prop := Claim7.holds Tryd.pinned (.plain (OpenSpec.ofChange bodyCutsSpec)) bodyCutsCard

/-- THE TIED CARD OF 'turnstilelaw13.BodyBack'. -/
def bodyBackCard : Claim7 := { stood := { row := bodyBackRow, standIns := [], harness := (true, "d9d16703c3bd4388090deccaebf8838f8a463ff1854f7aea8190ad1675657e7b"), looks := true }, kinds := [], alts := [], laidByText := true, laidKinds := [.data, .data, .data], laidTests := true, laidLooks := .later }
def BodyBackCardSaid : Prop := Claim7.holds Tryd.pinned (.plain (OpenSpec.ofChange bodyBackSpec)) bodyBackCard

/-- THE TIED CARD OF 'turnstilelaw13.BodyLimits'. -/
def bodyLimitsCard : Claim7 := { stood := { row := bodyLimitsRow, standIns := [], harness := (true, "d9d16703c3bd4388090deccaebf8838f8a463ff1854f7aea8190ad1675657e7b"), looks := true }, kinds := [], alts := [], laidByText := true, laidKinds := [.data, .data, .data, .handle], laidTests := true, laidLooks := .later }
def BodyLimitsCardSaid : Prop := Claim7.holds Tryd.pinned (.plain (OpenSpec.ofChange bodyLimitsSpec)) bodyLimitsCard

/-- THE SECOND FORM's CARD OF 'turnstilelaw13.BodyCuts'. -/
def bodyCutsUptoCard : Claim7 := { stood := { row := bodyCutsUptoRow, standIns := [], harness := (true, "d9d16703c3bd4388090deccaebf8838f8a463ff1854f7aea8190ad1675657e7b"), looks := true }, kinds := [], alts := [], laidByText := true, laidKinds := [.data, .data, .data, .handle], laidTests := true, laidLooks := .later }
def BodyCutsUptoCardSaid : Prop := Claim7.holds Tryd.pinned (.plain (OpenSpec.upto bodyCutsSpec)) bodyCutsUptoCard

/-- THE SECOND FORM's CARD OF 'turnstilelaw13.BodyBack'. -/
def bodyBackUptoCard : Claim7 := { stood := { row := bodyBackUptoRow, standIns := [], harness := (true, "d9d16703c3bd4388090deccaebf8838f8a463ff1854f7aea8190ad1675657e7b"), looks := true }, kinds := [], alts := [], laidByText := true, laidKinds := [.data, .data, .data], laidTests := true, laidLooks := .later }
def BodyBackUptoCardSaid : Prop := Claim7.holds Tryd.pinned (.plain (OpenSpec.upto bodyBackSpec)) bodyBackUptoCard

/-- THE SECOND FORM's CARD OF 'turnstilelaw13.BodyLimits'. -/
def bodyLimitsUptoCard : Claim7 := { stood := { row := bodyLimitsUptoRow, standIns := [], harness := (true, "d9d16703c3bd4388090deccaebf8838f8a463ff1854f7aea8190ad1675657e7b"), looks := true }, kinds := [], alts := [], laidByText := true, laidKinds := [.data, .data, .data, .handle], laidTests := true, laidLooks := .later }
def BodyLimitsUptoCardSaid : Prop := Claim7.holds Tryd.pinned (.plain (OpenSpec.upto bodyLimitsSpec)) bodyLimitsUptoCard
end Rows
end Go.Proofs.YtllbdpiihiohoaaDoor
