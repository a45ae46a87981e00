/-
  DERIVED. GIVEN WITH THE SEED: THE CARDS: each row of YtlmefgjhbohjlaaGreatDoorRows.lean that lists a variable, with what it lists TIED to the program's text (the seventh form; the later family's looks); each row that meets fmt, with fmt's text TOLD by the authors' own Lean function (tested against real Go, not proved from fmt's source: count such statements apart). THE CARD IS WHAT COUNTS. Prove the row's statement (the work); the ties are given (YtlmefgjhbohjlaaGreatDoorTie.lean); close each card by the builder's one call (the guide's Derived/Test/ToyasCard.lean, 'card_holds'). Laid BY PROGRAM, IN A SANDBOX (cutbox-door.mjs). By AI agents, Wed Nov 11 2026. No macro, syntax, notation, axiom, sorry.
-/
import Derived.Test.YtlmefgjhbohjlaaGreatDoorRows
import GoSem.ClaimSeven
namespace Go.Proofs.YtlmefgjhbohjlaaGreatDoor
namespace Rows

/-- THE TIED CARD OF 'turnstilelaw17.ConfigParses'. -/
def configParsesCard : Claim7 := { stood := { row := configParsesRow, standIns := [], harness := (true, "3c2b14807e2f0078ac5006aeba580a15b6ee31f8cd9659cecf273a170e0b8f8e"), looks := true }, kinds := [], alts := [], laidByText := true, laidKinds := [.data, .data, .data, .data, .handle, .sentinel, .sentinel, .pinned], laidTests := true, laidLooks := .later }
def ConfigParsesCardSaid : Prop := Claim7.holds Tryz.pinned (.plain (OpenSpec.ofChange configParsesSpec)) configParsesCard

/-- THE TIED CARD OF 'turnstilelaw17.ConfigValid'. -/
def configValidCard : Claim7 := { stood := { row := configValidRow, standIns := [], harness := (true, "3c2b14807e2f0078ac5006aeba580a15b6ee31f8cd9659cecf273a170e0b8f8e"), looks := true }, kinds := [], alts := [], laidByText := true, laidKinds := [.data, .data, .data, .data, .handle, .sentinel, .sentinel, .pinned], laidTests := true, laidLooks := .later }
def ConfigValidCardSaid : Prop := Claim7.holds Tryz.pinned (.plain (OpenSpec.ofChange configValidSpec)) configValidCard

/-- THE TIED CARD OF 'turnstilelaw17.ConfigSame'. -/
def configSameCard : Claim7 := { stood := { row := configSameRow, standIns := [], harness := (true, "3c2b14807e2f0078ac5006aeba580a15b6ee31f8cd9659cecf273a170e0b8f8e"), looks := true }, kinds := [], alts := [], laidByText := true, laidKinds := [.data, .data, .data, .data, .handle, .sentinel, .sentinel, .pinned], laidTests := true, laidLooks := .later }
def ConfigSameCardSaid : Prop := Claim7.holds Tryz.pinned (.plain (OpenSpec.ofChange configSameSpec)) configSameCard

/-- THE TIED CARD OF 'turnstilelaw17.ConfigBack'. -/
def configBackCard : Claim7 := { stood := { row := configBackRow, standIns := [], harness := (true, "3c2b14807e2f0078ac5006aeba580a15b6ee31f8cd9659cecf273a170e0b8f8e"), looks := true }, kinds := [], alts := [], laidByText := true, laidKinds := [.data, .data, .data, .data, .handle, .sentinel, .sentinel, .pinned], laidTests := true, laidLooks := .later }
def ConfigBackCardSaid : Prop := Claim7.holds Tryz.pinned (.plain (OpenSpec.ofChange configBackSpec)) configBackCard

/-- THE TIED CARD OF 'turnstilelaw17.ConfigNames'. -/
def configNamesCard : Claim7 := { stood := { row := configNamesRow, standIns := [], harness := (true, "3c2b14807e2f0078ac5006aeba580a15b6ee31f8cd9659cecf273a170e0b8f8e"), looks := true }, kinds := [], alts := [], laidByText := true, laidKinds := [.data, .data, .data, .data, .handle, .sentinel, .sentinel, .pinned], laidTests := true, laidLooks := .later }
def ConfigNamesCardSaid : Prop := Claim7.holds Tryz.pinned (.plain (OpenSpec.ofChange configNamesSpec)) configNamesCard

/-- THE SECOND FORM's CARD OF 'turnstilelaw17.ConfigParses'. -/
def configParsesUptoCard : Claim7 := { stood := { row := configParsesUptoRow, standIns := [], harness := (true, "3c2b14807e2f0078ac5006aeba580a15b6ee31f8cd9659cecf273a170e0b8f8e"), looks := true }, kinds := [], alts := [], laidByText := true, laidKinds := [.data, .data, .data, .data, .handle, .sentinel, .sentinel, .pinned], laidTests := true, laidLooks := .later }
def ConfigParsesUptoCardSaid : Prop := Claim7.holds Tryz.pinned (.plain (OpenSpec.upto configParsesSpec)) configParsesUptoCard

/-- THE SECOND FORM's CARD OF 'turnstilelaw17.ConfigValid'. -/
def configValidUptoCard : Claim7 := { stood := { row := configValidUptoRow, standIns := [], harness := (true, "3c2b14807e2f0078ac5006aeba580a15b6ee31f8cd9659cecf273a170e0b8f8e"), looks := true }, kinds := [], alts := [], laidByText := true, laidKinds := [.data, .data, .data, .data, .handle, .sentinel, .sentinel, .pinned], laidTests := true, laidLooks := .later }
def ConfigValidUptoCardSaid : Prop := Claim7.holds Tryz.pinned (.plain (OpenSpec.upto configValidSpec)) configValidUptoCard

/-- THE SECOND FORM's CARD OF 'turnstilelaw17.ConfigSame'. -/
def configSameUptoCard : Claim7 := { stood := { row := configSameUptoRow, standIns := [], harness := (true, "3c2b14807e2f0078ac5006aeba580a15b6ee31f8cd9659cecf273a170e0b8f8e"), looks := true }, kinds := [], alts := [], laidByText := true, laidKinds := [.data, .data, .data, .data, .handle, .sentinel, .sentinel, .pinned], laidTests := true, laidLooks := .later }
def ConfigSameUptoCardSaid : Prop := Claim7.holds Tryz.pinned (.plain (OpenSpec.upto configSameSpec)) configSameUptoCard

/-- THE SECOND FORM's CARD OF 'turnstilelaw17.ConfigBack'. -/
def configBackUptoCard : Claim7 := { stood := { row := configBackUptoRow, standIns := [], harness := (true, "3c2b14807e2f0078ac5006aeba580a15b6ee31f8cd9659cecf273a170e0b8f8e"), looks := true }, kinds := [], alts := [], laidByText := true, laidKinds := [.data, .data, .data, .data, .handle, .sentinel, .sentinel, .pinned], laidTests := true, laidLooks := .later }
def ConfigBackUptoCardSaid : Prop := Claim7.holds Tryz.pinned (.plain (OpenSpec.upto configBackSpec)) configBackUptoCard

/-- THE SECOND FORM's CARD OF 'turnstilelaw17.ConfigNames'. -/
def configNamesUptoCard : Claim7 := { stood := { row := configNamesUptoRow, standIns := [], harness := (true, "3c2b14807e2f0078ac5006aeba580a15b6ee31f8cd9659cecf273a170e0b8f8e"), looks := true }, kinds := [], alts := [], laidByText := true, laidKinds := [.data, .data, .data, .data, .handle, .sentinel, .sentinel, .pinned], laidTests := true, laidLooks := .later }
def ConfigNamesUptoCardSaid : Prop := Claim7.holds Tryz.pinned (.plain (OpenSpec.upto configNamesSpec)) configNamesUptoCard
end Rows
end Go.Proofs.YtlmefgjhbohjlaaGreatDoor
