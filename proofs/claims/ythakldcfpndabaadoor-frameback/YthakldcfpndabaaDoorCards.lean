/-
  DERIVED. GIVEN WITH THE SEED: THE CARDS: each row of YthakldcfpndabaaDoorRows.lean that lists a variable, with what it lists TIED to the program's text (the seventh form; the later family's looks); each row that meets fmt, with fmt's text TOLD by the authors' own Lean function (tested against real Go, not proved from fmt's source: count such statements apart). THE CARD IS WHAT COUNTS. Prove the row's statement (the work); the ties are given (YthakldcfpndabaaDoorTie.lean); close each card by the builder's one call (the guide's Derived/Test/ToyasCard.lean, 'card_holds'). Laid BY PROGRAM, IN A SANDBOX (cutbox-door.mjs). By AI agents, Wed Nov 11 2026. No macro, syntax, notation, axiom, sorry.
-/
import Derived.Test.YthakldcfpndabaaDoorRows
import GoSem.ClaimSeven
namespace Go.Proofs.YthakldcfpndabaaDoor
namespace Rows

/-- THE TIED CARD OF 'turnstilelaw10.WriteFields'. -/
def writeFieldsCard : Claim7 := { stood := { row := writeFieldsRow, standIns := [], harness := (true, "0fb059098b40276146bb678d7f37bf1dc7f360377c18ef37f582faae6e0a6d11"), looks := true }, kinds := [], alts := [], laidByText := true, laidKinds := [.data, .data, .data], laidTests := true, laidLooks := .later }
def WriteFieldsCardSaid : Prop := Claim7.holds Tryd.pinned (.plain (OpenSpec.ofChange writeFieldsSpec)) writeFieldsCard

/-- THE TIED CARD OF 'turnstilelaw11.FrameFields'. -/
def frameFieldsCard : Claim7 := { stood := { row := frameFieldsRow, standIns := [], harness := (true, "0fb059098b40276146bb678d7f37bf1dc7f360377c18ef37f582faae6e0a6d11"), looks := true }, kinds := [], alts := [], laidByText := true, laidKinds := [.data, .data, .data, .data, .handle, .pinned], laidTests := true, laidLooks := .later }
def FrameFieldsCardSaid : Prop := Claim7.holds Tryd.pinned (.plain (OpenSpec.ofChange frameFieldsSpec)) frameFieldsCard

/-- THE TIED CARD OF 'turnstilelaw11.FrameMessages'. -/
def frameMessagesCard : Claim7 := { stood := { row := frameMessagesRow, standIns := [], harness := (true, "0fb059098b40276146bb678d7f37bf1dc7f360377c18ef37f582faae6e0a6d11"), looks := true }, kinds := [], alts := [], laidByText := true, laidKinds := [.data, .handle, .pinned], laidTests := true, laidLooks := .later }
def FrameMessagesCardSaid : Prop := Claim7.holds Tryd.pinned (.plain (OpenSpec.ofChange frameMessagesSpec)) frameMessagesCard

/-- THE TIED CARD OF 'turnstilelaw11.FrameBack'. -/
def frameBackCard : Claim7 := { stood := { row := frameBackRow, standIns := [], harness := (true, "0fb059098b40276146bb678d7f37bf1dc7f360377c18ef37f582faae6e0a6d11"), looks := true }, kinds := [], alts := [], laidByText := true, laidKinds := [.data, .data, .data, .data, .pinned], laidTests := true, laidLooks := .later }
def FrameBackCardSaid : Prop := Claim7.holds Tryd.pinned (.plain (OpenSpec.ofChange frameBackSpec)) frameBackCard

/-- THE TIED CARD OF 'turnstilelaw11.FrameSmuggled'. -/
def frameSmuggledCard : Claim7 := { stood := { row := frameSmuggledRow, standIns := [], harness := (true, "0fb059098b40276146bb678d7f37bf1dc7f360377c18ef37f582faae6e0a6d11"), looks := true }, kinds := [], alts := [], laidByText := true, laidKinds := [.data, .handle, .pinned], laidTests := true, laidLooks := .later }
def FrameSmuggledCardSaid : Prop := Claim7.holds Tryd.pinned (.plain (OpenSpec.ofChange frameSmuggledSpec)) frameSmuggledCard

/-- THE SECOND FORM's CARD OF 'turnstilelaw10.WriteFields'. -/
def writeFieldsUptoCard : Claim7 := { stood := { row := writeFieldsUptoRow, standIns := [], harness := (true, "0fb059098b40276146bb678d7f37bf1dc7f360377c18ef37f582faae6e0a6d11"), looks := true }, kinds := [], alts := [], laidByText := true, laidKinds := [.data, .data, .data], laidTests := true, laidLooks := .later }
def WriteFieldsUptoCardSaid : Prop := Claim7.holds Tryd.pinned (.plain (OpenSpec.upto writeFieldsSpec)) writeFieldsUptoCard

/-- THE SECOND FORM's CARD OF 'turnstilelaw11.FrameFields'. -/
def frameFieldsUptoCard : Claim7 := { stood := { row := frameFieldsUptoRow, standIns := [], harness := (true, "0fb059098b40276146bb678d7f37bf1dc7f360377c18ef37f582faae6e0a6d11"), looks := true }, kinds := [], alts := [], laidByText := true, laidKinds := [.data, .data, .data, .data, .handle, .pinned], laidTests := true, laidLooks := .later }
def FrameFieldsUptoCardSaid : Prop := Claim7.holds Tryd.pinned (.plain (OpenSpec.upto frameFieldsSpec)) frameFieldsUptoCard

/-- THE SECOND FORM's CARD OF 'turnstilelaw11.FrameMessages'. -/
def frameMessagesUptoCard : Claim7 := { stood := { row := frameMessagesUptoRow, standIns := [], harness := (true, "0fb059098b40276146bb678d7f37bf1dc7f360377c18ef37f582faae6e0a6d11"), looks := true }, kinds := [], alts := [], laidByText := true, laidKinds := [.data, .handle, .pinned], laidTests := true, laidLooks := .later }
def FrameMessagesUptoCardSaid : Prop := Claim7.holds Tryd.pinned (.plain (OpenSpec.upto frameMessagesSpec)) frameMessagesUptoCard

/-- THE SECOND FORM's CARD OF 'turnstilelaw11.FrameBack'. -/
def frameBackUptoCard : Claim7 := { stood := { row := frameBackUptoRow, standIns := [], harness := (true, "0fb059098b40276146bb678d7f37bf1dc7f360377c18ef37f582faae6e0a6d11"), looks := true }, kinds := [], alts := [], laidByText := true, laidKinds := [.data, .data, .data, .data, .pinned], laidTests := true, laidLooks := .later }
def FrameBackUptoCardSaid : Prop := Claim7.holds Tryd.pinned (.plain (OpenSpec.upto frameBackSpec)) frameBackUptoCard

/-- THE SECOND FORM's CARD OF 'turnstilelaw11.FrameSmuggled'. -/
def frameSmuggledUptoCard : Claim7 := { stood := { row := frameSmuggledUptoRow, standIns := [], harness := (true, "0fb059098b40276146bb678d7f37bf1dc7f360377c18ef37f582faae6e0a6d11"), looks := true }, kinds := [], alts := [], laidByText := true, laidKinds := [.data, .handle, .pinned], laidTests := true, laidLooks := .later }
def FrameSmuggledUptoCardSaid : Prop := Claim7.holds Tryd.pinned (.plain (OpenSpec.upto frameSmuggledSpec)) frameSmuggledUptoCard
end Rows
end Go.Proofs.YthakldcfpndabaaDoor
