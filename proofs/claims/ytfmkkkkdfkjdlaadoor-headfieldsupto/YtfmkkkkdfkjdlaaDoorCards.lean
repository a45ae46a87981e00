/-
  DERIVED. GIVEN WITH THE SEED: THE CARDS: each row of YtfmkkkkdfkjdlaaDoorRows.lean that lists a variable, with what it lists TIED to the program's text (the seventh form; the later family's looks); each row that meets fmt, with fmt's text TOLD by the authors' own Lean function (tested against real Go, not proved from fmt's source: count such statements apart). THE CARD IS WHAT COUNTS. Prove the row's statement (the work); the ties are given (YtfmkkkkdfkjdlaaDoorTie.lean); close each card by the builder's one call (the guide's Derived/Test/ToyasCard.lean, 'card_holds'). Laid BY PROGRAM, IN A SANDBOX (cutbox-door.mjs). By AI agents, Wed Nov 11 2026. No macro, syntax, notation, axiom, sorry.
-/
import Derived.Test.YtfmkkkkdfkjdlaaDoorRows
import GoSem.ClaimSeven
namespace Go.Proofs.YtfmkkkkdfkjdlaaDoor
namespace Rows

/-- THE TIED CARD OF 'turnstilelaw09.HeadParses'. -/
def headParsesCard : Claim7 := { stood := { row := headParsesRow, standIns := [], harness := (true, "04671dac4cc73bafcc368374234754833fb2fe260e912d27589b3af210d8758c"), looks := true }, kinds := [], alts := [], laidByText := true, laidKinds := [.handle], laidTests := true, laidLooks := .later }
def HeadParsesCardSaid : Prop := Claim7.holds Tryd.pinned (.plain (OpenSpec.ofChange headParsesSpec)) headParsesCard

/-- THE TIED CARD OF 'turnstilelaw09.HeadFeeds'. -/
def headFeedsCard : Claim7 := { stood := { row := headFeedsRow, standIns := [], harness := (true, "04671dac4cc73bafcc368374234754833fb2fe260e912d27589b3af210d8758c"), looks := true }, kinds := [], alts := [], laidByText := true, laidKinds := [.handle], laidTests := true, laidLooks := .later }
def HeadFeedsCardSaid : Prop := Claim7.holds Tryd.pinned (.plain (OpenSpec.ofChange headFeedsSpec)) headFeedsCard

/-- THE TIED CARD OF 'turnstilelaw09.HeadFields'. -/
def headFieldsCard : Claim7 := { stood := { row := headFieldsRow, standIns := [], harness := (true, "04671dac4cc73bafcc368374234754833fb2fe260e912d27589b3af210d8758c"), looks := true }, kinds := [], alts := [], laidByText := true, laidKinds := [.data, .handle, .pinned], laidTests := true, laidLooks := .later }
def HeadFieldsCardSaid : Prop := Claim7.holds Tryd.pinned (.plain (OpenSpec.ofChange headFieldsSpec)) headFieldsCard

/-- THE SECOND FORM's CARD OF 'turnstilelaw09.HeadParses'. -/
def headParsesUptoCard : Claim7 := { stood := { row := headParsesUptoRow, standIns := [], harness := (true, "04671dac4cc73bafcc368374234754833fb2fe260e912d27589b3af210d8758c"), looks := true }, kinds := [], alts := [], laidByText := true, laidKinds := [.handle], laidTests := true, laidLooks := .later }
def HeadParsesUptoCardSaid : Prop := Claim7.holds Tryd.pinned (.plain (OpenSpec.upto headParsesSpec)) headParsesUptoCard

/-- THE SECOND FORM's CARD OF 'turnstilelaw09.HeadFeeds'. -/
def headFeedsUptoCard : Claim7 := { stood := { row := headFeedsUptoRow, standIns := [], harness := (true, "04671dac4cc73bafcc368374234754833fb2fe260e912d27589b3af210d8758c"), looks := true }, kinds := [], alts := [], laidByText := true, laidKinds := [.handle], laidTests := true, laidLooks := .later }
def HeadFeedsUptoCardSaid : Prop := Claim7.holds Tryd.pinned (.plain (OpenSpec.upto headFeedsSpec)) headFeedsUptoCard

/-- THE SECOND FORM's CARD OF 'turnstilelaw09.HeadFields'. -/
def headFieldsUptoCard : Claim7 := { stood := { row := headFieldsUptoRow, standIns := [], harness := (true, "04671dac4cc73bafcc368374234754833fb2fe260e912d27589b3af210d8758c"), looks := true }, kinds := [], alts := [], laidByText := true, laidKinds := [.data, .handle, .pinned], laidTests := true, laidLooks := .later }
def HeadFieldsUptoCardSaid : Prop := Claim7.holds Tryd.pinned (.plain (OpenSpec.upto headFieldsSpec)) headFieldsUptoCard
end Rows
end Go.Proofs.YtfmkkkkdfkjdlaaDoor
