/-
  DERIVED. GIVEN WITH THE SEED: THE CARDS: each row of YtnlmjlfoeodleaaDoorRows.lean that lists a variable, with what it lists TIED to the program's text (the seventh form; the later family's looks); each row that meets fmt, with fmt's text TOLD by the authors' own Lean function (tested against real Go, not proved from fmt's source: count such statements apart). THE CARD IS WHAT COUNTS. Prove the row's statement (the work); the ties are given (YtnlmjlfoeodleaaDoorTie.lean); close each card by the builder's one call (the guide's Derived/Test/ToyasCard.lean, 'card_holds'). Laid BY PROGRAM, IN A SANDBOX (cutbox-door.mjs). By AI agents, Wed Nov 11 2026. No macro, syntax, notation, axiom, sorry.
-/
import Derived.Test.YtnlmjlfoeodleaaDoorRows
import GoSem.ClaimSeven
namespace Go.Proofs.YtnlmjlfoeodleaaDoor
namespace Rows

/-- THE TIED CARD OF 'turnstilelaw14.HopsFields'. -/
def hopsFieldsCard : Claim7 := { stood := { row := hopsFieldsRow, standIns := [], harness := (true, "bdaa2037420e1ca4103c15de263d6b01c6b8da4d92bdb9f7160eee90baf707e3"), looks := true }, kinds := [], alts := [], laidByText := true, laidKinds := [.data, .data, .data, .data, .pinned], laidTests := true, laidLooks := .later }
def HopsFieldsCardSaid : Prop := Claim7.holds Tryd.pinned (.plain (OpenSpec.ofChange hopsFieldsSpec)) hopsFieldsCard

/-- THE TIED CARD OF 'turnstilelaw14.HopsEnds'. -/
def hopsEndsCard : Claim7 := { stood := { row := hopsEndsRow, standIns := [], harness := (true, "bdaa2037420e1ca4103c15de263d6b01c6b8da4d92bdb9f7160eee90baf707e3"), looks := true }, kinds := [], alts := [], laidByText := true, laidKinds := [.data, .data, .data, .data, .pinned], laidTests := true, laidLooks := .later }
def HopsEndsCardSaid : Prop := Claim7.holds Tryd.pinned (.plain (OpenSpec.ofChange hopsEndsSpec)) hopsEndsCard

/-- THE SECOND FORM's CARD OF 'turnstilelaw14.HopsFields'. -/
def hopsFieldsUptoCard : Claim7 := { stood := { row := hopsFieldsUptoRow, standIns := [], harness := (true, "bdaa2037420e1ca4103c15de263d6b01c6b8da4d92bdb9f7160eee90baf707e3"), looks := true }, kinds := [], alts := [], laidByText := true, laidKinds := [.data, .data, .data, .data, .pinned], laidTests := true, laidLooks := .later }
def HopsFieldsUptoCardSaid : Prop := Claim7.holds Tryd.pinned (.plain (OpenSpec.upto hopsFieldsSpec)) hopsFieldsUptoCard

/-- THE SECOND FORM's CARD OF 'turnstilelaw14.HopsEnds'. -/
def hopsEndsUptoCard : Claim7 := { stood := { row := hopsEndsUptoRow, standIns := [], harness := (true, "bdaa2037420e1ca4103c15de263d6b01c6b8da4d92bdb9f7160eee90baf707e3"), looks := true }, kinds := [], alts := [], laidByText := true, laidKinds := [.data, .data, .data, .data, .pinned], laidTests := true, laidLooks := .later }
def HopsEndsUptoCardSaid : Prop := Claim7.holds Tryd.pinned (.plain (OpenSpec.upto hopsEndsSpec)) hopsEndsUptoCard
end Rows
end Go.Proofs.YtnlmjlfoeodleaaDoor
