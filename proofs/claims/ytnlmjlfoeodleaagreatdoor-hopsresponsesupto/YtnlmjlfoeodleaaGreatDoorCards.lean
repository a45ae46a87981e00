/-
  DERIVED. GIVEN WITH THE SEED: THE CARDS: each row of YtnlmjlfoeodleaaGreatDoorRows.lean that lists a variable, with what it lists TIED to the program's text (the seventh form; the later family's looks); each row that meets fmt, with fmt's text TOLD by the authors' own Lean function (tested against real Go, not proved from fmt's source: count such statements apart). THE CARD IS WHAT COUNTS. Prove the row's statement (the work); the ties are given (YtnlmjlfoeodleaaGreatDoorTie.lean); close each card by the builder's one call (the guide's Derived/Test/ToyasCard.lean, 'card_holds'). Laid BY PROGRAM, IN A SANDBOX (cutbox-door.mjs). By AI agents, Wed Nov 11 2026. No macro, syntax, notation, axiom, sorry.
-/
import Derived.Test.YtnlmjlfoeodleaaGreatDoorRows
import GoSem.ClaimSeven
namespace Go.Proofs.YtnlmjlfoeodleaaGreatDoor
namespace Rows

/-- THE TIED CARD OF 'turnstilelaw13.BodyFeeds'. -/
def bodyFeedsCard : Claim7 := { stood := { row := bodyFeedsRow, standIns := [], harness := (true, "5ad1ea0f2dfac1d49d4d25ed77ecc30663a09ed8457725ee8f07ff9d56554898"), looks := true }, kinds := [], alts := [], laidByText := true, laidKinds := [.data, .data, .data, .handle], laidTests := true, laidLooks := .later }
def BodyFeedsCardSaid : Prop := Claim7.holds Tryz.pinned (.plain (OpenSpec.ofChange bodyFeedsSpec)) bodyFeedsCard

/-- THE TIED CARD OF 'turnstilelaw14.HopsRequests'. -/
def hopsRequestsCard : Claim7 := { stood := { row := hopsRequestsRow, standIns := [], harness := (true, "5ad1ea0f2dfac1d49d4d25ed77ecc30663a09ed8457725ee8f07ff9d56554898"), looks := true }, kinds := [], alts := [], laidByText := true, laidKinds := [.data, .data, .data, .data, .pinned], laidTests := true, laidLooks := .later }
def HopsRequestsCardSaid : Prop := Claim7.holds Tryz.pinned (.plain (OpenSpec.ofChange hopsRequestsSpec)) hopsRequestsCard

/-- THE TIED CARD OF 'turnstilelaw14.HopsResponses'. -/
def hopsResponsesCard : Claim7 := { stood := { row := hopsResponsesRow, standIns := [], harness := (true, "5ad1ea0f2dfac1d49d4d25ed77ecc30663a09ed8457725ee8f07ff9d56554898"), looks := true }, kinds := [], alts := [], laidByText := true, laidKinds := [.data, .data, .data, .data, .pinned], laidTests := true, laidLooks := .later }
def HopsResponsesCardSaid : Prop := Claim7.holds Tryz.pinned (.plain (OpenSpec.ofChange hopsResponsesSpec)) hopsResponsesCard

/-- THE SECOND FORM's CARD OF 'turnstilelaw13.BodyFeeds'. -/
def bodyFeedsUptoCard : Claim7 := { stood := { row := bodyFeedsUptoRow, standIns := [], harness := (true, "5ad1ea0f2dfac1d49d4d25ed77ecc30663a09ed8457725ee8f07ff9d56554898"), looks := true }, kinds := [], alts := [], laidByText := true, laidKinds := [.data, .data, .data, .handle], laidTests := true, laidLooks := .later }
def BodyFeedsUptoCardSaid : Prop := Claim7.holds Tryz.pinned (.plain (OpenSpec.upto bodyFeedsSpec)) bodyFeedsUptoCard

/-- THE SECOND FORM's CARD OF 'turnstilelaw14.HopsRequests'. -/
def hopsRequestsUptoCard : Claim7 := { stood := { row := hopsRequestsUptoRow, standIns := [], harness := (true, "5ad1ea0f2dfac1d49d4d25ed77ecc30663a09ed8457725ee8f07ff9d56554898"), looks := true }, kinds := [], alts := [], laidByText := true, laidKinds := [.data, .data, .data, .data, .pinned], laidTests := true, laidLooks := .later }
def HopsRequestsUptoCardSaid : Prop := Claim7.holds Tryz.pinned (.plain (OpenSpec.upto hopsRequestsSpec)) hopsRequestsUptoCard

/-- THE SECOND FORM's CARD OF 'turnstilelaw14.HopsResponses'. -/
def hopsResponsesUptoCard : Claim7 := { stood := { row := hopsResponsesUptoRow, standIns := [], harness := (true, "5ad1ea0f2dfac1d49d4d25ed77ecc30663a09ed8457725ee8f07ff9d56554898"), looks := true }, kinds := [], alts := [], laidByText := true, laidKinds := [.data, .data, .data, .data, .pinned], laidTests := true, laidLooks := .later }
def HopsResponsesUptoCardSaid : Prop := Claim7.holds Tryz.pinned (.plain (OpenSpec.upto hopsResponsesSpec)) hopsResponsesUptoCard
end Rows
end Go.Proofs.YtnlmjlfoeodleaaGreatDoor
