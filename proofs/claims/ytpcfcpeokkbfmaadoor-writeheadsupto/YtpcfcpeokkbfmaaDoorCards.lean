/-
  DERIVED. GIVEN WITH THE SEED: THE CARDS: each row of YtpcfcpeokkbfmaaDoorRows.lean that lists a variable, with what it lists TIED to the program's text (the seventh form; the later family's looks); each row that meets fmt, with fmt's text TOLD by the authors' own Lean function (tested against real Go, not proved from fmt's source: count such statements apart). THE CARD IS WHAT COUNTS. Prove the row's statement (the work); the ties are given (YtpcfcpeokkbfmaaDoorTie.lean); close each card by the builder's one call (the guide's Derived/Test/ToyasCard.lean, 'card_holds'). Laid BY PROGRAM, IN A SANDBOX (cutbox-door.mjs). By AI agents, Wed Nov 11 2026. No macro, syntax, notation, axiom, sorry.
-/
import Derived.Test.YtpcfcpeokkbfmaaDoorRows
import GoSem.ClaimSeven
namespace Go.Proofs.YtpcfcpeokkbfmaaDoor
namespace Rows

/-- THE TIED CARD OF 'turnstilelaw10.WriteHeads'. -/
def writeHeadsCard : Claim7 := { stood := { row := writeHeadsRow, standIns := [], harness := (true, "43854a2cb85c20b7ddf5b7cd25e46804508472f459c899a9fd4a64e08ba1ad63"), looks := true }, kinds := [], alts := [], laidByText := true, laidKinds := [.data, .data, .data], laidTests := true, laidLooks := .later }
def WriteHeadsCardSaid : Prop := Claim7.holds Tryd.pinned (.plain (OpenSpec.ofChange writeHeadsSpec)) writeHeadsCard

/-- THE TIED CARD OF 'turnstilelaw10.WriteFields'. -/
def writeFieldsCard : Claim7 := { stood := { row := writeFieldsRow, standIns := [], harness := (true, "43854a2cb85c20b7ddf5b7cd25e46804508472f459c899a9fd4a64e08ba1ad63"), looks := true }, kinds := [], alts := [], laidByText := true, laidKinds := [.data, .data, .data], laidTests := true, laidLooks := .later }
def WriteFieldsCardSaid : Prop := Claim7.holds Tryd.pinned (.plain (OpenSpec.ofChange writeFieldsSpec)) writeFieldsCard

/-- THE TIED CARD OF 'turnstilelaw10.WriteLocals'. -/
def writeLocalsCard : Claim7 := { stood := { row := writeLocalsRow, standIns := [], harness := (true, "43854a2cb85c20b7ddf5b7cd25e46804508472f459c899a9fd4a64e08ba1ad63"), looks := true }, kinds := [], alts := [], laidByText := true, laidKinds := [.data, .data, .data], laidTests := true, laidLooks := .later }
def WriteLocalsCardSaid : Prop := Claim7.holds Tryd.pinned (.plain (OpenSpec.ofChange writeLocalsSpec)) writeLocalsCard

/-- THE TIED CARD OF 'turnstilelaw10.WriteBack'. -/
def writeBackCard : Claim7 := { stood := { row := writeBackRow, standIns := [], harness := (true, "43854a2cb85c20b7ddf5b7cd25e46804508472f459c899a9fd4a64e08ba1ad63"), looks := true }, kinds := [], alts := [], laidByText := true, laidKinds := [.data, .data, .data], laidTests := true, laidLooks := .later }
def WriteBackCardSaid : Prop := Claim7.holds Tryd.pinned (.plain (OpenSpec.ofChange writeBackSpec)) writeBackCard

/-- THE TIED CARD OF 'turnstilelaw10.WriteApart'. -/
def writeApartCard : Claim7 := { stood := { row := writeApartRow, standIns := [], harness := (true, "43854a2cb85c20b7ddf5b7cd25e46804508472f459c899a9fd4a64e08ba1ad63"), looks := true }, kinds := [], alts := [], laidByText := true, laidKinds := [.data, .data, .data], laidTests := true, laidLooks := .later }
def WriteApartCardSaid : Prop := Claim7.holds Tryd.pinned (.plain (OpenSpec.ofChange writeApartSpec)) writeApartCard

/-- THE SECOND FORM's CARD OF 'turnstilelaw10.WriteHeads'. -/
def writeHeadsUptoCard : Claim7 := { stood := { row := writeHeadsUptoRow, standIns := [], harness := (true, "43854a2cb85c20b7ddf5b7cd25e46804508472f459c899a9fd4a64e08ba1ad63"), looks := true }, kinds := [], alts := [], laidByText := true, laidKinds := [.data, .data, .data], laidTests := true, laidLooks := .later }
def WriteHeadsUptoCardSaid : Prop := Claim7.holds Tryd.pinned (.plain (OpenSpec.upto writeHeadsSpec)) writeHeadsUptoCard

/-- THE SECOND FORM's CARD OF 'turnstilelaw10.WriteFields'. -/
def writeFieldsUptoCard : Claim7 := { stood := { row := writeFieldsUptoRow, standIns := [], harness := (true, "43854a2cb85c20b7ddf5b7cd25e46804508472f459c899a9fd4a64e08ba1ad63"), looks := true }, kinds := [], alts := [], laidByText := true, laidKinds := [.data, .data, .data], laidTests := true, laidLooks := .later }
def WriteFieldsUptoCardSaid : Prop := Claim7.holds Tryd.pinned (.plain (OpenSpec.upto writeFieldsSpec)) writeFieldsUptoCard

/-- THE SECOND FORM's CARD OF 'turnstilelaw10.WriteLocals'. -/
def writeLocalsUptoCard : Claim7 := { stood := { row := writeLocalsUptoRow, standIns := [], harness := (true, "43854a2cb85c20b7ddf5b7cd25e46804508472f459c899a9fd4a64e08ba1ad63"), looks := true }, kinds := [], alts := [], laidByText := true, laidKinds := [.data, .data, .data], laidTests := true, laidLooks := .later }
def WriteLocalsUptoCardSaid : Prop := Claim7.holds Tryd.pinned (.plain (OpenSpec.upto writeLocalsSpec)) writeLocalsUptoCard

/-- THE SECOND FORM's CARD OF 'turnstilelaw10.WriteBack'. -/
def writeBackUptoCard : Claim7 := { stood := { row := writeBackUptoRow, standIns := [], harness := (true, "43854a2cb85c20b7ddf5b7cd25e46804508472f459c899a9fd4a64e08ba1ad63"), looks := true }, kinds := [], alts := [], laidByText := true, laidKinds := [.data, .data, .data], laidTests := true, laidLooks := .later }
def WriteBackUptoCardSaid : Prop := Claim7.holds Tryd.pinned (.plain (OpenSpec.upto writeBackSpec)) writeBackUptoCard

/-- THE SECOND FORM's CARD OF 'turnstilelaw10.WriteApart'. -/
def writeApartUptoCard : Claim7 := { stood := { row := writeApartUptoRow, standIns := [], harness := (true, "43854a2cb85c20b7ddf5b7cd25e46804508472f459c899a9fd4a64e08ba1ad63"), looks := true }, kinds := [], alts := [], laidByText := true, laidKinds := [.data, .data, .data], laidTests := true, laidLooks := .later }
def WriteApartUptoCardSaid : Prop := Claim7.holds Tryd.pinned (.plain (OpenSpec.upto writeApartSpec)) writeApartUptoCard
end Rows
end Go.Proofs.YtpcfcpeokkbfmaaDoor
