/-
  DERIVED. GIVEN WITH THE SEED: THE CARDS: each row of YtdjjkcpnjocafaaDoorRows.lean that lists a variable, with what it lists TIED to the program's text (the seventh form; the later family's looks); each row that meets fmt, with fmt's text TOLD by the authors' own Lean function (tested against real Go, not proved from fmt's source: count such statements apart). THE CARD IS WHAT COUNTS. Prove the row's statement (the work); the ties are given (YtdjjkcpnjocafaaDoorTie.lean); close each card by the builder's one call (the guide's Derived/Test/ToyasCard.lean, 'card_holds'). Laid BY PROGRAM, IN A SANDBOX (cutbox-door.mjs). By AI agents, Wed Nov 11 2026. No macro, syntax, notation, axiom, sorry.
-/
import Derived.Test.YtdjjkcpnjocafaaDoorRows
import GoSem.ClaimSeven
namespace Go.Proofs.YtdjjkcpnjocafaaDoor
namespace Rows

/-- THE TIED CARD OF 'turnstilelaw15.TrieFinds'. -/
def trieFindsCard : Claim7 := { stood := { row := trieFindsRow, standIns := [], harness := (true, "a3c2f667cd36cd0582b7d9259fed0a0d9977784b2db715c627e589719b44dfdf"), looks := true }, kinds := [], alts := [], laidByText := true, laidKinds := [.data, .handle, .pinned], laidTests := true, laidLooks := .later }
def TrieFindsCardSaid : Prop := Claim7.holds Tryd.pinned (.plain (OpenSpec.ofChange trieFindsSpec)) trieFindsCard

/-- THE TIED CARD OF 'turnstilelaw15.TrieFits'. -/
def trieFitsCard : Claim7 := { stood := { row := trieFitsRow, standIns := [], harness := (true, "a3c2f667cd36cd0582b7d9259fed0a0d9977784b2db715c627e589719b44dfdf"), looks := true }, kinds := [], alts := [], laidByText := true, laidKinds := [.data, .handle, .pinned], laidTests := true, laidLooks := .later }
def TrieFitsCardSaid : Prop := Claim7.holds Tryd.pinned (.plain (OpenSpec.ofChange trieFitsSpec)) trieFitsCard

/-- THE TIED CARD OF 'turnstilelaw15.TrieOrder'. -/
def trieOrderCard : Claim7 := { stood := { row := trieOrderRow, standIns := [], harness := (true, "a3c2f667cd36cd0582b7d9259fed0a0d9977784b2db715c627e589719b44dfdf"), looks := true }, kinds := [], alts := [], laidByText := true, laidKinds := [.data, .handle, .pinned], laidTests := true, laidLooks := .later }
def TrieOrderCardSaid : Prop := Claim7.holds Tryd.pinned (.plain (OpenSpec.ofChange trieOrderSpec)) trieOrderCard

/-- THE TIED CARD OF 'turnstilelaw15.TrieFilled'. -/
def trieFilledCard : Claim7 := { stood := { row := trieFilledRow, standIns := [], harness := (true, "a3c2f667cd36cd0582b7d9259fed0a0d9977784b2db715c627e589719b44dfdf"), looks := true }, kinds := [], alts := [], laidByText := true, laidKinds := [.data, .pinned], laidTests := true, laidLooks := .later }
def TrieFilledCardSaid : Prop := Claim7.holds Tryd.pinned (.plain (OpenSpec.ofChange trieFilledSpec)) trieFilledCard

/-- THE SECOND FORM's CARD OF 'turnstilelaw15.TrieFinds'. -/
def trieFindsUptoCard : Claim7 := { stood := { row := trieFindsUptoRow, standIns := [], harness := (true, "a3c2f667cd36cd0582b7d9259fed0a0d9977784b2db715c627e589719b44dfdf"), looks := true }, kinds := [], alts := [], laidByText := true, laidKinds := [.data, .handle, .pinned], laidTests := true, laidLooks := .later }
def TrieFindsUptoCardSaid : Prop := Claim7.holds Tryd.pinned (.plain (OpenSpec.upto trieFindsSpec)) trieFindsUptoCard

/-- THE SECOND FORM's CARD OF 'turnstilelaw15.TrieFits'. -/
def trieFitsUptoCard : Claim7 := { stood := { row := trieFitsUptoRow, standIns := [], harness := (true, "a3c2f667cd36cd0582b7d9259fed0a0d9977784b2db715c627e589719b44dfdf"), looks := true }, kinds := [], alts := [], laidByText := true, laidKinds := [.data, .handle, .pinned], laidTests := true, laidLooks := .later }
def TrieFitsUptoCardSaid : Prop := Claim7.holds Tryd.pinned (.plain (OpenSpec.upto trieFitsSpec)) trieFitsUptoCard

/-- THE SECOND FORM's CARD OF 'turnstilelaw15.TrieOrder'. -/
def trieOrderUptoCard : Claim7 := { stood := { row := trieOrderUptoRow, standIns := [], harness := (true, "a3c2f667cd36cd0582b7d9259fed0a0d9977784b2db715c627e589719b44dfdf"), looks := true }, kinds := [], alts := [], laidByText := true, laidKinds := [.data, .handle, .pinned], laidTests := true, laidLooks := .later }
def TrieOrderUptoCardSaid : Prop := Claim7.holds Tryd.pinned (.plain (OpenSpec.upto trieOrderSpec)) trieOrderUptoCard

/-- THE SECOND FORM's CARD OF 'turnstilelaw15.TrieFilled'. -/
def trieFilledUptoCard : Claim7 := { stood := { row := trieFilledUptoRow, standIns := [], harness := (true, "a3c2f667cd36cd0582b7d9259fed0a0d9977784b2db715c627e589719b44dfdf"), looks := true }, kinds := [], alts := [], laidByText := true, laidKinds := [.data, .pinned], laidTests := true, laidLooks := .later }
def TrieFilledUptoCardSaid : Prop := Claim7.holds Tryd.pinned (.plain (OpenSpec.upto trieFilledSpec)) trieFilledUptoCard
end Rows
end Go.Proofs.YtdjjkcpnjocafaaDoor
