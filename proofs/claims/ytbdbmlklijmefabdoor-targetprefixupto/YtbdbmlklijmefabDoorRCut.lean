/- The document's paths and queries; what stands ahead of a byte and behind it; small letters. -/
import Derived.Test.YtbdbmlklijmefabDoorRMade
import Derived.Maps.AppendAt
import Derived.Laws.BitsLemmas
namespace Go.Proofs.YtbdbmlklijmefabDoor
open Go.RowKit

theorem arr_inj {a b : ByteArray} (h : a.data.toList = b.data.toList) : a = b := by
  apply ByteArray.ext
  exact Array.toList_inj.1 h
theorem str_inj {a b : B} (h : str a = str b) : a = b := by
  have := congrArg (fun x : ByteArray => x.data.toList) h
  simpa using this
theorem ne_list {A C : ByteArray} (h : ¬ A = C) : (A.toList == C.toList) = false := by
  rw [ByteArray.toList_eq, ByteArray.toList_eq, beq_eq_false_iff_ne]
  exact fun e => h (arr_inj e)
theorem ne_empty {A : ByteArray} (h : ¬ A = ⟨#[]⟩) : A.toList.isEmpty = false := by
  rw [ByteArray.toList_eq]
  cases e : A.data.toList with
  | nil => exact absurd (arr_inj (b := ⟨#[]⟩) e) h
  | cons _ _ => rfl
theorem str_ne {a b : B} (h : a ≠ b) : str a ≠ str b := fun e => h (str_inj e)
theorem ext_str (p : B) (f k : Nat) : (str p).extract f k = str ((p.drop f).take (k - f)) := by
  apply arr_inj
  simp [List.extract]
theorem below_out {w W w' : World} (h1 : Below w.heap.size w W) (h2 : Below W.heap.size W w') : Below w.heap.size w w' := h1.trans (h2.mono h1.size)
end Go.Proofs.YtbdbmlklijmefabDoor
