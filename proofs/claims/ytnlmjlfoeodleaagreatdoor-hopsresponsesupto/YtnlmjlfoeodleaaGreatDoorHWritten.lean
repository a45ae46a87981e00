/- The document's own: a request's head as a text. -/
import Derived.Test.YtnlmjlfoeodleaaGreatDoorHWrite
import Derived.Test.YtnlmjlfoeodleaaGreatDoorPReq
namespace Go.Proofs.YtnlmjlfoeodleaaGreatDoor
open Go.RowKit

def okQ (m t : B) (k : Int) (fs : List (B × B)) : Bool := isTok (str m) && decide (t ≠ []) && allB 1 t && decide (0 ≤ k) && decide (k ≤ 1) && fineB fs
theorem empty_eq {t : B} (h : t = []) : str t = ⟨#[]⟩ := by rw [h]
theorem str_nil_ne {t : B} (h : t ≠ []) : ((str t).toList == []) = false ∧ (str t).toList.isEmpty = false ∧ ¬ (str t).toList = [] := by
  have e : (str t).toList = t := by rw [ByteArray.toList_eq]
  rw [e]
  refine ⟨by simpa using h, by simpa using h, h⟩
theorem own_lower {w : World} {b b' : Nat} {v : Value} {acc : B} (h : Own w b v acc) (hb : b' ≤ b) : Own w b' v acc := by
  refine ⟨h.1, ?_⟩
  rcases h.2 with h1 | ⟨g, cap, cur, h1, h2, h3⟩
  · exact .inl h1
  · exact .inr ⟨g, cap, cur, h1, Nat.le_trans hb h2, h3⟩
end Go.Proofs.YtnlmjlfoeodleaaGreatDoor
