/- The document's segments of a path. -/
import Derived.Test.YtbdbmlklijmefabDoorRNorm
namespace Go.Proofs.YtbdbmlklijmefabDoor
open Go.RowKit

/-- The segments of a path, or the error. -/
def segsT (s : B) : List B × Nat := match normalB s with
  | none => ([], 23)
  | some p => if 64 < (segs p).length then ([], 2) else ((segs p).map fun t => (decodeB t).getD [], 0)
theorem normal_len {s p : B} (h : normalB s = some p) : p.length ≤ s.length := by
  unfold normalB at h
  split at h
  · cases hd : dotsL (segs (meantB s)) [] with
    | none => rw [hd] at h; cases h
    | some o =>
      rw [hd] at h
      cases h
      have h1 := dots_len _ _ _ hd
      have h2 := segs_join_len (meantB s)
      have h3 := meant_len s
      have h4 : (joinS []).length = 0 := rfl
      show (joinS o).length ≤ _
      omega
  · cases h
theorem mem_join : ∀ {l : List B} {t : B}, t ∈ l → t.length ≤ (joinS l).length
  | a :: l, t, h => by
    have e : (joinS (a :: l)).length = a.length + 1 + (joinS l).length := by simp [joinS]; omega
    rcases List.mem_cons.1 h with rfl | h
    · omega
    · have := mem_join h
      omega
theorem OwnS.base {w : World} {b b' : Nat} {v : Value} {acc : List B} (h : OwnS w b v acc) (hb : b' ≤ b) : OwnS w b' v acc := by
  refine ⟨h.1, ?_⟩
  rcases h.2 with h1 | ⟨g, cap, cur, h1, h2, h3⟩
  · exact .inl h1
  · exact .inr ⟨g, cap, cur, h1, Nat.le_trans hb h2, h3⟩
theorem seg_len {p t : B} (h : t ∈ segs p) : t.length ≤ p.length := Nat.le_trans (mem_join h) (segs_join_len p)
end Go.Proofs.YtbdbmlklijmefabDoor
