/- The document's parts of a target. -/
import Derived.Test.YtbdbmlklijmefabDoorRTg
namespace Go.Proofs.YtbdbmlklijmefabDoor
open Go.RowKit

theorem tw_gen {p : UInt8 → Bool} {l : B} {m : Nat} (h : ∀ y ∈ l.take m, p y = true) (he : l.length ≤ m ∨ ∃ z, l[m]? = some z ∧ p z = false) : l.takeWhile p = l.take m ∧ l.dropWhile p = l.drop m := by
  induction m generalizing l with
  | zero =>
    cases l with
    | nil => exact ⟨rfl, rfl⟩
    | cons b l =>
      rcases he with he | ⟨z, he, hz⟩
      · simp at he
      · simp at he
        subst he
        rw [List.takeWhile_cons, List.dropWhile_cons, hz]
        exact ⟨rfl, rfl⟩
  | succ m ih =>
    cases l with
    | nil => exact ⟨rfl, rfl⟩
    | cons b l =>
      have hb := h b (by simp)
      rw [List.takeWhile_cons, List.dropWhile_cons, hb, List.take_succ_cons, List.drop_succ_cons]
      obtain ⟨e1, e2⟩ := ih (l := l) (fun y hy => h y (by simp [hy])) (by
        rcases he with he | ⟨z, he, hz⟩
        · left; simp at he; omega
        · right; exact ⟨z, by simpa using he, hz⟩)
      simp only [if_true]
      exact ⟨by rw [e1], e2⟩
end Go.Proofs.YtbdbmlklijmefabDoor
