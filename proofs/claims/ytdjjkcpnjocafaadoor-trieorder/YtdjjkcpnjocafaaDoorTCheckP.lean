/- Which patterns may be, plain. -/
import Derived.Test.YtdjjkcpnjocafaaDoorTSpec
namespace Go.Proofs.YtdjjkcpnjocafaaDoor
/-- Segments that a pattern may have: plain ones of visible bytes, others a token that stands once, the rest last. V: visible; K: a token. -/
def okSegs (V : UInt8 → Bool) (K : B → Bool) : List B → List B → Bool
  | _, [] => true
  | names, x :: l =>
    if kindT x = 0 then x.all V && okSegs V K names l
    else K x.tail && (decide (kindT x ≠ 2) || decide (l = [])) && !names.contains x.tail && okSegs V K (names ++ [x.tail]) l
def checkT (V : UInt8 → Bool) (K : B → Bool) (p : B) : Bool := match splitT p with
  | none => false
  | some l => decide (p.length ≤ 256) && decide (l.length ≤ 64) && okSegs V K [] l
theorem ok_rest {V : UInt8 → Bool} {K : B → Bool} : ∀ {names l : List B}, okSegs V K names l = true → restLast l = true
  | _, [], _ => rfl
  | _, [_], _ => rfl
  | names, x :: y :: l, h => by
    unfold okSegs at h
    unfold restLast
    split at h
    · rename_i h0
      rw [Bool.and_eq_true] at h
      rw [ok_rest h.2, Bool.and_true]
      exact decide_eq_true (by omega)
    · simp only [Bool.and_eq_true] at h
      rw [ok_rest h.2, Bool.and_true]
      have h1 := h.1.1.2
      simpa using h1
theorem check_some {V : UInt8 → Bool} {K : B → Bool} {p : B} (h : checkT V K p = true) : ∃ t, p = 47 :: t ∧ (cutT t).length ≤ 64 ∧ p.length ≤ 256 ∧ okSegs V K [] (cutT t) = true ∧ restLast (cutT t) = true := by
  unfold checkT splitT at h
  cases p with
  | nil => cases h
  | cons c t =>
    by_cases hc : c = 47
    · simp only [if_pos hc, Bool.and_eq_true, decide_eq_true_eq] at h
      exact ⟨t, by rw [hc], h.1.2, h.1.1, h.2, ok_rest h.2⟩
    · simp only [if_neg hc] at h
      cases h
end Go.Proofs.YtdjjkcpnjocafaaDoor
