/- Patterns go ahead of each other as the document says: never of itself, carried on, one of two. -/
import Derived.Test.YtkjgdfihhhdjaaaDoorSBeat
namespace Go.Proofs.YtkjgdfihhhdjaaaDoor
open Go.RowKit

theorem fitsL_snoc : ∀ (l r : List B) (a b : B), l.length = r.length → fitsL (l ++ [a]) (r ++ [b]) = (fitsL l r && (decide (a = starL) || decide (a = b)))
  | [], [], a, b, _ => by simp [fitsL]
  | [], _ :: _, _, _, h => by simp at h
  | _ :: _, [], _, _, h => by simp at h
  | x :: l, y :: r, a, b, h => by
    have ih := fitsL_snoc l r a b (by simpa using h)
    rw [List.cons_append, List.cons_append, fitsL, ih, fitsL, Bool.and_assoc]
theorem fitsL_rev : ∀ {x y : List B}, fitsL x y = true → fitsL x.reverse y.reverse = true
  | [], [], _ => rfl
  | [], _ :: _, h => by simp [fitsL] at h
  | _ :: _, [], h => by simp [fitsL] at h
  | x :: l, y :: r, h => by
    unfold fitsL at h
    rw [Bool.and_eq_true] at h
    rw [List.reverse_cons, List.reverse_cons, fitsL_snoc _ _ _ _ (by rw [List.length_reverse, List.length_reverse, fitsL_len h.2]), fitsL_rev h.2, h.1]
    rfl
theorem fitsS_rev {x y : List B} (h : fitsS x y = true) : fitsS x.reverse y.reverse = true := by
  unfold fitsS at h ⊢
  rw [Bool.or_eq_true] at h ⊢
  rcases h with h | h
  · have := of_decide_eq_true h
    subst this
    exact .inl rfl
  · exact .inr (fitsL_rev h)
theorem aheadP_irrefl (a : List B) : aheadP a a = false := aheadS_irrefl _
theorem aheadP_trans {a b c : List B} (h1 : aheadP a b = true) (h2 : aheadP b c = true) : aheadP a c = true := aheadS_trans h1 h2
theorem aheadP_asymm {a b : List B} (h : aheadP a b = true) : aheadP b a = false := aheadS_asymm h
theorem aheadP_total (a b h : List B) (ha : fitsS a h = true) (hb : fitsS b h = true) : a = b ∨ aheadP a b = true ∨ aheadP b a = true := by
  rcases aheadS_total a.reverse b.reverse h.reverse (fitsS_rev ha) (fitsS_rev hb) with h | h
  · exact .inl (List.reverse_inj.1 h)
  · exact .inr h
end Go.Proofs.YtkjgdfihhhdjaaaDoor
