/- Both readers, fed with the same bytes, go on alike. -/
import Derived.Test.YtfmkkkkdfkjdlaaDoorHFeedP
import Derived.Test.YtfmkkkkdfkjdlaaDoorPRead
namespace Go.Proofs.YtfmkkkkdfkjdlaaDoor
open Go.RowKit

theorem Rel.ended {h : HS} {s : PS} (r : Rel h s) : endedH h = endedP s := by
  unfold endedH endedP
  rcases r with ⟨h1, rfl⟩ | ⟨h1, h2, h3, h4, _⟩ | u
  · have e : (spoilP h.len h.err).err = h.err := rfl
    rw [e]
    simp [h1]
  · rw [h1, h2, h3, h4]
    simp
  · rw [u.err, u.done, u.errP]
    simp [u.st]
theorem Rel.step {h : HS} {s : PS} (r : Rel h s) (he : endedH h = false) (c : UInt8) : Rel (byteH h c) (takeP s c) := by
  have ⟨hd, h0⟩ : h.done = false ∧ h.err = 0 := by
    unfold endedH at he
    simp only [Bool.or_eq_false_iff, bne_eq_false_iff_eq] at he
    exact he
  rcases r with ⟨h1, _⟩ | ⟨_, h2, _⟩ | u
  · exact absurd h0 h1
  · rw [hd] at h2; cases h2
  · exact u.step c
theorem feed_rel : ∀ (l : B) (h : HS) (s : PS), Rel h s → Rel (feedH h l) (feedP s l) ∧ feedHN h l = feedN s l
  | [], _, _, r => ⟨r, rfl⟩
  | c :: l, h, s, r => by
    unfold feedH feedP feedHN feedN
    rw [← r.ended]
    cases he : endedH h with
    | true => exact ⟨r, rfl⟩
    | false =>
      have := feed_rel l _ _ (r.step he c)
      simp only [Bool.false_eq_true, if_false]
      exact ⟨this.1, by rw [this.2]⟩
theorem under_new (r : Bool) (m : Int) : Under (newH r m) (newP r m) := by
  refine ⟨rfl, rfl, rfl, rfl, rfl, rfl, by cases r <;> simp [newP], ?_, rfl, by simp [newH]⟩
  cases r with
  | false => exact LineR.m0 (s := newP false m) rfl rfl
  | true => exact LineR.v3 (s := newP true m) rfl ⟨by simp [newP], .inl (by simp [newP])⟩
theorem rel_new (r : Bool) (m : Int) : Rel (newH r m) (newP r m) := .inr (.inr (under_new r m))
theorem Rel.err {h : HS} {s : PS} (r : Rel h s) : s.err = h.err := by
  rcases r with ⟨_, rfl⟩ | ⟨h1, _, h3, _⟩ | u
  · rfl
  · rw [h1, h3]
  · rw [u.err, u.errP]
theorem Rel.taken {h : HS} {s : PS} (r : Rel h s) : s.taken = h.len := by
  rcases r with ⟨_, rfl⟩ | ⟨_, _, _, _, _, h6, _⟩ | u
  · rfl
  · exact h6
  · exact u.taken
theorem Rel.whole {h : HS} {s : PS} (r : Rel h s) (he : h.err = 0) : decide (s.st = 11) = h.done := by
  rcases r with ⟨h1, _⟩ | ⟨_, h2, _, h4, _⟩ | u
  · exact absurd he h1
  · rw [h2, h4]; rfl
  · rw [u.done]
    exact decide_eq_false u.st
end Go.Proofs.YtfmkkkkdfkjdlaaDoor
