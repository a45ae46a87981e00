/- The document's own: a response's head as a text. -/
import Derived.Test.YtnlmjlfoeodleaaGreatDoorHWritten
import Derived.Test.YtnlmjlfoeodleaaGreatDoorLSizes
namespace Go.Proofs.YtnlmjlfoeodleaaGreatDoor
open Go.RowKit

def okP (s : Int) (r : B) (k : Int) (fs : List (B × B)) : Bool := decide (100 ≤ s) && decide (s ≤ 599) && allB 2 r && decide (0 ≤ k) && decide (k ≤ 1) && fineB fs
def chkD : B → Bool
  | [a, b, c] => staAt 0 a && staAt 1 b && staAt 2 c
  | _ => false
theorem chk_sta {d : B} (h : chkD d = true) : staP d ∧ d.length = 3 := by
  match d, h with
  | [a, b, c], h =>
    unfold chkD at h
    simp only [Bool.and_eq_true] at h
    refine ⟨⟨Nat.le_refl _, fun i x hi => ?_⟩, rfl⟩
    match i, hi with
    | 0, hi => simp at hi; subst hi; exact h.1.1
    | 1, hi => simp at hi; subst hi; exact h.1.2
    | 2, hi => simp at hi; subst hi; exact h.2
    | i + 3, hi => simp at hi
theorem told_chk : ∀ n : Fin 500, chkD (told 10 (n.1 + 100)) = true ∧ statusOf (told 10 (n.1 + 100)) = ((n.1 + 100 : Nat) : Int) := by decide +kernel
theorem told_sta {n : Nat} (h1 : 100 ≤ n) (h2 : n ≤ 599) : staP (told 10 n) ∧ (told 10 n).length = 3 ∧ statusOf (told 10 n) = (n : Int) := by
  have := told_chk ⟨n - 100, by omega⟩
  rw [show n - 100 + 100 = n from by omega] at this
  exact ⟨(chk_sta this.1).1, (chk_sta this.1).2, this.2⟩
theorem okP_parts {s : Int} {r : B} {k : Int} {fs : List (B × B)} (h : okP s r k fs = true) : (∃ n : Nat, s = (n : Int) ∧ 100 ≤ n ∧ n ≤ 599) ∧ allB 2 r = true ∧ (k = 0 ∨ k = 1) ∧ fineB fs = true ∧ fineF fs ∧ fs.length ≤ 64 := by
  unfold okP at h
  simp only [Bool.and_eq_true, decide_eq_true_eq] at h
  obtain ⟨⟨⟨⟨⟨h1, h2⟩, h3⟩, h4⟩, h5⟩, h6⟩ := h
  have h6' := h6
  unfold fineB at h6
  simp only [Bool.and_eq_true, decide_eq_true_eq] at h6
  refine ⟨⟨s.toNat, by omega, by omega, by omega⟩, h3, by omega, h6', fun f hf => ?_, h6.1⟩
  have := List.all_eq_true.1 h6.2 f hf
  unfold okF at this
  simp only [Bool.and_eq_true, decide_eq_true_eq] at this
  have h7 := (isTok_str f.1).1 this.1.1
  exact ⟨h7.1, h7.2, this.1.2, this.2⟩
theorem read_response {n : Nat} {r : B} {k : Int} {fs : List (B × B)} {most : Int} (h : okP (n : Int) r k fs = true) (hl : ((headW (firstP (verC k) (told 10 n) r) fs).length : Int) ≤ most) :
    ∃ s, feedP (newP true most) (headW (firstP (verC k) (told 10 n) r) fs) = s ∧ s.st = 11 ∧ s.err = 0 ∧ s.taken = (headW (firstP (verC k) (told 10 n) r) fs).length ∧ s.status = (n : Int) ∧ s.reason = r ∧ s.minor = byteNum (verC k) ∧ s.fields = fs := by
  obtain ⟨⟨n2, e, h1, h2⟩, h3, h4, _, h6, h7⟩ := okP_parts h
  obtain rfl : n2 = n := by omega
  obtain ⟨t1, t2, t3⟩ := told_sta h1 h2
  rw [headW_len] at hl ⊢
  obtain ⟨s, e, a1, a2, a3, a4, a5, a6, a7, a8, a9, a10⟩ := feed_response (most := most) t1 t2 h3 (verC_or k) h6 h7 (by omega)
  refine ⟨_, rfl, ?_⟩
  unfold headW
  rw [feed_app, e, feed_last a1 a3 (by rw [a10]; exact h7) (by rw [a6, a5]; omega)]
  exact ⟨rfl, a3, by dsimp only; rw [a6], by rw [← t3]; exact a7, a8, a9, a10⟩
end Go.Proofs.YtnlmjlfoeodleaaGreatDoor
