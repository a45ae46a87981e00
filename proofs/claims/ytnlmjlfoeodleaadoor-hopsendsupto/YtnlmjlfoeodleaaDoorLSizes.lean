/- The law of sizes. -/
import Derived.Test.YtnlmjlfoeodleaaDoorHWritten
import Derived.Test.YtnlmjlfoeodleaaDoorPSure
import Derived.Test.YtnlmjlfoeodleaaDoorAs
namespace Go.Proofs.YtnlmjlfoeodleaaDoor
open Go.RowKit

theorem okQ_parts {m t : B} {k : Int} {fs : List (B × B)} (h : okQ m t k fs = true) : (m ≠ [] ∧ allB 0 m = true) ∧ t ≠ [] ∧ allB 1 t = true ∧ (k = 0 ∨ k = 1) ∧ fineF fs ∧ fs.length ≤ 64 := by
  unfold okQ at h
  simp only [Bool.and_eq_true, decide_eq_true_eq] at h
  obtain ⟨⟨⟨⟨⟨h1, h2⟩, h3⟩, h4⟩, h5⟩, h6⟩ := h
  unfold fineB at h6
  simp only [Bool.and_eq_true, decide_eq_true_eq] at h6
  refine ⟨(isTok_str m).1 h1, h2, h3, by omega, fun f hf => ?_, h6.1⟩
  have := List.all_eq_true.1 h6.2 f hf
  unfold okF at this
  simp only [Bool.and_eq_true, decide_eq_true_eq] at this
  have h7 := (isTok_str f.1).1 this.1.1
  exact ⟨h7.1, h7.2, this.1.2, this.2⟩
def verC (k : Int) : UInt8 := if k = 0 then 48 else 49
theorem verC_or (k : Int) : verC k = 48 ∨ verC k = 49 := by unfold verC; split <;> simp
theorem headW_len (first : B) (fs : List (B × B)) : (headW first fs).length = (preW first fs).length + 1 := by unfold headW; simp
theorem read_request {m t : B} {k : Int} {fs : List (B × B)} {most : Int} (h : okQ m t k fs = true) (hl : ((headW (firstQ m t (verC k)) fs).length : Int) ≤ most) :
    ∃ s, feedP (newP false most) (headW (firstQ m t (verC k)) fs) = s ∧ s.st = 11 ∧ s.err = 0 ∧ s.resp = false ∧ s.taken = (headW (firstQ m t (verC k)) fs).length ∧ s.method = m ∧ s.target = t ∧ s.minor = byteNum (verC k) ∧ s.fields = fs := by
  obtain ⟨⟨h1, h2⟩, h3, h4, h5, h6, h7⟩ := okQ_parts h
  rw [headW_len] at hl ⊢
  obtain ⟨s, e, a1, a2, a3, a4, a5, a6, a7, a8, a9, a10⟩ := feed_request (most := most) h1 h2 h3 h4 (verC_or k) h6 h7 (by omega)
  refine ⟨_, rfl, ?_⟩
  unfold headW
  rw [feed_app, e, feed_last a1 a3 (by rw [a10]; exact h7) (by rw [a6, a5]; omega)]
  exact ⟨rfl, a3, a4, by dsimp only; rw [a6], a7, a8, a9, a10⟩
theorem read_large {m t : B} {k : Int} {fs : List (B × B)} {most : Int} (h : okQ m t k fs = true) (hl : ((headW (firstQ m t (verC k)) fs).length : Int) = most + 1) :
    feedP (newP false most) (headW (firstQ m t (verC k)) fs) = spoilP (headW (firstQ m t (verC k)) fs).length 22 := by
  obtain ⟨⟨h1, h2⟩, h3, h4, h5, h6, h7⟩ := okQ_parts h
  rw [headW_len] at hl ⊢
  obtain ⟨s, e, a1, a2, a3, a4, a5, a6, a7, a8, a9, a10⟩ := feed_request (most := most) h1 h2 h3 h4 (verC_or k) h6 h7 (by omega)
  unfold headW
  rw [feed_app, e, feed_large a1 a3 (by rw [a6, a5]; omega), a6]
theorem headW_two (m t : B) (v : UInt8) (fs : List (B × B)) : 2 ≤ (headW (firstQ m t v) fs).length := by rw [headW_len]; unfold preW; simp; omega
end Go.Proofs.YtnlmjlfoeodleaaDoor
