/- The document's texts of path bytes and codes: paths, queries; what stands ahead of a byte. -/
import Derived.Test.YtbdbmlklijmefabDoorRCode
namespace Go.Proofs.YtbdbmlklijmefabDoor
open Go.RowKit

theorem made_ok {o : B} {soft : Bool} {c : UInt8} (h : (plainB c || o.contains c) = true) : ∀ l : B, made o soft (c :: l) = made o soft l
  | [] => by simp only [made]; exact h
  | [d] => by simp only [made]; rw [h]; rfl
  | a :: b :: r => by simp only [made]; rw [if_pos h]
theorem codeI_some {c a b v : UInt8} {r : B} (h : codeOf c a b = some v) : codeI (c :: a :: b :: r) = (v.toNat : Int) := by simp only [codeI, h]
theorem codeI_none {c a b : UInt8} {r : B} (h : codeOf c a b = none) : codeI (c :: a :: b :: r) = -1 := by simp only [codeI, h]
/-- The text behind a code. -/
theorem made_step {o : B} {soft : Bool} {c : UInt8} {l : B} (h : (plainB c || o.contains c) = false) : made o soft (c :: l) = if codeI (c :: l) < 0 ∨ (soft = true ∧ (codeI (c :: l) < 32 ∨ codeI (c :: l) = 127)) then false else made o soft (l.drop 2) := by
  match l with
  | [] => rw [codeI_short (by simp)]; simp only [made]; rw [h]; simp
  | [d] => rw [codeI_short (by simp)]; simp only [made]; rw [h]; simp
  | a :: b :: r =>
    rw [made, if_neg (by rw [h]; simp)]
    cases hv : codeOf c a b with
    | none => rw [codeI_none hv]; simp
    | some v =>
      rw [codeI_some hv]
      have e1 : v < 32 ↔ (v.toNat : Int) < 32 := by rw [UInt8.lt_iff_toNat_lt]; show v.toNat < 32 ↔ _; omega
      have e2 : v = 127 ↔ (v.toNat : Int) = 127 := by
        rw [← UInt8.toNat_inj]
        show v.toNat = 127 ↔ _
        omega
      simp only [List.drop_succ_cons, List.drop_zero]
      cases soft with
      | false => simp
      | true =>
        simp only [Bool.true_and, Bool.or_eq_true, decide_eq_true_eq, beq_iff_eq, e1, e2, true_and]
        by_cases q : (v.toNat : Int) < 32 ∨ (v.toNat : Int) = 127
        · rw [if_pos q, if_pos (.inr q)]
        · rw [if_neg q, if_neg (by rintro (z | z); exact absurd z (by omega); exact q z)]
theorem below_drew {Bd : Nat} {a w : World} (h : Below Bd a w) : ∀ q, Below Bd a (w.drewN q) := fun _ => ⟨h.os, h.tape, h.output, h.size, h.block⟩
theorem code_long {c : UInt8} {l : B} (h : 0 ≤ codeI (c :: l)) : 2 ≤ l.length := by
  rcases Nat.lt_or_ge l.length 2 with q | q
  · rw [codeI_short (by simp; omega)] at h
    omega
  · exact q
end Go.Proofs.YtbdbmlklijmefabDoor
