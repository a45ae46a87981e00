/- The document's status line, begun or whole. -/
import Derived.Test.YtnlmjlfoeodleaaDoorHBegin
namespace Go.Proofs.YtnlmjlfoeodleaaDoor
open Go.RowKit

def okD (i : Nat) (c : UInt8) : Bool := digB (c.toNat : Int) && !(decide (i = 9) && (decide (c.toNat = 48) || decide (53 < c.toNat)))
def okB (s : B) : Bool := [9, 10, 11].all fun i => (s[i]?.map (okD i)).getD true
theorem okB_no {s : B} {i : Nat} {c : UInt8} (h1 : 9 ≤ i) (h2 : i < 12) (hc : s[i]? = some c) (h : okD i c = false) : okB s = false := by
  unfold okB
  rw [List.all_eq_false]
  refine ⟨i, by simp; omega, ?_⟩
  rw [hc]
  simp [h]
theorem okB_yes {s : B} (h : ∀ i, 9 ≤ i → i < 12 → ∀ c, s[i]? = some c → okD i c = true) : okB s = true := by
  unfold okB
  rw [List.all_eq_true]
  intro i hi
  have hi2 : 9 ≤ i ∧ i < 12 := by simp at hi; omega
  cases e : s[i]? with
  | none => rfl
  | some c => exact h i hi2.1 hi2.2 c e
def statusB (s : B) (whole : Bool) : Bool := if s.length ≤ 8 then !whole && beginsB s false else if beginsB (s.take 8) true = false ∨ s[8]? ≠ some 32 then false else if okB s = false then false else if s.length < 13 then !whole else decide (s[12]? = some 32) && allB 2 (s.drop 13)
end Go.Proofs.YtnlmjlfoeodleaaDoor
