/- The document's lines of a head: where a byte stands, texts of a kind, versions. -/
import Derived.Test.YtnlmjlfoeodleaaDoorCBytes
namespace Go.Proofs.YtnlmjlfoeodleaaDoor
open Go.RowKit

/-- Where a byte stands first, or -1. -/
def findV (x : UInt8) (s : B) : Int := if (cutF x s).2.2 then ((cutF x s).1.length : Int) else -1
theorem find_at {x : UInt8} {s : B} {i : Nat} (h : ∀ y ∈ s.take i, y ≠ x) (hx : s[i]? = some x) : findV x s = (i : Int) := by
  have hlt : i < s.length := (List.getElem?_eq_some_iff.1 hx).1
  have e0 : s[i] = x := by rw [List.getElem?_eq_getElem hlt] at hx; exact Option.some.inj hx
  have e1 : s = s.take i ++ x :: s.drop (i + 1) := by
    conv => lhs; rw [← List.take_append_drop i s]
    rw [List.drop_eq_getElem_cons hlt, e0]
  unfold findV
  rw [e1, cutF_at _ _ h]
  simp
  omega
theorem find_none {x : UInt8} {s : B} (h : ∀ y ∈ s, y ≠ x) : findV x s = -1 := by
  unfold findV
  rw [cutF_no s h]
  rfl
/-- A token's byte, a visible one, a value's. -/
def clsB (k : Nat) (c : UInt8) : Bool := if k = 1 then visB (c.toNat : Int) else if k = 2 then valB (c.toNat : Int) else tokB (c.toNat : Int)
def allB (k : Nat) (s : B) : Bool := s.all (clsB k)
end Go.Proofs.YtnlmjlfoeodleaaDoor
