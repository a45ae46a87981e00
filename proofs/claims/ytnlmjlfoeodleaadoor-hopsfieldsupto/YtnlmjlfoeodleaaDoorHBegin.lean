/- The document's lines of a head: versions, and the three kinds of lines, begun or whole. -/
import Derived.Test.YtnlmjlfoeodleaaDoorHLine
namespace Go.Proofs.YtnlmjlfoeodleaaDoor
open Go.RowKit

def ver0 : B := [72, 84, 84, 80, 47, 49, 46, 48]
def ver1 : B := [72, 84, 84, 80, 47, 49, 46, 49]
def beginsB (s : B) (whole : Bool) : Bool := if s.length > 8 ∨ (whole = true ∧ s.length ≠ 8) then false else (ver0.take s.length == s || ver1.take s.length == s)
theorem ver_ext0 (n : Nat) : ((ByteArray.mk #[72, 84, 84, 80, 47, 49, 46, 48]).extract 0 n).toList = ver0.take n := by
  rw [ByteArray.toList_eq]
  show ((str ver0).extract 0 n).data.toList = _
  rw [take_ext]
theorem ver_ext1 (n : Nat) : ((ByteArray.mk #[72, 84, 84, 80, 47, 49, 46, 49]).extract 0 n).toList = ver1.take n := by
  rw [ByteArray.toList_eq]
  show ((str ver1).extract 0 n).data.toList = _
  rw [take_ext]
theorem str_tl (s : B) : (str s).toList = s := by rw [ByteArray.toList_eq]
theorem cutF_found {x : UInt8} {s : B} (h : (cutF x s).2.2 = true) : ∃ i : Nat, findV x s = (i : Int) ∧ i < s.length ∧ (cutF x s).1 = s.take i ∧ (cutF x s).2.1 = s.drop (i + 1) := by
  refine ⟨(cutF x s).1.length, by unfold findV; rw [if_pos h], ?_⟩
  obtain ⟨_, h2, _⟩ := cutF_spec x s
  rw [if_pos h] at h2
  have h3 := congrArg List.length h2
  simp only [List.length_append, List.length_cons] at h3
  obtain ⟨a, ha⟩ : ∃ a, (cutF x s).1 = a := ⟨_, rfl⟩
  obtain ⟨b, hb⟩ : ∃ b, (cutF x s).2.1 = b := ⟨_, rfl⟩
  rw [ha, hb] at h2 h3
  rw [ha, hb]
  refine ⟨by omega, ?_, ?_⟩
  · rw [h2]; simp
  · rw [h2, show a.length + 1 = a.length + 1 from rfl, List.drop_append]; simp
theorem cutF_not {x : UInt8} {s : B} (h : (cutF x s).2.2 = false) : findV x s = -1 := by
  unfold findV
  rw [if_neg (by rw [h]; simp)]
def fieldB (s : B) (whole : Bool) : Bool := if (cutF 58 s).2.2 then decide (0 < (cutF 58 s).1.length) && allB 0 (cutF 58 s).1 && allB 2 (cutF 58 s).2.1 else !whole && allB 0 s
def restB (t : B) (whole : Bool) : Bool := if (cutF 32 t).2.2 then decide (0 < (cutF 32 t).1.length) && allB 1 (cutF 32 t).1 && beginsB (cutF 32 t).2.1 whole else !whole && allB 1 t
def requestB (s : B) (whole : Bool) : Bool := if (cutF 32 s).2.2 then decide (0 < (cutF 32 s).1.length) && allB 0 (cutF 32 s).1 && restB (cutF 32 s).2.1 whole else !whole && allB 0 s
end Go.Proofs.YtnlmjlfoeodleaaDoor
