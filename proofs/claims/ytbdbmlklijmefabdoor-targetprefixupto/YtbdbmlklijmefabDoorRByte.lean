/- The document's bytes: letters, unreserved and path bytes, digits. -/
import Derived.Test.YtbdbmlklijmefabDoorPPlain
import Derived.Test.YtbdbmlklijmefabDoorProg
import Derived.WalkKit
import Derived.WalkSpells
import Derived.WalkLawsBesides
import Derived.Lib.Strings
import Derived.Deep.QuietTactic
import Derived.BigQuiet
import Derived.Laws.Tables
import Derived.Laws.Rows
import Derived.Laws.BytesArg
import Derived.Laws.ResultCell
import Derived.OwnWalk
import Derived.Deep.LoopGhost
import Derived.Deep.RegionHeld3
namespace Go.Proofs.YtbdbmlklijmefabDoor
open Go.RowKit

theorem hid {p : Prop} (h : p) : Hid p := h
abbrev str (t : B) : ByteArray := ⟨t.toArray⟩
theorem str_size (t : B) : (str t).size = t.length := by simp [ByteArray.size]
/-- A byte in memory. -/
abbrev byteV (c : UInt8) : Value := .int .u8 (c.toNat : Int)
theorem ret_bool {a b : Bool} (h : a = b) : Ending.returned (.bool a) = .returned (.bool b) := by rw [h]
theorem letter_int (c : UInt8) : letterB c = decide ((97 ≤ (c.toNat : Int) ∧ (c.toNat : Int) ≤ 122) ∨ (65 ≤ (c.toNat : Int) ∧ (c.toNat : Int) ≤ 90) ∨ (48 ≤ (c.toNat : Int) ∧ (c.toNat : Int) ≤ 57)) := by
  unfold letterB
  rw [Bool.eq_iff_iff]
  simp only [Bool.or_eq_true, decide_eq_true_eq, UInt8.le_iff_toNat_le]
  simp
  omega
theorem con_take {s : B} {c : UInt8} {i : Nat} (h : i < s.length) : (s.take (i + 1)).contains c = ((s.take i).contains c || s[i] == c) := by
  rw [List.take_add_one, List.getElem?_eq_getElem h]
  simp only [Option.toList_some, List.contains_eq_any_beq, List.any_append, List.any_cons, List.any_nil, Bool.or_false]
  congr 1
  exact Bool.eq_iff_iff.2 ⟨fun h => by rw [beq_iff_eq] at h ⊢; exact h.symm, fun h => by rw [beq_iff_eq] at h ⊢; exact h.symm⟩
end Go.Proofs.YtbdbmlklijmefabDoor
