/- The classes of bytes of package chars, and the document's: each call returns the plain function's answer and leaves the world as it was; for every byte. -/
import Derived.Test.YtkjgdfihhhdjaaaDoorBase
namespace Go.Proofs.YtkjgdfihhhdjaaaDoor
open Go.RowKit

def digB (c : Int) : Bool := decide (48 ≤ c ∧ c ≤ 57)
def letB (c : Int) : Bool := decide ((97 ≤ c ∧ c ≤ 122) ∨ (65 ≤ c ∧ c ≤ 90))
def othB (c : Int) : Bool := decide (c = 33 ∨ c = 35 ∨ c = 36 ∨ c = 37 ∨ c = 38 ∨ c = 39 ∨ c = 42 ∨ c = 43 ∨ c = 45 ∨ c = 46 ∨ c = 94 ∨ c = 95 ∨ c = 96 ∨ c = 124 ∨ c = 126)
def tokB (c : Int) : Bool := othB c || letB c || digB c
def valB (c : Int) : Bool := decide (c = 9 ∨ (32 ≤ c ∧ c ≠ 127))
def visB (c : Int) : Bool := decide (33 ≤ c ∧ c ≤ 126)
def hexB (c : Int) : Bool := decide ((48 ≤ c ∧ c ≤ 57) ∨ (97 ≤ c ∧ c ≤ 102) ∨ (65 ≤ c ∧ c ≤ 70))
def hexV (c : Int) : Int := if 48 ≤ c ∧ c ≤ 57 then c - 48 else if 97 ≤ c ∧ c ≤ 102 then c - 87 else if 65 ≤ c ∧ c ≤ 70 then c - 55 else 0



set_option maxHeartbeats 400000 in
theorem digit_any (c : Int) (w : World) (h0 : 0 ≤ c) (h1 : c ≤ 255) :
    Calls Tryd.prog 59 #[.int .u8 c] w fun e w' => e = .returned (.bool (digB c)) ∧ w' = w := by
  go_enter Tryd.func59, Tryd.ntmps59
  go_wp2
  all_goals
    go_ret
    exact ⟨ret_bool (by rw [Bool.eq_iff_iff]; simp [digB]; try omega), rfl⟩

set_option maxHeartbeats 400000 in
theorem rdigit_any (c : Int) (w : World) (h0 : 0 ≤ c) (h1 : c ≤ 255) :
    Calls Tryd.prog 47 #[.int .u8 c] w fun e w' => e = .returned (.bool (digB c)) ∧ w' = w := by
  go_enter Tryd.func47, Tryd.ntmps47
  go_wp2
  all_goals
    go_ret
    exact ⟨ret_bool (by rw [Bool.eq_iff_iff]; simp [digB]; try omega), rfl⟩

def smallV (c : Int) : Int := if 65 ≤ c ∧ c ≤ 90 then c + 32 else c
theorem smallV_bd {c : Int} (h0 : 0 ≤ c) (h1 : c ≤ 255) : 0 ≤ smallV c ∧ smallV c ≤ 255 := by unfold smallV; split <;> omega
theorem ret_int {k : IntKind} {a b : Int} (h : a = b) : Ending.returned (.int k a) = .returned (.int k b) := by rw [h]
theorem ret_ib {k : IntKind} {a b : Int} {x y : Bool} (h : a = b) (g : x = y) : Ending.returned (.tuple #[.int k a, .bool x]) = .returned (.tuple #[.int k b, .bool y]) := by rw [h, g]

set_option maxHeartbeats 400000 in
theorem small_any (c : Int) (w : World) (h0 : 0 ≤ c) (h1 : c ≤ 255) :
    Calls Tryd.prog 46 #[.int .u8 c] w fun e w' => e = .returned (.int .u8 (smallV c)) ∧ w' = w := by
  by_cases h : 65 ≤ c ∧ c ≤ 90
  · obtain ⟨ha, hb⟩ := h
    go_enter Tryd.func46, Tryd.ntmps46
    go_wp2
    go_ret
    exact ⟨ret_int (by unfold smallV; rw [if_pos ⟨ha, hb⟩]), rfl⟩
  · go_enter Tryd.func46, Tryd.ntmps46
    go_wp2
    all_goals
      go_ret
      exact ⟨ret_int (by unfold smallV; rw [if_neg h]), rfl⟩

set_option maxHeartbeats 400000 in
theorem hex_any (c : Int) (w : World) (h0 : 0 ≤ c) (h1 : c ≤ 255) :
    Calls Tryd.prog 78 #[.int .u8 c] w fun e w' => e = .returned (.tuple #[.int .i64 (hexV c), .bool (hexB c)]) ∧ w' = w := by
  go_enter Tryd.func78, Tryd.ntmps78
  go_wp2
  all_goals
    go_ret2
    refine ⟨ret_ib ?_ ?_, rfl⟩
    · unfold hexV; (repeat' split) <;> omega
    · rw [Bool.eq_iff_iff]; simp [hexB]; try omega

set_option maxHeartbeats 400000 in
theorem rhex_any (c : Int) (w : World) (h0 : 0 ≤ c) (h1 : c ≤ 255) :
    Calls Tryd.prog 63 #[.int .u8 c] w fun e w' => e = .returned (.tuple #[.int .i64 (hexV c), .bool (hexB c)]) ∧ w' = w := by
  go_enter Tryd.func63, Tryd.ntmps63
  go_wp2
  all_goals
    go_ret2
    refine ⟨ret_ib ?_ ?_, rfl⟩
    · unfold hexV; (repeat' split) <;> omega
    · rw [Bool.eq_iff_iff]; simp [hexB]; try omega

def othS : ByteArray := { data := #[33, 35, 36, 37, 38, 39, 42, 43, 45, 46, 94, 95, 124, 126] }
def othAt (k : Nat) : Int := ((othS.data.toList.getD k 0).toNat : Int)

theorem oth_all : ∀ k : Nat, (h : k < 14) → othB (({ data := #[33, 35, 36, 37, 38, 39, 42, 43, 45, 46, 94, 95, 124, 126] } : ByteArray)[k].toNat : Int) = true := by decide
theorem oth_hit {k : Nat} {c : Int} (h : k < 14) (e : ((({ data := #[33, 35, 36, 37, 38, 39, 42, 43, 45, 46, 94, 95, 124, 126] } : ByteArray)[k].toNat : Int) == c) = true) : tokB c = true := by
  have := oth_all k h
  rw [eq_of_beq e] at this
  simp [tokB, this]
theorem othAt_eq : ∀ k : Nat, (h : k < 14) → othAt k = (({ data := #[33, 35, 36, 37, 38, 39, 42, 43, 45, 46, 94, 95, 124, 126] } : ByteArray)[k].toNat : Int) := by decide
theorem oth_miss {k : Nat} {c : Int} (h : k < 14) (hno : ∀ j : Nat, j < k → othAt j ≠ c) (e : ((({ data := #[33, 35, 36, 37, 38, 39, 42, 43, 45, 46, 94, 95, 124, 126] } : ByteArray)[k].toNat : Int) == c) = false) : ∀ j : Nat, j < k + 1 → othAt j ≠ c := by
  intro j hj
  by_cases hjk : j = k
  · subst hjk; rw [othAt_eq j h]; exact ne_of_beq_false e
  · exact hno j (by omega)
theorem oth_none {c : Int} (hd : ¬ digB c = true) (hl : ¬ letB c = true) (h96 : ¬ c = 96) (hno : ∀ j : Nat, j < 14 → othAt j ≠ c) : tokB c = false := by
  have e0 := hno 0 (by omega); have e1 := hno 1 (by omega); have e2 := hno 2 (by omega); have e3 := hno 3 (by omega)
  have e4 := hno 4 (by omega); have e5 := hno 5 (by omega); have e6 := hno 6 (by omega); have e7 := hno 7 (by omega)
  have e8 := hno 8 (by omega); have e9 := hno 9 (by omega); have e10 := hno 10 (by omega); have e11 := hno 11 (by omega)
  have e12 := hno 12 (by omega); have e13 := hno 13 (by omega)
  simp [othAt, othS] at e0 e1 e2 e3 e4 e5 e6 e7 e8 e9 e10 e11 e12 e13
  simp [tokB, othB, hd, hl]
  omega

def allTo (s : ByteArray) (k : Nat) : Bool := (s.data.toList.take k).all fun b => tokB (b.toNat : Int)
def isTok (s : ByteArray) : Bool := decide (s.size ≠ 0) && allTo s s.size

theorem empty_size (s : ByteArray) : s.toList.isEmpty = decide (s.size = 0) := by
  rw [Lib.toList_data, Bool.eq_iff_iff, List.isEmpty_iff_length_eq_zero]; simp
theorem take_snoc (s : ByteArray) (k : Nat) (h : k < s.size) : s.data.toList.take (k + 1) = s.data.toList.take k ++ [s[k]] := by
  rw [List.take_succ_eq_append_getElem (by simpa using h)]; rfl
theorem allTo_snoc (s : ByteArray) (k : Nat) (h : k < s.size) : allTo s (k + 1) = (allTo s k && tokB (s[k].toNat : Int)) := by
  unfold allTo; rw [take_snoc s k h]; simp
theorem allTo_stop (s : ByteArray) (k : Nat) (h : k < s.size) (ht : tokB (s[k].toNat : Int) = false) : allTo s s.size = false := by
  unfold allTo
  rw [List.all_eq_false]
  refine ⟨s[k], ?_, by simp [ht]⟩
  rw [List.take_of_length_le (by simp)]
  exact List.getElem_mem (by simpa using h)
theorem isTok_stop (s : ByteArray) (k : Nat) (h : k < s.size) (ht : tokB (s[k].toNat : Int) = false) : isTok s = false := by
  unfold isTok; rw [allTo_stop s k h ht]; simp

end Go.Proofs.YtkjgdfihhhdjaaaDoor
