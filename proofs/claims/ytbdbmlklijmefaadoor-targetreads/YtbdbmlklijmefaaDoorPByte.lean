/- The program's bytes: letters, unreserved, path, query and host bytes; its digits and codes. -/
import Derived.Test.YtbdbmlklijmefaaDoorRMade
namespace Go.Proofs.YtbdbmlklijmefaaDoor
open Go.RowKit

theorem dec_true {p : Prop} [Decidable p] (h : p) : true = decide p := (decide_eq_true h).symm
theorem dec_false {p : Prop} [Decidable p] (h : ¬ p) : false = decide p := (decide_eq_false h).symm
theorem dec_iff {p q : Prop} [Decidable p] [Decidable q] (h : p ↔ q) : decide p = decide q := decide_eq_decide.2 h
theorem dec_iff2 {p p2 q : Prop} [Decidable p] [Decidable p2] [Decidable q] (h : p ∨ p2 ↔ q) : (decide p || decide p2) = decide q := by rw [← Bool.decide_or]; exact dec_iff h
theorem dec_iff3 {p p2 p3 q : Prop} [Decidable p] [Decidable p2] [Decidable p3] [Decidable q] (h : (p ∨ p2) ∨ p3 ↔ q) : (decide p || decide p2 || decide p3) = decide q := by rw [← Bool.decide_or, ← Bool.decide_or]; exact dec_iff h
theorem beq_or {X k : Int} {q r : Prop} [Decidable q] [Decidable r] (h : r ↔ X = k ∨ q) : (X == k || decide q) = decide r := by
  rw [Bool.eq_iff_iff]
  simp only [Bool.or_eq_true, beq_iff_eq, decide_eq_true_eq]
  exact h.symm
theorem byte_int (c : UInt8) : 0 ≤ (c.toNat : Int) ∧ (c.toNat : Int) ≤ 255 := by have := c.toNat_lt; omega
def letterI (X : Int) : Prop := (97 ≤ X ∧ X ≤ 122) ∨ (65 ≤ X ∧ X ≤ 90) ∨ (48 ≤ X ∧ X ≤ 57)
def unresI (X : Int) : Prop := X = 45 ∨ X = 46 ∨ X = 95 ∨ X = 126 ∨ letterI X
def plainI (X : Int) : Prop := X = 33 ∨ X = 36 ∨ X = 38 ∨ X = 39 ∨ X = 40 ∨ X = 41 ∨ X = 42 ∨ X = 43 ∨ X = 44 ∨ X = 59 ∨ X = 61 ∨ X = 58 ∨ X = 64 ∨ unresI X
def hostI (X : Int) : Prop := X = 45 ∨ X = 46 ∨ X = 95 ∨ X = 58 ∨ letterI X
instance (X : Int) : Decidable (letterI X) := by unfold letterI; infer_instance
instance (X : Int) : Decidable (unresI X) := by unfold unresI; infer_instance
instance (X : Int) : Decidable (plainI X) := by unfold plainI; infer_instance
instance (X : Int) : Decidable (hostI X) := by unfold hostI; infer_instance
def pathI (X : Int) : Prop := X = 47 ∨ plainI X
def queryI (X : Int) : Prop := X = 63 ∨ pathI X
def softI (X : Int) : Prop := 32 ≤ X ∧ ¬ X = 127
instance (X : Int) : Decidable (pathI X) := by unfold pathI; infer_instance
instance (X : Int) : Decidable (queryI X) := by unfold queryI; infer_instance
instance (X : Int) : Decidable (softI X) := by unfold softI; infer_instance
set_option maxRecDepth 100000 in
theorem unres_int (c : UInt8) : unres c = decide (unresI (c.toNat : Int)) := all256 (P := fun c => unres c = decide (unresI (c.toNat : Int))) (by decide +kernel) c
set_option maxRecDepth 100000 in
theorem plain_int (c : UInt8) : plainB c = decide (plainI (c.toNat : Int)) := all256 (P := fun c => plainB c = decide (plainI (c.toNat : Int))) (by decide +kernel) c
set_option maxRecDepth 100000 in
theorem host_int (c : UInt8) : hostB c = decide (hostI (c.toNat : Int)) := all256 (P := fun c => hostB c = decide (hostI (c.toNat : Int))) (by decide +kernel) c
set_option maxRecDepth 100000 in
theorem inPath_int (c : UInt8) : inPathC c = decide (pathI (c.toNat : Int)) := all256 (P := fun c => inPathC c = decide (pathI (c.toNat : Int))) (by decide +kernel) c
set_option maxRecDepth 100000 in
theorem inQuery_int (c : UInt8) : inQueryC c = decide (queryI (c.toNat : Int)) := all256 (P := fun c => inQueryC c = decide (queryI (c.toNat : Int))) (by decide +kernel) c
set_option maxRecDepth 100000 in
theorem soft_int (c : UInt8) : softC c = decide (softI (c.toNat : Int)) := all256 (P := fun c => softC c = decide (softI (c.toNat : Int))) (by decide +kernel) c
/-- A contract of a byte function. -/
def ByteFn (f : Nat) (p : UInt8 → Bool) : Prop := ∀ (c : UInt8) (w : World), Calls Tryd.prog f #[byteV c] w fun e w' => e = .returned (.bool (p c)) ∧ w' = w
set_option maxHeartbeats 2000000 in
theorem punres_any : ByteFn 73 unres := by
  intro c w
  rw [unres_int]
  obtain ⟨h0, h1⟩ := byte_int c
  unfold byteV
  generalize (c.toNat : Int) = X at *
  go_enter Tryd.func73, Tryd.ntmps73
  go_wp2
  all_goals
    go_ret
    exact ⟨ret_bool (by (try simp only [beq_iff_eq, beq_eq_false_iff_ne, ne_eq] at *) <;> first | exact dec_true (by unfold unresI letterI; omega) | exact dec_false (by unfold unresI letterI; omega) | exact dec_iff (by unfold unresI letterI; omega) | exact dec_iff2 (by unfold unresI letterI; omega) | exact dec_iff3 (by unfold unresI letterI; omega)), rfl⟩
set_option maxHeartbeats 2000000 in
theorem pplain_any : ByteFn 79 plainB := by
  intro c w
  have HU := hid (punres_any c)
  rw [unres_int] at HU
  rw [plain_int]
  obtain ⟨h0, h1⟩ := byte_int c
  unfold byteV at HU ⊢
  generalize (c.toNat : Int) = X at *
  go_enter Tryd.func79, Tryd.ntmps79
  go_wp2_with (go_at_call 73; (with_reducible refine (HU.out _).mono ?_); rintro e w1 ⟨rfl, rfl⟩)
  all_goals
    go_ret
    exact ⟨ret_bool (by (try simp only [beq_iff_eq, beq_eq_false_iff_ne, ne_eq] at *) <;> first | exact dec_true (by (try unfold plainI); (try unfold unresI); (try unfold hostI); (try unfold letterI); omega) | exact dec_false (by (try unfold plainI); (try unfold unresI); (try unfold hostI); (try unfold letterI); omega) | exact dec_iff (by (try unfold plainI); (try unfold unresI); (try unfold hostI); (try unfold letterI); omega) | exact dec_iff2 (by (try unfold plainI); (try unfold unresI); (try unfold hostI); (try unfold letterI); omega) | exact dec_iff3 (by (try unfold plainI); (try unfold unresI); (try unfold hostI); (try unfold letterI); omega)), rfl⟩
set_option maxHeartbeats 2000000 in
theorem phost_any : ByteFn 77 hostB := by
  intro c w
  rw [host_int]
  obtain ⟨h0, h1⟩ := byte_int c
  unfold byteV
  generalize (c.toNat : Int) = X at *
  go_enter Tryd.func77, Tryd.ntmps77
  go_wp2
  all_goals
    go_ret
    exact ⟨ret_bool (by (try simp only [beq_iff_eq, beq_eq_false_iff_ne, ne_eq] at *) <;> first | exact dec_true (by unfold hostI letterI; omega) | exact dec_false (by unfold hostI letterI; omega) | exact dec_iff (by unfold hostI letterI; omega) | exact dec_iff2 (by unfold hostI letterI; omega) | exact dec_iff3 (by unfold hostI letterI; omega)), rfl⟩
set_option maxHeartbeats 2000000 in
theorem pinpath_any : ByteFn 60 inPathC := by
  intro c w
  have HU := hid (pplain_any c)
  rw [plain_int] at HU
  rw [inPath_int]
  obtain ⟨h0, h1⟩ := byte_int c
  unfold byteV at HU ⊢
  generalize (c.toNat : Int) = X at *
  go_enter Tryd.func60, Tryd.ntmps60
  go_wp2_with (go_at_call 79; (with_reducible refine (HU.out _).mono ?_); rintro e w1 ⟨rfl, rfl⟩)
  all_goals
    go_ret
    exact ⟨ret_bool (by (try simp only [beq_iff_eq, beq_eq_false_iff_ne, ne_eq] at *) <;> first | exact dec_true (p := pathI X) (Or.inl (by omega)) | exact beq_or (r := pathI X) Iff.rfl | exact dec_iff (q := pathI X) ⟨Or.inr, fun h => h.resolve_left (by omega)⟩), rfl⟩
set_option maxHeartbeats 2000000 in
theorem pinquery_any : ByteFn 70 inQueryC := by
  intro c w
  have HU := hid (pinpath_any c)
  rw [inPath_int] at HU
  rw [inQuery_int]
  obtain ⟨h0, h1⟩ := byte_int c
  unfold byteV at HU ⊢
  generalize (c.toNat : Int) = X at *
  go_enter Tryd.func70, Tryd.ntmps70
  go_wp2_with (go_at_call 60; (with_reducible refine (HU.out _).mono ?_); rintro e w1 ⟨rfl, rfl⟩)
  all_goals
    go_ret
    exact ⟨ret_bool (by (try simp only [beq_iff_eq, beq_eq_false_iff_ne, ne_eq] at *) <;> first | exact dec_true (p := queryI X) (Or.inl (by omega)) | exact beq_or (r := queryI X) Iff.rfl | exact dec_iff (q := queryI X) ⟨Or.inr, fun h => h.resolve_left (by omega)⟩), rfl⟩
theorem pany_any : ByteFn 45 anyC := by
  intro c w
  unfold byteV
  go_enter Tryd.func45, Tryd.ntmps45
  go_wp2
  go_ret
  exact ⟨rfl, rfl⟩
theorem psoft_any : ByteFn 61 softC := by
  intro c w
  rw [soft_int]
  obtain ⟨h0, h1⟩ := byte_int c
  unfold byteV
  generalize (c.toNat : Int) = X at *
  go_enter Tryd.func61, Tryd.ntmps61
  go_wp2
  all_goals
    go_ret
    exact ⟨ret_bool (by first | exact dec_false (by unfold softI; omega) | (rw [Bool.eq_iff_iff, decide_eq_true_iff (p := softI X)]; unfold softI; simp; omega)), rfl⟩
/-! ### Digits -/
def digV (X : Int) : Int := if 65 ≤ X ∧ X ≤ 70 then X - 55 else if 97 ≤ X ∧ X ≤ 102 then X - 87 else if 48 ≤ X ∧ X ≤ 57 then X - 48 else 0
def digO (X : Int) : Bool := decide (65 ≤ X ∧ X ≤ 70) || decide (97 ≤ X ∧ X ≤ 102) || decide (48 ≤ X ∧ X ≤ 57)
set_option maxRecDepth 100000 in
theorem dig_int (c : UInt8) : hexI c = if digO (c.toNat : Int) then digV (c.toNat : Int) else -1 := all256 (P := fun c => hexI c = if digO (c.toNat : Int) then digV (c.toNat : Int) else -1) (by decide +kernel) c
theorem ret_ib {k : IntKind} {a b : Int} {x y : Bool} (h : a = b) (g : x = y) : Ending.returned (.tuple #[.int k a, .bool x]) = .returned (.tuple #[.int k b, .bool y]) := by rw [h, g]
set_option maxHeartbeats 2000000 in
theorem digit_any (X : Int) (h0 : 0 ≤ X) (h1 : X ≤ 255) (w : World) : Calls Tryd.prog 81 #[.int .u8 X] w fun e w' => e = .returned (.tuple #[.int .u8 (digV X), .bool (digO X)]) ∧ w' = w := by
  go_enter Tryd.func81, Tryd.ntmps81
  go_wp2
  all_goals
    go_ret2
    refine ⟨ret_ib ?_ ?_, rfl⟩
    · unfold digV; (repeat' split) <;> omega
    · rw [Bool.eq_iff_iff]; simp [digO]; try omega
theorem digV_bd (X : Int) : 0 ≤ digV X ∧ digV X ≤ 15 := by unfold digV; (repeat' split) <;> omega
end Go.Proofs.YtbdbmlklijmefaaDoor
