/- The checked numbers of package chars, and the document's: each call returns the plain function's number and error and leaves the world as it was; for every text and bound, in both bases. -/
import Derived.Test.YtnlmjlfoeodleaaDoorCBytes
namespace Go.Proofs.YtnlmjlfoeodleaaDoor
open Go.RowKit

def okDg (base c : Int) : Bool := hexB c && decide (hexV c < base)
def digTo (base : Int) (s : ByteArray) (k : Nat) : Bool := (s.data.toList.take k).all fun b => okDg base (b.toNat : Int)
def digAll (base : Int) (s : ByteArray) : Bool := decide (s.size ≠ 0) && digTo base s s.size
def numL (base most : Int) : List UInt8 → Int → Option Int
  | [], n => some n
  | b :: r, n => if hexV (b.toNat : Int) > most ∨ n > (most - hexV (b.toNat : Int)) / base then .none else numL base most r (n * base + hexV (b.toNat : Int))
def numN (base most : Int) (s : ByteArray) : Int :=
  if most < 0 then 0 else if digAll base s = false then 0 else (numL base most s.data.toList 0).getD 0
def numE (base most : Int) (s : ByteArray) : Int :=
  if most < 0 then 1 else if digAll base s = false then 3 else if (numL base most s.data.toList 0).isNone then 4 else 0
def errV (k : Int) : Value := if k = 0 then .nilIface else .iface 69 (.int .i64 k)

theorem digTo_snoc (base : Int) (s : ByteArray) (k : Nat) (h : k < s.size) : digTo base s (k + 1) = (digTo base s k && okDg base (s[k].toNat : Int)) := by
  unfold digTo; rw [take_snoc s k h]; simp
theorem digTo_stop (base : Int) (s : ByteArray) (k : Nat) (h : k < s.size) (ht : okDg base (s[k].toNat : Int) = false) : digAll base s = false := by
  unfold digAll digTo
  have : ((s.data.toList.take s.size).all fun b => okDg base (b.toNat : Int)) = false := by
    rw [List.all_eq_false]
    refine ⟨s[k], ?_, by simp [ht]⟩
    rw [List.take_of_length_le (by simp)]
    exact List.getElem_mem (by simpa using h)
  rw [this]; simp
theorem hexV_bd (c : Int) : 0 ≤ hexV c ∧ hexV c ≤ 15 := by
  unfold hexV; (repeat' split) <;> omega
theorem drop_cons (s : ByteArray) (k : Nat) (h : k < s.size) : s.data.toList.drop k = s[k] :: s.data.toList.drop (k + 1) := by
  rw [List.drop_eq_getElem_cons (by simpa using h)]; rfl
theorem numL_stop {base most n : Int} {s : ByteArray} {k : Nat} (h : k < s.size) (hl : numL base most (s.data.toList.drop k) n = numL base most s.data.toList 0)
    (hb : hexV (s[k].toNat : Int) > most ∨ n > (most - hexV (s[k].toNat : Int)) / base) : numL base most s.data.toList 0 = .none := by
  rw [← hl, drop_cons s k h, numL, if_pos hb]
theorem numL_step {base most n : Int} {s : ByteArray} {k : Nat} (h : k < s.size) (hl : numL base most (s.data.toList.drop k) n = numL base most s.data.toList 0)
    (hb : ¬ (hexV (s[k].toNat : Int) > most ∨ n > (most - hexV (s[k].toNat : Int)) / base)) : numL base most (s.data.toList.drop (k + 1)) (n * base + hexV (s[k].toNat : Int)) = numL base most s.data.toList 0 := by
  rw [← hl, drop_cons s k h, numL, if_neg hb]
theorem numL_end {base most n : Int} {s : ByteArray} {k : Nat} (h : ¬ k < s.size) (hl : numL base most (s.data.toList.drop k) n = numL base most s.data.toList 0) : numL base most s.data.toList 0 = some n := by
  rw [← hl, List.drop_eq_nil_of_le (by simp; omega), numL]

theorem way_neg {base most : Int} (s : ByteArray) (h : most < 0) : numN base most s = 0 ∧ numE base most s = 1 := by simp [numN, numE, h]
theorem way_form {base most : Int} {s : ByteArray} (h : 0 ≤ most) (hd : digAll base s = false) : numN base most s = 0 ∧ numE base most s = 3 := by simp [numN, numE, Int.not_lt.2 h, hd]
theorem way_range {base most : Int} {s : ByteArray} (h : 0 ≤ most) (hd : digAll base s = true) (hl : numL base most s.data.toList 0 = .none) : numN base most s = 0 ∧ numE base most s = 4 := by simp [numN, numE, Int.not_lt.2 h, hd, hl]
theorem way_ok {base most n : Int} {s : ByteArray} (h : 0 ≤ most) (hd : digAll base s = true) (hl : numL base most s.data.toList 0 = some n) : numN base most s = n ∧ numE base most s = 0 := by simp [numN, numE, Int.not_lt.2 h, hd, hl]
theorem end_iv {base most n k : Int} {s : ByteArray} {v : Value} {w w' : World} (hv : v = errV k) (hw : w' = w) (h : numN base most s = n ∧ numE base most s = k) :
    Ending.returned (.tuple #[.int .i64 n, v]) = .returned (.tuple #[.int .i64 (numN base most s), errV (numE base most s)]) ∧ w' = w := by rw [h.1, h.2, hv]; exact ⟨rfl, hw⟩
theorem end_ii {base most n k : Int} {s : ByteArray} {w w' : World} (hw : w' = w) (h : numN base most s = n ∧ numE base most s = k) :
    Ending.returned (.tuple #[.int .i64 n, .int .i64 k]) = .returned (.tuple #[.int .i64 (numN base most s), .int .i64 (numE base most s)]) ∧ w' = w := by rw [h.1, h.2]; exact ⟨rfl, hw⟩
theorem ret_iv {a b : Int} {x y : Value} (h : a = b) (g : x = y) : Ending.returned (.tuple #[.int .i64 a, x]) = .returned (.tuple #[.int .i64 b, y]) := by rw [h, g]
theorem ret_ii {a b x y : Int} (h : a = b) (g : x = y) : Ending.returned (.tuple #[.int .i64 a, .int .i64 x]) = .returned (.tuple #[.int .i64 b, .int .i64 y]) := by rw [h, g]

end Go.Proofs.YtnlmjlfoeodleaaDoor
