/- Likeness of two texts, of package chars and the document's: whether their small texts are one; nothing in memory that was there turns. -/
import Derived.Test.YtkjgdfihhhdjaaaDoorCLow
import Derived.Deep.QuietTactic
import Derived.BigQuiet
namespace Go.Proofs.YtkjgdfihhhdjaaaDoor
open Go.RowKit

def sameB (a b : ByteArray) : Bool := decide (lowS a = lowS b)
theorem lowL_len (a : ByteArray) : (lowL a).length = a.size := by simp [lowL]
theorem lowL_at (a : ByteArray) (k : Nat) (h : k < a.size) : (lowL a)[k]? = some (smallU a[k]) := by
  unfold lowL
  rw [List.getElem?_map, List.getElem?_eq_getElem (by simpa using h)]; rfl
theorem lowS_inj {a b : ByteArray} : lowS a = lowS b ↔ lowL a = lowL b := by
  constructor
  · intro h
    have := congrArg (fun x : ByteArray => x.data.toList) h
    simpa [lowS] using this
  · intro h; unfold lowS; rw [h]
theorem small_eq_iff (x y : UInt8) : smallV (x.toNat : Int) = smallV (y.toNat : Int) ↔ smallU x = smallU y := by
  rw [← smallU_val, ← smallU_val]
  constructor
  · intro h; exact UInt8.toNat_inj.1 (by omega)
  · intro h; rw [h]
theorem same_size {a b : ByteArray} (h : ¬ a.size = b.size) : sameB a b = false := by
  unfold sameB
  rw [decide_eq_false_iff_not, lowS_inj]
  intro e
  have := congrArg List.length e
  rw [lowL_len, lowL_len] at this
  exact h this
theorem same_stop {a b : ByteArray} {k : Nat} (ha : k < a.size) (hb : k < b.size) (h : ¬ smallV (a[k].toNat : Int) = smallV (b[k].toNat : Int)) : sameB a b = false := by
  unfold sameB
  rw [decide_eq_false_iff_not, lowS_inj]
  intro e
  have := congrArg (·[k]?) e
  simp only [lowL_at a k ha, lowL_at b k hb, Option.some.injEq] at this
  exact h ((small_eq_iff _ _).2 this)
def likeTo (a b : ByteArray) (k : Nat) : Prop := (lowL a).take k = (lowL b).take k
theorem likeTo_step {a b : ByteArray} {k : Nat} (ha : k < a.size) (hb : k < b.size) (h : smallV (a[k].toNat : Int) = smallV (b[k].toNat : Int)) (hl : likeTo a b k) : likeTo a b (k + 1) := by
  unfold likeTo at *
  rw [List.take_add_one, List.take_add_one, hl, lowL_at a k ha, lowL_at b k hb, (small_eq_iff _ _).1 h]
theorem likeTo_end {a b : ByteArray} (hs : a.size = b.size) (hl : likeTo a b a.size) : sameB a b = true := by
  unfold likeTo at hl
  rw [List.take_of_length_le (by rw [lowL_len]; omega), List.take_of_length_le (by rw [lowL_len]; omega)] at hl
  unfold sameB
  rw [decide_eq_true_eq, lowS_inj]; exact hl

theorem eq_toList (a b : ByteArray) : (a.toList == b.toList) = decide (a = b) := by
  rw [Lib.toList_data, Lib.toList_data, Bool.eq_iff_iff]
  simp only [beq_iff_eq, decide_eq_true_eq, Array.toList_inj]
  exact ⟨fun h => ByteArray.ext h, fun h => by rw [h]⟩
set_option maxHeartbeats 400000 in
theorem rsame_any (a b : ByteArray) (w : World) (ha : a.size ≤ 140737488351232) (hb : b.size ≤ 140737488351232) :
    Calls Tryd.prog 27 #[.string a, .string b] w fun e w' => e = .returned (.bool (sameB a b)) ∧ Below w.heap.size w w' := by
  have hB := Below.refl w.heap.size w
  go_enter Tryd.func27, Tryd.ntmps27
  go_wp2_with (go_at_call 32; refine (rlower_any _ _ (by assumption)).mono ?_; rintro e w' ⟨rfl, hbb⟩; replace hB := hB.trans (hbb.mono hB.size); clear hbb)
  go_ret
  exact ⟨ret_bool (eq_toList _ _), hB⟩
end Go.Proofs.YtkjgdfihhhdjaaaDoor
