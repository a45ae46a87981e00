/- Likeness of two texts, of package chars and the document's: whether their small texts are one; nothing in memory that was there turns. -/
import Derived.Test.YtnlmjlfoeodleaaGreatDoorCLow
import Derived.Deep.QuietTactic
import Derived.BigQuiet
namespace Go.Proofs.YtnlmjlfoeodleaaGreatDoor
open Go.RowKit

def sameB (a b : ByteArray) : Bool := decide (lowS a = lowS b)
theorem lowL_len (a : ByteArray) : (lowL a).length = a.size := by simp [lowL]
theorem lowL_at (a : ByteArray) (k : Nat) (h : k < a.size) : (lowL a)[k]? = some (smallU a[k]) := by
  unfold lowL
  rw [List.getElem?_map, List.getElem?_eq_getElem (by simpa using h)]; rfl
theorem lowS_inj {a b : ByteArray} : lowS a = lowS b ↔ lowL a = lowL b := by
  constructor
  · intro h
    have := congrArg (fun x : ByteArray => x.data.toList) h
    simpa [lowS] using this
  · intro h; unfold lowS; rw [h]
theorem small_eq_iff (x y : UInt8) : smallV (x.toNat : Int) = smallV (y.toNat : Int) ↔ smallU x = smallU y := by
  rw [← smallU_val, ← smallU_val]
  constructor
  · intro h; exact UInt8.toNat_inj.1 (by omega)
  · intro h; rw [h]
theorem same_size {a b : ByteArray} (h : ¬ a.size = b.size) : sameB a b = false := by
  unfold sameB
  rw [decide_eq_false_iff_not, lowS_inj]
  intro e
  have := congrArg List.length e
  rw [lowL_len, lowL_len] at this
  exact h this
theorem same_stop {a b : ByteArray} {k : Nat} (ha : k < a.size) (hb : k < b.size) (h : ¬ smallV (a[k].toNat : Int) = smallV (b[k].toNat : Int)) : sameB a b = false := by
  unfold sameB
  rw [decide_eq_false_iff_not, lowS_inj]
  intro e
  have := congrArg (·[k]?) e
  simp only [lowL_at a k ha, lowL_at b k hb, Option.some.injEq] at this
  exact h ((small_eq_iff _ _).2 this)
def likeTo (a b : ByteArray) (k : Nat) : Prop := (lowL a).take k = (lowL b).take k
theorem likeTo_step {a b : ByteArray} {k : Nat} (ha : k < a.size) (hb : k < b.size) (h : smallV (a[k].toNat : Int) = smallV (b[k].toNat : Int)) (hl : likeTo a b k) : likeTo a b (k + 1) := by
  unfold likeTo at *
  rw [List.take_add_one, List.take_add_one, hl, lowL_at a k ha, lowL_at b k hb, (small_eq_iff _ _).1 h]
theorem likeTo_end {a b : ByteArray} (hs : a.size = b.size) (hl : likeTo a b a.size) : sameB a b = true := by
  unfold likeTo at hl
  rw [List.take_of_length_le (by rw [lowL_len]; omega), List.take_of_length_le (by rw [lowL_len]; omega)] at hl
  unfold sameB
  rw [decide_eq_true_eq, lowS_inj]; exact hl

set_option maxHeartbeats 1000000 in
theorem same_any (a b : ByteArray) (w : World) (ha : a.size ≤ maxLen) (hb : b.size ≤ maxLen) :
    Calls Tryz.prog 97 #[.string a, .string b] w fun e w' => e = .returned (.bool (sameB a b)) ∧ ∃ m, w' = w.drewN m := by
  unfold maxLen at ha hb
  by_cases hs : a.size = b.size
  · have hs' : (a.size : Int) = (b.size : Int) := by omega
    have HS := Lib.hid hs
    have hle : b.size ≤ a.size := by omega
    go_enter Tryz.func97, Tryz.ntmps97
    go_wp2
    clear hs hs'
    go_loopw [13] (fun i W => ∃ k m : Nat, k ≤ b.size ∧ i = .int .i64 k ∧ W = w.drewN m ∧ likeTo a b k) (fun i _ => b.size - (intOf i).toNat)
    case atStart => exact ⟨0, 0, Nat.zero_le _, rfl, rfl, rfl⟩
    case round =>
      obtain ⟨k, m, hk, rfl, hW, hl⟩ := hrel
      rename World => wr
      have HW := Lib.hid hW
      clear hW
      by_cases hlt : k < b.size
      · have hlta : k < a.size := by omega
        have hlti : (k : Int) < (a.size : Int) := by omega
        have hba := a[k].toNat_lt
        have hbb := b[k].toNat_lt
        by_cases he : smallV (a[k].toNat : Int) = smallV (b[k].toNat : Int)
        · have hl' := likeTo_step hlta hlt he hl
          have he' := Lib.hid he
          have hbe : (smallV (a[k].toNat : Int) == smallV (b[k].toNat : Int)) = true := by simpa using he
          clear he hl
          go_wp2
          go_quiet ((go_at_call 128; exact Calls.quiet_of_same (small_any _ _ (by omega) (by omega))))
          go_wp2
          go_roundw
          case rel => exact ⟨k + 1, m + nq, by omega, by go_num, by rw [HW.out, World.drewN_drewN], hl'⟩
          case measure => simp [intOf]; omega
        · have hF := Lib.hid (same_stop hlta hlt he)
          have hbe : (smallV (a[k].toNat : Int) == smallV (b[k].toNat : Int)) = false := by simpa using he
          go_wp2
          go_quiet ((go_at_call 128; exact Calls.quiet_of_same (small_any _ _ (by omega) (by omega))))
          go_wp2
          go_ret
          exact ⟨ret_bool hF.out.symm, m + nq, by rw [HW.out, World.drewN_drewN]⟩
      · have hT := Lib.hid (likeTo_end HS.out (by rw [HS.out, show b.size = k by omega]; exact hl))
        go_wp2
        go_ret
        exact ⟨ret_bool hT.out.symm, m, HW.out⟩
  · have hF := Lib.hid (same_size hs)
    have hs' : ¬ (a.size : Int) = (b.size : Int) := by omega
    have hb' := hb
    go_enter Tryz.func97, Tryz.ntmps97
    go_wp2
    go_ret
    exact ⟨ret_bool hF.out.symm, 0, rfl⟩

theorem eq_toList (a b : ByteArray) : (a.toList == b.toList) = decide (a = b) := by
  rw [Lib.toList_data, Lib.toList_data, Bool.eq_iff_iff]
  simp only [beq_iff_eq, decide_eq_true_eq, Array.toList_inj]
  exact ⟨fun h => ByteArray.ext h, fun h => by rw [h]⟩
set_option maxHeartbeats 400000 in
theorem rsame_any (a b : ByteArray) (w : World) (ha : a.size ≤ 140737488351232) (hb : b.size ≤ 140737488351232) :
    Calls Tryz.prog 49 #[.string a, .string b] w fun e w' => e = .returned (.bool (sameB a b)) ∧ Below w.heap.size w w' := by
  have hB := Below.refl w.heap.size w
  go_enter Tryz.func49, Tryz.ntmps49
  go_wp2_with (go_at_call 89; refine (rlower_any _ _ (by assumption)).mono ?_; rintro e w' ⟨rfl, hbb⟩; replace hB := hB.trans (hbb.mono hB.size); clear hbb)
  go_ret
  exact ⟨ret_bool (eq_toList _ _), hB⟩
end Go.Proofs.YtnlmjlfoeodleaaGreatDoor
