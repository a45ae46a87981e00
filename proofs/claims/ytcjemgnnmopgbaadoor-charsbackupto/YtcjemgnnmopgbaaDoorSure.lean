/- What must come whatever the input is (the law package's own check) returns true; what was in memory stays; where strconv's table of powers of ten is laid. -/
import Derived.Test.YtcjemgnnmopgbaaDoorNumbers
import Derived.Test.YtcjemgnnmopgbaaDoorShelfItoa
import Derived.Lib.AppendIntMem
namespace Go.Proofs.YtcjemgnnmopgbaaDoor
open Go.RowKit

set_option maxHeartbeats 400000 in
theorem text_any (n : Int) (w : World) (h0 : -9223372036854775808 ≤ n) (h1 : n ≤ 9223372036854775807) (htab : Lib.TabIs Tryd.prog w "internal/strconv.uint64pow10" .u64 Lib.pow10Tab) :
    Calls Tryd.prog 27 #[.int .i64 n] w fun e w' => e = .returned (.string ⟨(Lib.itoa n).toArray⟩) ∧ Below w.heap.size w w' := by
  go_enter Tryd.func27, Tryd.ntmps27
  go_wp2_with (go_at_call 45; refine (Tryd.strconv_Itoa _ h0 h1 _ htab).mono ?_; rintro e w' ⟨rfl, k, os, rfl⟩)
  go_ret
  exact ⟨rfl, Lib.below_grow _ _ (Nat.le_refl _) _ _⟩

theorem sure_n : numN 10 10 { data := #[48, 48, 55] } = 7 := by decide +kernel
theorem sure_e : errV (numE 10 10 { data := #[48, 48, 55] }) = .nilIface := by rw [show numE 10 10 { data := #[48, 48, 55] } = 0 by decide +kernel]; rfl
theorem sure_t : (⟨(Lib.itoa (-12)).toArray⟩ : ByteArray) = { data := #[45, 49, 50] } := by decide +kernel
theorem sure_k : isTok { data := #[120, 45, 121] } = true := by decide +kernel

set_option maxHeartbeats 400000 in
theorem sure_any (w : World) (htab : Lib.TabIs Tryd.prog w "internal/strconv.uint64pow10" .u64 Lib.pow10Tab) :
    Calls Tryd.prog 19 #[] w fun e w' => e = .returned (.bool true) ∧ Below w.heap.size w w' := by
  go_enter Tryd.func19, Tryd.ntmps19
  go_wp2_with (first
    | (go_at_call 20; refine (decimal_any _ _ _ (by decide) (by decide) (by decide)).mono ?_; rintro e w' ⟨rfl, rfl⟩; rw [sure_n, sure_e])
    | (go_at_call 27; refine (text_any _ _ (by decide) (by decide) htab).mono ?_; rintro e w' ⟨rfl, hb⟩; rw [sure_t])
    | (go_at_call 17; refine (istoken_any _ _ (by decide)).mono ?_; rintro e w' ⟨rfl, rfl⟩; rw [sure_k]))
  go_ret
  exact ⟨rfl, by assumption⟩
end Go.Proofs.YtcjemgnnmopgbaaDoor
