/- A digit's value: package b64's and the document's. -/
import Derived.Test.YtnpijgpjakmkdaaPlain
namespace Go.Proofs.Ytnpijgpjakmkdaa
open Go.RowKit

theorem ret_ib {a b : Int} {x y : Bool} (h : a = b) (g : x = y) : Ending.returned (.tuple #[.int .i64 a, .bool x]) = .returned (.tuple #[.int .i64 b, .bool y]) := by rw [h, g]
set_option maxRecDepth 20000 in
theorem digit_any (c : Int) (h0 : 0 ≤ c) (h1 : c < 256) (w : World) : Calls Try.prog 9 #[.int .u8 c] w fun e w' => e = .returned (.tuple #[.int .i64 ((val c).getD 0), .bool (val c).isSome]) ∧ w' = w := by
  obtain ⟨V, HV⟩ : ∃ V, Hid (V = (val c).getD 0) := ⟨_, hid rfl⟩
  obtain ⟨B, HB⟩ : ∃ B, Hid (B = (val c).isSome) := ⟨_, hid rfl⟩
  rw [← HV.out, ← HB.out]
  by_cases e1 : c = 45
  · subst e1
    go_enter Try.func9, Try.ntmps9
    go_wp2
    go_ret2
    exact ⟨ret_ib HV.out.symm HB.out.symm, rfl⟩
  by_cases e2 : c = 95
  · subst e2
    go_enter Try.func9, Try.ntmps9
    go_wp2
    go_ret2
    exact ⟨ret_ib HV.out.symm HB.out.symm, rfl⟩
  go_enter Try.func9, Try.ntmps9
  go_wp2
  all_goals go_ret2
  all_goals (refine ⟨ret_ib ?_ ?_, rfl⟩)
  all_goals first | rw [HV.out] | rw [HB.out]
  all_goals (clear HV HB; unfold val; (repeat' split) <;> first | rfl | omega | (simp; omega))
def abc : ByteArray := { data := #[65, 66, 67, 68, 69, 70, 71, 72, 73, 74, 75, 76, 77, 78, 79, 80, 81, 82, 83, 84, 85, 86, 87, 88, 89, 90, 97, 98, 99, 100, 101, 102, 103, 104, 105, 106, 107, 108, 109, 110, 111, 112, 113, 114, 115, 116, 117, 118, 119, 120, 121, 122, 48, 49, 50, 51, 52, 53, 54, 55, 56, 57, 45, 95] }
theorem abc_size : abc.size = 64 := by decide +kernel
theorem abc_at : ∀ k : Fin 64, ((abc.data.getD k.val 0).toNat : Int) = chr ((k.val : Nat) : Int) := by decide +kernel
theorem at_abc (kd : IntKind) (n : Nat) (h : n < 64) (W : World) : (Instr.index 9 (.string abc) (.int kd n)).run Try.prog W = .ok (.int .u8 (chr n)) W := by
  have hs := abc_size
  have hn : (n : Int) < abc.size := by omega
  have e : (abc[n]'(by omega)).toNat = (chr n : Int) := by
    have := abc_at ⟨n, h⟩
    rw [← this]
    rw [Array.getD, dif_pos (by show n < abc.size; omega)]
    rfl
  simp [Instr.index, asIntOf, run_underlying Try.underlying9]
  rw [getElem?_pos abc n (by omega)]
  simp [e]
theorem at_abcI (kd : IntKind) (x : Int) (h0 : 0 ≤ x) (h1 : x < 64) (W : World) : (Instr.index 9 (.string abc) (.int kd x)).run Try.prog W = .ok (.int .u8 (chr x)) W := by
  obtain ⟨n, rfl⟩ : ∃ n : Nat, x = n := ⟨x.toNat, by omega⟩
  exact at_abc kd n (by omega) W
end Go.Proofs.Ytnpijgpjakmkdaa
