/- The length of a text and a digit's value: package b64's and the document's. -/
import Derived.Test.YtnpijgpjakmkdaaMem
namespace Go.Proofs.Ytnpijgpjakmkdaa
open Go.RowKit

def lenN (n : Nat) : Nat := (8 * n + 5) / 6
def errV (k : Int) : Value := if k = 0 then .nilIface else .iface 35 (.int .i64 k)
def lenE (n : Int) : Int := if n < 0 ∨ n > 1099511627776 then 1 else 0
def lenV (n : Int) : Int := if n < 0 ∨ n > 1099511627776 then 0 else (8 * n + 5) / 6
theorem ret_int {a b : Int} (h : a = b) : Ending.returned (.int .i64 a) = .returned (.int .i64 b) := by rw [h]
theorem length_any (n : Nat) (h : n ≤ 1125899906842624) (w : World) : Calls Try.prog 8 #[.int .i64 n] w fun e w' => e = .returned (.int .i64 (lenN n)) ∧ w' = w := by
  have h' : (n : Int) ≤ 1125899906842624 := by omega
  have e : ((lenN n : Nat) : Int) = (8 * (n : Int) + 5) / 6 := by unfold lenN; omega
  rw [e]
  clear e h
  go_enter Try.func8, Try.ntmps8
  go_wp2
  all_goals go_ret
  all_goals (refine ⟨ret_int ?_, rfl⟩; omega)
theorem len_any (n : Int) (w : World) : Calls Try.prog 6 #[.int .i64 n] w fun e w' => e = .returned (.tuple #[.int .i64 (lenV n), errV (lenE n)]) ∧ w' = w := by
  by_cases hn : n < 0 ∨ n > 1099511627776
  · rw [lenV, lenE, if_pos hn, if_pos hn]
    go_enter Try.func6, Try.ntmps6
    rcases hn with hn | hn
    · go_wp2
      go_ret2
      exact ⟨rfl, rfl⟩
    · have hn' : ¬ n < 0 := by omega
      go_wp2
      go_ret2
      exact ⟨rfl, rfl⟩
  · rw [lenV, lenE, if_neg hn, if_neg hn]
    obtain ⟨k, rfl⟩ : ∃ k : Nat, n = k := ⟨n.toNat, by omega⟩
    have h1 : (k : Int) ≤ 1099511627776 := by omega
    have e : (8 * (k : Int) + 5) / 6 = (lenN k : Int) := by unfold lenN; omega
    rw [e]
    clear e hn
    go_enter Try.func6, Try.ntmps6
    go_wp2_with (go_at_call 8; (with_reducible refine (length_any k (by omega) _).mono ?_); rintro e w' ⟨rfl, rfl⟩)
    go_ret2
    exact ⟨rfl, rfl⟩
end Go.Proofs.Ytnpijgpjakmkdaa
