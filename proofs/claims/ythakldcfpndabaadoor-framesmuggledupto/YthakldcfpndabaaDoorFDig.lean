/- The law's own digits of a number. -/
import Derived.Test.YthakldcfpndabaaDoorFBackP
namespace Go.Proofs.YthakldcfpndabaaDoor
open Go.RowKit

theorem dig_extF : ∀ a : Nat, a < 10 → (⟨#[48, 49, 50, 51, 52, 53, 54, 55, 56, 57]⟩ : ByteArray).extract a (a + 1) = str [digC a] := by
  intro a h
  have : a = 0 ∨ a = 1 ∨ a = 2 ∨ a = 3 ∨ a = 4 ∨ a = 5 ∨ a = 6 ∨ a = 7 ∨ a = 8 ∨ a = 9 := by omega
  rcases this with rfl | rfl | rfl | rfl | rfl | rfl | rfl | rfl | rfl | rfl <;> rfl
theorem wrap_idF {x : Int} (h0 : -9223372036854775808 ≤ x) (h1 : x ≤ 9223372036854775807) : IntKind.i64.wrap x = x := by rw [IntKind.wrap_i64]; omega
set_option maxRecDepth 20000 in
set_option maxHeartbeats 4000000 in
theorem digits_any (n : Nat) (hn : n < 1000) (w : World) : Calls Tryd.prog 31 #[.int .i64 (n : Int)] w fun e w' => e = .returned (.string (str (told 10 n))) ∧ w' = w := by
  have HS := hid (ToldInv.start 10 n (Nat.lt_trans hn (by decide)))
  go_enter Tryd.func31, Tryd.ntmps31
  go_wp2
  go_loopw [0, 3] (fun u s W => ∃ (x : Nat) (l : List UInt8), u = .int .i64 (x : Int) ∧ s = .string ⟨l.toArray⟩ ∧ W = w ∧ x < 1000 ∧ ToldInv 10 n x l) (fun u _ _ => (intOf u).toNat)
  case atStart => exact ⟨n, [], rfl, rfl, rfl, hn, HS.out⟩
  case round =>
    obtain ⟨x, l, rfl, rfl, rfl, hx, hI⟩ := hrel
    have hl := hI.len
    obtain ⟨d, hd⟩ : ∃ d, x % 10 = d := ⟨_, rfl⟩
    obtain ⟨y, hy⟩ : ∃ y, x / 10 = y := ⟨_, rfl⟩
    have hd9 : d < 10 := by omega
    have hA : Value.int .i64 ((x : Int).tmod 10) = .int .i64 (d : Int) := by rw [Int.tmod_eq_emod_of_nonneg (by omega)]; congr 1; omega
    have hA2 : (x : Int).tmod 10 = (d : Int) := by rw [Int.tmod_eq_emod_of_nonneg (by omega)]; omega
    have hB : (x : Int) / 10 = (y : Int) := by omega
    have hE := dig_extF d hd9
    have hC : str [digC d] ++ (⟨l.toArray⟩ : ByteArray) = str (digC d :: l) := str_app [digC d] l
    subst hd
    by_cases hz : x < 10
    · have hy0 : y = 0 := by omega
      subst hy0
      have HT := hid (hI.last hz)
      clear hI hy hA
      go_wp2
      (try simp only [Exit.inBlock, Exit.then])
      go_ret
      exact ⟨by rw [HT.out]; rfl, rfl⟩
    · have HT := hid (hI.step (by omega) hz)
      have HY := hid (show y < 1000 ∧ y < x from by omega)
      have hy1 : ((y : Int) == 0) = false := by simp; omega
      rw [hy] at HT
      clear hI hy hA hz
      go_wp2
      go_roundw
      case rel => exact ⟨y, digC (x % 10) :: l, rfl, rfl, trivial, HY.out.1, HT.out⟩
      case measure => have := HY.out.2; simp [intOf]; omega
end Go.Proofs.YthakldcfpndabaaDoor
