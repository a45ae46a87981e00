/- The document's own texts of numbers: the digits of a number in base 10 and 16; for every number of 64 bits; nothing in memory turns. -/
import Derived.Test.YtcjemgnnmopgbaaDoorHexText
import Derived.Deep.QuietTactic
import Derived.BigQuiet
namespace Go.Proofs.YtcjemgnnmopgbaaDoor
open Go.RowKit

theorem drewN_two (w : World) (a b : Nat) : (w.drewN a).drewN b = w.drewN (a + b) := by
  simp [World.drewN, Nat.add_assoc]
theorem ext_cons (d : Nat) (l : List UInt8) (h : d < 16) :
    ({ data := #[48, 49, 50, 51, 52, 53, 54, 55, 56, 57, 97, 98, 99, 100, 101, 102] } : ByteArray).extract d (d + 1) ++ { data := l.toArray } = { data := (digC d :: l).toArray } := by
  have all : ∀ d : Fin 16, ({ data := #[48, 49, 50, 51, 52, 53, 54, 55, 56, 57, 97, 98, 99, 100, 101, 102] } : ByteArray).extract d.1 (d.1 + 1) = { data := #[digC d.1] } := by decide
  rw [all ⟨d, h⟩]
  apply ByteArray.ext
  simp
theorem told_room {x f : Nat} (b : Nat) (h2 : 1 < b) (hx : ¬ x < b) (hf : x < b ^ (f + 1)) : 1 ≤ f ∧ x / b < b ^ (f - 1 + 1) := by
  have h1 : 1 ≤ f := by
    rcases Nat.eq_zero_or_pos f with rfl | h
    · simp at hf; omega
    · exact h
  refine ⟨h1, ?_⟩
  rw [show f - 1 + 1 = f by omega]
  rw [Nat.div_lt_iff_lt_mul (by omega)]
  rw [Nat.pow_succ] at hf
  exact hf

/-- What the digits so far, and the number that is left, make. -/
def ToldInv (b n x : Nat) (l : List UInt8) : Prop := ∃ f, f + 1 + l.length = 64 ∧ x < b ^ (f + 1) ∧ toldL b (f + 1) x l = told b n
theorem ToldInv.start (b n : Nat) (h : n < b ^ 64) : ToldInv b n n [] := ⟨63, rfl, h, rfl⟩
theorem ToldInv.last {b n x : Nat} {l : List UInt8} (h : ToldInv b n x l) (hx : x < b) : told b n = digC (x % b) :: l := by
  obtain ⟨f, _, _, ht⟩ := h
  rw [← ht, toldL, if_pos (Nat.div_eq_of_lt hx)]
theorem ToldInv.len {b n x : Nat} {l : List UInt8} (h : ToldInv b n x l) : l.length < 64 := by
  obtain ⟨f, hl, _⟩ := h; omega
theorem ToldInv.step {b n x : Nat} {l : List UInt8} (h : ToldInv b n x l) (h2 : 1 < b) (hx : ¬ x < b) : ToldInv b n (x / b) (digC (x % b) :: l) := by
  obtain ⟨f, hl, hf, ht⟩ := h
  obtain ⟨h1, h3⟩ := told_room b h2 hx hf
  refine ⟨f - 1, by simp; omega, h3, ?_⟩
  rw [toldL, if_neg (by rw [Nat.div_eq_zero_iff]; omega)] at ht
  rw [show f - 1 + 1 = f by omega]
  exact ht

set_option maxHeartbeats 1000000 in
theorem told16_any (n : Nat) (w : World) (hn : n < 18446744073709551616) :
    Calls Tryd.prog 43 #[.int .u64 n, .int .u64 16] w fun e w' => e = .returned (.string ⟨(told 16 n).toArray⟩) ∧ ∃ m, w' = w.drewN m := by
  have hS := ToldInv.start 16 n (Nat.lt_trans hn (by decide))
  go_enter Tryd.func43, Tryd.ntmps43
  go_wp2
  go_loopw [0, 5] (fun u s W => ∃ (x m : Nat) (l : List UInt8), u = .int .u64 x ∧ s = .string ⟨l.toArray⟩ ∧ W = w.drewN m ∧ x < 18446744073709551616 ∧ ToldInv 16 n x l) (fun u _ _ => (intOf u).toNat)
  case atStart => exact ⟨n, 0, [], rfl, rfl, rfl, hn, hS⟩
  case round =>
    obtain ⟨x, m, l, rfl, rfl, rfl, hx, hI⟩ := hrel
    have hmod : (x : Int) % 16 < 16 := by omega
    have hmod0 : 0 ≤ (x : Int) % 16 := by omega
    have hl := hI.len
    clear hS
    go_wp2
    go_quiet (fail)
    rw [ext_cons (x % 16) l (by omega)]
    by_cases hz : x < 16
    · have hT := Lib.hid (hI.last hz)
      clear hI
      go_wp2
      go_ret
      rw [hT.out]
      exact ⟨rfl, m + nq, by first | rfl | exact drewN_two _ _ _⟩
    · have hT := hI.step (by omega) hz
      clear hI
      go_wp2
      go_roundw
      case rel => exact ⟨x / 16, m + nq, digC (x % 16) :: l, by go_num, rfl, by first | rfl | exact drewN_two _ _ _, by omega, hT⟩
      case measure => simp [intOf]; omega

set_option maxHeartbeats 1000000 in
theorem told10_any (n : Nat) (w : World) (hn : n < 18446744073709551616) :
    Calls Tryd.prog 43 #[.int .u64 n, .int .u64 10] w fun e w' => e = .returned (.string ⟨(told 10 n).toArray⟩) ∧ ∃ m, w' = w.drewN m := by
  have hS := ToldInv.start 10 n (Nat.lt_trans hn (by decide))
  go_enter Tryd.func43, Tryd.ntmps43
  go_wp2
  go_loopw [0, 5] (fun u s W => ∃ (x m : Nat) (l : List UInt8), u = .int .u64 x ∧ s = .string ⟨l.toArray⟩ ∧ W = w.drewN m ∧ x < 18446744073709551616 ∧ ToldInv 10 n x l) (fun u _ _ => (intOf u).toNat)
  case atStart => exact ⟨n, 0, [], rfl, rfl, rfl, hn, hS⟩
  case round =>
    obtain ⟨x, m, l, rfl, rfl, rfl, hx, hI⟩ := hrel
    have hmod : (x : Int) % 10 < 10 := by omega
    have hmod0 : 0 ≤ (x : Int) % 10 := by omega
    have hl := hI.len
    clear hS
    go_wp2
    go_quiet (fail)
    rw [ext_cons (x % 10) l (by omega)]
    by_cases hz : x < 10
    · have hT := Lib.hid (hI.last hz)
      clear hI
      go_wp2
      go_ret
      rw [hT.out]
      exact ⟨rfl, m + nq, by first | rfl | exact drewN_two _ _ _⟩
    · have hT := hI.step (by omega) hz
      clear hI
      go_wp2
      go_roundw
      case rel => exact ⟨x / 10, m + nq, digC (x % 10) :: l, by go_num, rfl, by first | rfl | exact drewN_two _ _ _, by omega, hT⟩
      case measure => simp [intOf]; omega

theorem toldL_dec : ∀ (f u : Nat) (l : List UInt8), u < 10 ^ (f + 1) → toldL 10 (f + 1) u l = Lib.decDigits u ++ l
  | 0, u, l, h => by
    have hu : u < 10 := by simpa using h
    rw [toldL, if_pos (by omega), Lib.decDigits_one hu, Nat.mod_eq_of_lt hu]
    simp [digC, hu]
  | f + 1, u, l, h => by
    rw [toldL]
    by_cases hu : u < 10
    · rw [if_pos (by omega), Lib.decDigits_one hu, Nat.mod_eq_of_lt hu]
      simp [digC, hu]
    · have h1 : u / 10 < 10 ^ (f + 1) := by
        rw [Nat.div_lt_iff_lt_mul (by omega)]
        rw [Nat.pow_succ] at h
        exact h
      have h3 : u % 10 < 10 := Nat.mod_lt _ (by omega)
      have h4 : Lib.decDigits u = Lib.decDigits (u / 10) ++ [UInt8.ofNat (48 + u % 10)] := by
        conv => lhs; rw [Lib.decDigits, dif_neg hu]
      rw [if_neg (by omega), toldL_dec f _ _ h1, h4]
      simp [digC, h3]
theorem told_dec (u : Nat) (h : u < 18446744073709551616) : told 10 u = Lib.decDigits u := by
  have := toldL_dec 63 u [] (Nat.lt_trans h (by decide))
  simpa [told] using this
end Go.Proofs.YtcjemgnnmopgbaaDoor
