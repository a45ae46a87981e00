/- The document's own texts of numbers. -/
import Derived.Test.YtnlmjlfoeodleaaGreatDoorBase
namespace Go.Proofs.YtnlmjlfoeodleaaGreatDoor
open Go.RowKit

/-- One digit's letter. -/
def digC (d : Nat) : UInt8 := if d < 10 then UInt8.ofNat (48 + d) else UInt8.ofNat (87 + d)
/-- A number's digits in a base, the last ones behind. -/
def toldL (base : Nat) : Nat → Nat → List UInt8 → List UInt8
  | 0, _, l => l
  | f + 1, n, l => if n / base = 0 then digC (n % base) :: l else toldL base f (n / base) (digC (n % base) :: l)
def told (base n : Nat) : List UInt8 := toldL base 64 n []

theorem drewN_two (w : World) (a b : Nat) : (w.drewN a).drewN b = w.drewN (a + b) := by
  simp [World.drewN, Nat.add_assoc]
theorem ext_cons (d : Nat) (l : List UInt8) (h : d < 16) :
    ({ data := #[48, 49, 50, 51, 52, 53, 54, 55, 56, 57, 97, 98, 99, 100, 101, 102] } : ByteArray).extract d (d + 1) ++ { data := l.toArray } = { data := (digC d :: l).toArray } := by
  have all : ∀ d : Fin 16, ({ data := #[48, 49, 50, 51, 52, 53, 54, 55, 56, 57, 97, 98, 99, 100, 101, 102] } : ByteArray).extract d.1 (d.1 + 1) = { data := #[digC d.1] } := by decide
  rw [all ⟨d, h⟩]
  apply ByteArray.ext
  simp
theorem told_room {x f : Nat} (b : Nat) (h2 : 1 < b) (hx : ¬ x < b) (hf : x < b ^ (f + 1)) : 1 ≤ f ∧ x / b < b ^ (f - 1 + 1) := by
  have h1 : 1 ≤ f := by
    rcases Nat.eq_zero_or_pos f with rfl | h
    · simp at hf; omega
    · exact h
  refine ⟨h1, ?_⟩
  rw [show f - 1 + 1 = f by omega]
  rw [Nat.div_lt_iff_lt_mul (by omega)]
  rw [Nat.pow_succ] at hf
  exact hf

/-- What the digits so far, and the number that is left, make. -/
def ToldInv (b n x : Nat) (l : List UInt8) : Prop := ∃ f, f + 1 + l.length = 64 ∧ x < b ^ (f + 1) ∧ toldL b (f + 1) x l = told b n
theorem ToldInv.start (b n : Nat) (h : n < b ^ 64) : ToldInv b n n [] := ⟨63, rfl, h, rfl⟩
theorem ToldInv.last {b n x : Nat} {l : List UInt8} (h : ToldInv b n x l) (hx : x < b) : told b n = digC (x % b) :: l := by
  obtain ⟨f, _, _, ht⟩ := h
  rw [← ht, toldL, if_pos (Nat.div_eq_of_lt hx)]
theorem ToldInv.len {b n x : Nat} {l : List UInt8} (h : ToldInv b n x l) : l.length < 64 := by
  obtain ⟨f, hl, _⟩ := h; omega
theorem ToldInv.step {b n x : Nat} {l : List UInt8} (h : ToldInv b n x l) (h2 : 1 < b) (hx : ¬ x < b) : ToldInv b n (x / b) (digC (x % b) :: l) := by
  obtain ⟨f, hl, hf, ht⟩ := h
  obtain ⟨h1, h3⟩ := told_room b h2 hx hf
  refine ⟨f - 1, by simp; omega, h3, ?_⟩
  rw [toldL, if_neg (by rw [Nat.div_eq_zero_iff]; omega)] at ht
  rw [show f - 1 + 1 = f by omega]
  exact ht

set_option maxHeartbeats 1000000 in
theorem told10_any (n : Nat) (w : World) (hn : n < 18446744073709551616) :
    Calls Tryz.prog 92 #[.int .u64 n, .int .u64 10] w fun e w' => e = .returned (.string ⟨(told 10 n).toArray⟩) ∧ ∃ m, w' = w.drewN m := by
  have hS := ToldInv.start 10 n (Nat.lt_trans hn (by decide))
  go_enter Tryz.func92, Tryz.ntmps92
  go_wp2
  go_loopw [0, 5] (fun u s W => ∃ (x m : Nat) (l : List UInt8), u = .int .u64 x ∧ s = .string ⟨l.toArray⟩ ∧ W = w.drewN m ∧ x < 18446744073709551616 ∧ ToldInv 10 n x l) (fun u _ _ => (intOf u).toNat)
  case atStart => exact ⟨n, 0, [], rfl, rfl, rfl, hn, hS⟩
  case round =>
    obtain ⟨x, m, l, rfl, rfl, rfl, hx, hI⟩ := hrel
    have hmod : (x : Int) % 10 < 10 := by omega
    have hmod0 : 0 ≤ (x : Int) % 10 := by omega
    have hl := hI.len
    clear hS
    go_wp2
    go_quiet (fail)
    rw [ext_cons (x % 10) l (by omega)]
    by_cases hz : x < 10
    · have hT := hid (hI.last hz)
      clear hI
      go_wp2
      go_ret
      rw [hT.out]
      exact ⟨rfl, m + nq, by first | rfl | exact drewN_two _ _ _⟩
    · have hT := hI.step (by omega) hz
      clear hI
      go_wp2
      go_roundw
      case rel => exact ⟨x / 10, m + nq, digC (x % 10) :: l, by go_num, rfl, by first | rfl | exact drewN_two _ _ _, by omega, hT⟩
      case measure => simp [intOf]; omega

theorem below_drewN' (w : World) (n : Nat) : Below w.heap.size w (w.drewN n) := ⟨rfl, rfl, rfl, Nat.le_refl _, fun _ _ => rfl⟩
set_option maxHeartbeats 1000000 in
theorem rtext_any (k : Nat) (w : World) (h1 : k ≤ 9223372036854775807) :
    Calls Tryz.prog 54 #[.int .i64 (k : Int)] w fun e w' => e = .returned (.string (str (told 10 k))) ∧ Below w.heap.size w w' := by
  have hw : IntKind.u64.wrap (k : Int) = k := by rw [IntKind.wrap_u64]; omega
  go_enter Tryz.func54, Tryz.ntmps54
  go_wp2_with (go_at_call 92; refine (told10_any k _ (by omega)).mono ?_; rintro e w' ⟨rfl, m, rfl⟩)
  go_ret
  exact ⟨rfl, below_drewN' _ _⟩
end Go.Proofs.YtnlmjlfoeodleaaGreatDoor
