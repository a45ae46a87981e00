/- The document's roots: products of two halves, square and cube roots bit by bit. -/
import Derived.Test.YtojcaoieodogdaaDoorArr
namespace Go.Proofs.YtojcaoieodogdaaDoor
open Go.RowKit

def lo32 (a : Int) : Int := bits .and .u64 a 4294967295
def tLow (a b : Int) : Int := IntKind.u64.wrap (lo32 a * lo32 b)
def tMid (a b : Int) : Int := IntKind.u64.wrap (IntKind.u64.wrap (a / 4294967296 * lo32 b) + tLow a b / 4294967296)
def tMore (a b : Int) : Int := IntKind.u64.wrap (IntKind.u64.wrap (lo32 a * (b / 4294967296)) + lo32 (tMid a b))
def tHi (a b : Int) : Int := IntKind.u64.wrap (IntKind.u64.wrap (IntKind.u64.wrap (a / 4294967296 * (b / 4294967296)) + tMid a b / 4294967296) + tMore a b / 4294967296)
def tLo (a b : Int) : Int := bits .or .u64 (IntKind.u64.wrap (tMore a b * 4294967296)) (lo32 (tLow a b))
theorem times_any (a b : Int) (w : World) : Calls Tryd.prog 60 #[.int .u64 a, .int .u64 b] w fun e w' => e = .returned (.tuple #[.int .u64 (tHi a b), .int .u64 (tLo a b)]) ∧ w' = w := by
  go_enter Tryd.func60, Tryd.ntmps60
  go_wp2
  go_ret2
  exact ⟨rfl, rfl⟩
def rbit (r : Int) (bit : Nat) : Int := bits .or .u64 r (IntKind.u64.wrap (2 ^ bit))
def cubC (x : Int) : Int := IntKind.u64.wrap (IntKind.u64.wrap (tHi x x * x) + tHi (tLo x x) x)
def cubStep (p r : Int) (bit : Nat) : Int :=
  if cubC (rbit r bit) / 4294967296 < p ∨ (cubC (rbit r bit) / 4294967296 = p ∧ lo32 (cubC (rbit r bit)) = 0 ∧ tLo (tLo (rbit r bit) (rbit r bit)) (rbit r bit) = 0) then rbit r bit else r
def cubTo (p : Int) : Nat → Int
  | 0 => 0
  | k + 1 => cubStep p (cubTo p k) (35 - k)
def sqStep (p r : Int) (bit : Nat) : Int := if tHi (rbit r bit) (rbit r bit) < p ∨ (tHi (rbit r bit) (rbit r bit) = p ∧ tLo (rbit r bit) (rbit r bit) = 0) then rbit r bit else r
def sqTo (p : Int) : Nat → Int
  | 0 => 0
  | k + 1 => sqStep p (sqTo p k) (36 - k)
set_option maxRecDepth 20000 in
set_option maxHeartbeats 2000000 in
theorem square_any (p : Int) (w : World) : Calls Tryd.prog 50 #[.int .u64 p] w fun e w' => e = .returned (.int .u32 (sqTo p 37 % 4294967296)) ∧ w' = w := by
  go_enter Tryd.func50, Tryd.ntmps50
  go_wp2
  go_loop [3, 4] (fun r i => ∃ (k : Nat) (x : Int), k ≤ 37 ∧ r = .int .u64 x ∧ i = .int .i64 (36 - (k : Int)) ∧ Hid (x = sqTo p k)) (fun _ i => (intOf i + 1).toNat)
  case atStart => exact ⟨0, 0, Nat.zero_le _, rfl, rfl, rfl⟩
  case round =>
    obtain ⟨k, r, hk, rfl, rfl, HR⟩ := hrel
    by_cases hlt : k < 37
    · obtain ⟨j, hj⟩ : ∃ j : Nat, 36 - k = j := ⟨_, rfl⟩
      have hj' : (36 : Int) - k = (j : Int) := by omega
      have hj1 : (j : Int) ≤ 36 := by omega
      have HJ := hid hj
      have HJ' := hid hj'
      rw [hj']
      clear hj hj'
      obtain ⟨x, HX⟩ : ∃ x, Hid (rbit r j = x) := ⟨_, hid rfl⟩
      have hx : bits .or .u64 r (IntKind.u64.wrap (2 ^ j)) = x := HX.out
      obtain ⟨H, HH⟩ : ∃ y, Hid (tHi x x = y) := ⟨_, hid rfl⟩
      obtain ⟨L, HL⟩ : ∃ y, Hid (tLo x x = y) := ⟨_, hid rfl⟩
      have HS : Hid (sqTo p (k + 1) = if H < p ∨ (H = p ∧ L = 0) then x else r) := by
        show sqStep p (sqTo p k) (36 - k) = _
        unfold sqStep
        rw [← HR.out, HJ.out, HX.out, HH.out, HL.out]
      have hcases : H < p ∨ (¬ H < p ∧ ¬ H = p) ∨ (¬ H < p ∧ H = p ∧ L = 0) ∨ (¬ H < p ∧ H = p ∧ ¬ L = 0) := by omega
      rcases hcases with c1 | ⟨c1, c2⟩ | ⟨c1, c2, c3⟩ | ⟨c1, c2, c3⟩
      all_goals
        go_wp2_with (go_at_call 60; (with_reducible refine (times_any x x _).mono ?_); rintro e w' ⟨rfl, rfl⟩; rw [HH.out, HL.out])
        go_round
        case rel =>
          have hj2 := HJ'.out
          first
            | exact ⟨k + 1, x, by omega, rfl, by congr 1; omega, by show x = _; rw [HS.out, if_pos (by first | exact .inl c1 | exact .inr ⟨c2, c3⟩)]⟩
            | exact ⟨k + 1, r, by omega, rfl, by congr 1; omega, by show r = _; rw [HS.out, if_neg (by omega)]⟩
        case measure => first | (simp [intOf]; done) | (simp [intOf]; omega)
    · obtain rfl : k = 37 := by omega
      go_wp2
      go_ret
      exact ⟨by rw [HR.out]; rfl, rfl⟩
set_option maxRecDepth 20000 in
set_option maxHeartbeats 4000000 in
theorem cube_any (p : Int) (w : World) : Calls Tryd.prog 52 #[.int .u64 p] w fun e w' => e = .returned (.int .u32 (cubTo p 36 % 4294967296)) ∧ w' = w := by
  go_enter Tryd.func52, Tryd.ntmps52
  go_wp2
  go_loop [3, 4] (fun r i => ∃ (k : Nat) (x : Int), k ≤ 36 ∧ r = .int .u64 x ∧ i = .int .i64 (35 - (k : Int)) ∧ Hid (x = cubTo p k)) (fun _ i => (intOf i + 1).toNat)
  case atStart => exact ⟨0, 0, Nat.zero_le _, rfl, rfl, rfl⟩
  case round =>
    obtain ⟨k, r, hk, rfl, rfl, HR⟩ := hrel
    by_cases hlt : k < 36
    · obtain ⟨j, hj⟩ : ∃ j : Nat, 35 - k = j := ⟨_, rfl⟩
      have hj' : (35 : Int) - k = (j : Int) := by omega
      have hj1 : (j : Int) ≤ 35 := by omega
      have HJ := hid hj
      have HJ' := hid hj'
      rw [hj']
      clear hj hj'
      obtain ⟨x, HX⟩ : ∃ x, Hid (rbit r j = x) := ⟨_, hid rfl⟩
      have hx : bits .or .u64 r (IntKind.u64.wrap (2 ^ j)) = x := HX.out
      obtain ⟨H, HH⟩ : ∃ y, Hid (tHi x x = y) := ⟨_, hid rfl⟩
      obtain ⟨L, HL⟩ : ∃ y, Hid (tLo x x = y) := ⟨_, hid rfl⟩
      obtain ⟨A, HA⟩ : ∃ y, Hid (tHi L x = y) := ⟨_, hid rfl⟩
      obtain ⟨B, HB⟩ : ∃ y, Hid (tLo L x = y) := ⟨_, hid rfl⟩
      obtain ⟨C, HC⟩ : ∃ y, Hid (IntKind.u64.wrap (IntKind.u64.wrap (H * x) + A) = y) := ⟨_, hid rfl⟩
      obtain ⟨D, HD⟩ : ∃ y, Hid (bits .and .u64 C 4294967295 = y) := ⟨_, hid rfl⟩
      obtain ⟨E, HE⟩ : ∃ y, Hid (C / 4294967296 = y) := ⟨_, hid rfl⟩
      have HS : Hid (cubTo p (k + 1) = if E < p ∨ (E = p ∧ D = 0 ∧ B = 0) then x else r) := by
        show cubStep p (cubTo p k) (35 - k) = _
        unfold cubStep cubC lo32
        rw [← HR.out, HJ.out, HX.out, HH.out, HL.out, HA.out, HB.out, HC.out, HD.out, HE.out]
      have hC := HC.out
      have hD := HD.out
      have hE := HE.out
      have hcases : E < p ∨ (¬ E < p ∧ ¬ E = p) ∨ (¬ E < p ∧ E = p ∧ ¬ D = 0) ∨ (¬ E < p ∧ E = p ∧ D = 0 ∧ ¬ B = 0) ∨ (¬ E < p ∧ E = p ∧ D = 0 ∧ B = 0) := by omega
      rcases hcases with c1 | ⟨c1, c2⟩ | ⟨c1, c2, c3⟩ | ⟨c1, c2, c3, c4⟩ | ⟨c1, c2, c3, c4⟩
      all_goals
        go_wp2_with (first
          | (go_at_call 60; (with_reducible refine (times_any x x _).mono ?_); rintro e w' ⟨rfl, rfl⟩; rw [HH.out, HL.out])
          | (go_at_call 60; (with_reducible refine (times_any L x _).mono ?_); rintro e w' ⟨rfl, rfl⟩; rw [HA.out, HB.out]))
        go_round
        case rel =>
          have hj2 := HJ'.out
          first
            | exact ⟨k + 1, x, by omega, rfl, by congr 1; omega, by show x = _; rw [HS.out, if_pos (by first | exact .inl c1 | exact .inr ⟨c2, c3, c4⟩)]⟩
            | exact ⟨k + 1, r, by omega, rfl, by congr 1; omega, by show r = _; rw [HS.out, if_neg (by omega)]⟩
        case measure => first | (simp [intOf]; done) | (simp [intOf]; omega)
    · obtain rfl : k = 36 := by omega
      go_wp2
      go_ret
      exact ⟨by rw [HR.out]; rfl, rfl⟩
end Go.Proofs.YtojcaoieodogdaaDoor
