/- The document's primes: the one at each place from 0 to 63. -/
import Derived.Test.YtojcaoieodogdaaDoorArr
namespace Go.Proofs.YtojcaoieodogdaaDoor
open Go.RowKit

def primes : List Nat := [2, 3, 5, 7, 11, 13, 17, 19, 23, 29, 31, 37, 41, 43, 47, 53, 59, 61, 67, 71, 73, 79, 83, 89, 97, 101, 103, 107, 109, 113, 127, 131, 137, 139, 149, 151, 157, 163, 167, 173, 179, 181, 191, 193, 197, 199, 211, 223, 227, 229, 233, 239, 241, 251, 257, 263, 269, 271, 277, 281, 283, 293, 307, 311]
def primeB (n : Nat) : Bool := primes.contains n
/-- No number from 2 to d - 1 divides n. -/
def noDiv (n d : Nat) : Bool := (List.range d).all fun e => decide (e < 2) || decide (n % e ≠ 0)
/-- How many primes are below n. -/
def below (n : Nat) : Nat := (List.range n).countP primeB
theorem noDiv_two (n : Nat) : noDiv n 2 = true := rfl
theorem noDiv_succ (n d : Nat) (h : 2 ≤ d) : noDiv n (d + 1) = (noDiv n d && decide (n % d ≠ 0)) := by
  unfold noDiv
  rw [List.range_succ, List.all_append]
  simp [show ¬ d < 2 by omega]
set_option maxRecDepth 100000 in
theorem found : ∀ n : Fin 312, ∀ d : Fin 20, 2 ≤ d.1 → n.1 < d.1 * d.1 → (d.1 = 2 ∨ (d.1 - 1) * (d.1 - 1) ≤ n.1) → noDiv n.1 d.1 = (primeB n.1 || decide (n.1 < 2)) := by decide +kernel
set_option maxRecDepth 100000 in
theorem places : ∀ k : Fin 64, primeB (primes[k.1]?.getD 0) = true ∧ below (primes[k.1]?.getD 0) = k.1 ∧ 2 ≤ primes[k.1]?.getD 0 ∧ primes[k.1]?.getD 0 ≤ 311 := by decide +kernel
theorem below_succ (n : Nat) : below (n + 1) = below n + (if primeB n then 1 else 0) := by
  unfold below
  rw [List.range_succ, List.countP_append]
  simp [List.countP_cons]
theorem below_mono (n : Nat) : ∀ k, below n ≤ below (n + k)
  | 0 => Nat.le_refl _
  | k + 1 => by
    have := below_mono n k
    rw [← Nat.add_assoc, below_succ]
    omega
theorem below_le {n m : Nat} (h : n ≤ m) : below n ≤ below m := by
  have := below_mono n (m - n)
  rwa [show n + (m - n) = m by omega] at this
set_option maxRecDepth 20000 in
set_option maxHeartbeats 2000000 in
theorem prime_any (k p : Nat) (hk : k < 64) (hp : primes[k]?.getD 0 = p) (w : World) :
    Calls Tryd.prog 51 #[.int .i64 k] w fun e w' => e = .returned (.int .u64 p) ∧ w' = w := by
  have hf := places ⟨k, hk⟩
  simp only [hp] at hf
  have HF := hid hf
  clear hf
  go_enter Tryd.func51, Tryd.ntmps51
  go_wp2
  go_loop [0, 3] (fun a s => ∃ n m : Nat, a = .int .i64 m ∧ s = .int .u64 n ∧ 2 ≤ n ∧ n ≤ p ∧ Hid (m + below n = k)) (fun _ s => 400 - (intOf s).toNat)
  case atStart => exact ⟨2, k, rfl, rfl, Nat.le_refl _, HF.out.2.2.1, by show k + below 2 = k; rfl⟩
  case round =>
    obtain ⟨n, m, rfl, rfl, h2, hnp, HM⟩ := hrel
    have hp311 := HF.out.2.2.2
    have HI : Hid (∀ d, 2 ≤ d → d ≤ 19 → n < d * d → (d = 2 ∨ (d - 1) * (d - 1) ≤ n) → noDiv n d = primeB n) := by
      intro d h1 h3 h4 h5
      have := found ⟨n, by omega⟩ ⟨d, by omega⟩ h1 h4 h5
      simpa [show ¬ n < 2 by omega] using this
    go_wp2
    go_loop [4, 5] (fun b s => ∃ d : Nat, s = .int .u64 d ∧ b = .bool (noDiv n d) ∧ 2 ≤ d ∧ d ≤ 19 ∧ Hid (d = 2 ∨ (d - 1) * (d - 1) ≤ n)) (fun _ s => 30 - (intOf s).toNat)
    case atStart => exact ⟨2, rfl, by rw [noDiv_two], Nat.le_refl _, by omega, .inl rfl⟩
    case round =>
      obtain ⟨d, rfl, rfl, hd2, hd19, HD⟩ := hrel
      by_cases hgo : d * d ≤ n
      · have hd18 : d ≤ 18 := by
          rcases Nat.lt_or_ge 18 d with h | h
          · have : 19 * 19 ≤ d * d := Nat.mul_le_mul h h
            omega
          · exact h
        have hgo' : (d : Int) * d ≤ n := by exact_mod_cast hgo
        have hdd : ((d * d : Nat) : Int) ≤ 311 := by omega
        have hd0 : ¬ (d : Int) = 0 := by omega
        have hs := noDiv_succ n d hd2
        have HR : Hid ((d + 1 = 2 ∨ (d + 1 - 1) * (d + 1 - 1) ≤ n)) := .inr hgo
        obtain ⟨b, hb⟩ : ∃ b, noDiv n d = b := ⟨_, rfl⟩
        rw [hb] at hs ⊢
        have HS := hid hs
        clear hs HD hb
        cases b with
        | false =>
          go_wp2
          go_round
          case rel => exact ⟨d + 1, by go_num, by rw [HS.out]; rfl, by omega, by omega, HR⟩
          case measure => simp [intOf]; omega
        | true =>
          by_cases hm : n % d = 0
          · have hm' : (n : Int) % d = 0 := by exact_mod_cast hm
            go_wp2
            go_round
            case rel => exact ⟨d + 1, by go_num, by rw [HS.out]; simp [hm], by omega, by omega, HR⟩
            case measure => simp [intOf]; omega
          · have hm' : ¬ (n : Int) % d = 0 := by exact_mod_cast hm
            go_wp2
            go_round
            case rel => exact ⟨d + 1, by go_num, by rw [HS.out]; simp [hm]; exact hm', by omega, by omega, HR⟩
            case measure => simp [intOf]; omega
      · have hgo' : ¬ (d : Int) * d ≤ n := by exact_mod_cast hgo
        have hdd : ((d * d : Nat) : Int) ≤ 361 := by have := Nat.mul_le_mul hd19 hd19; omega
        have hq := HI.out d hd2 hd19 (by omega) HD.out
        rw [hq]
        clear hq HD
        by_cases hpr : primeB n = true
        · rw [hpr]
          by_cases hm0 : m = 0
          · subst hm0
            have hnp' : n = p := by
              rcases Nat.lt_or_ge n p with h | h
              · have h3 := below_le (show n + 1 ≤ p by omega)
                rw [below_succ, hpr, HF.out.2.1] at h3
                have := HM.out
                simp at h3
                omega
              · omega
            subst hnp'
            go_wp2
            go_ret
            exact ⟨rfl, rfl⟩
          · have hm1 : ¬ (m : Int) = 0 := by omega
            have hlt : n < p := by
              rcases Nat.lt_or_ge n p with h | h
              · exact h
              · exfalso
                have e : n = p := by omega
                have h3 := HM.out
                rw [e, HF.out.2.1] at h3
                omega
            have hmb : (m : Int) ≤ 100 := by have := HM.out; omega
            go_wp2
            go_round
            case rel =>
              refine ⟨n + 1, m - 1, ?_, by go_num, by omega, by omega, ?_⟩
              · congr 1; omega
              · show m - 1 + below (n + 1) = k
                rw [below_succ, hpr]
                have := HM.out
                simp
                omega
            case measure => simp [intOf]; omega
        · have hpr' : primeB n = false := by simpa using hpr
          rw [hpr']
          have hlt : n < p := by
            rcases Nat.lt_or_ge n p with h | h
            · exact h
            · exfalso
              have e : n = p := by omega
              rw [e, HF.out.1] at hpr'
              cases hpr'
          go_wp2
          go_round
          case rel =>
            refine ⟨n + 1, m, rfl, by go_num, by omega, by omega, ?_⟩
            show m + below (n + 1) = k
            rw [below_succ, hpr']
            exact HM.out
          case measure => simp [intOf]; omega
end Go.Proofs.YtojcaoieodogdaaDoor
