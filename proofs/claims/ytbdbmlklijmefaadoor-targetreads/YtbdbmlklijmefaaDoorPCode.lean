/- The program's codes. -/
import Derived.Test.YtbdbmlklijmefaaDoorPByte
namespace Go.Proofs.YtbdbmlklijmefaaDoor
open Go.RowKit

/-- The byte of a code that begins here, and whether there is one. -/
def codeN (s : B) : Nat := if codeI s < 0 then 0 else (codeI s).toNat
def codeO (s : B) : Bool := decide (0 ≤ codeI s)
theorem codeN_lt (s : B) : codeN s < 256 := by
  have := codeI_bd s
  unfold codeN
  split <;> omega
theorem or_two (a b : Nat) (ha : a ≤ 15) (hb : b ≤ 15) : bits BinOp.or IntKind.u8 ((a : Int) * 16) (b : Int) = ((a * 16 + b : Nat) : Int) := by
  have key : ∀ (i j : Fin 16), bits BinOp.or IntKind.u8 ((i.val : Int) * 16) (j.val : Int) = ((i.val * 16 + j.val : Nat) : Int) := by decide +kernel
  exact key ⟨a, by omega⟩ ⟨b, by omega⟩
set_option maxRecDepth 20000 in
set_option maxHeartbeats 8000000 in
theorem pcode_any (s : B) (hs : s.length ≤ 70368744177664) (w : World) : Calls Tryd.prog 63 #[.string (str s)] w fun e w' => e = .returned (.tuple #[.int .u8 (codeN s : Int), .bool (codeO s)]) ∧ w' = w := by
  obtain ⟨n, hn⟩ : ∃ n, s.length = n := ⟨_, rfl⟩
  obtain ⟨S, hS⟩ : ∃ S, str s = S := ⟨_, rfl⟩
  have hSn : S.size = n := by rw [← hS, str_size, hn]
  by_cases hlt : 2 < n
  · have h0 : 0 + 2 < s.length := by rw [hn]; omega
    have e := drop3 h0
    rw [List.drop_zero] at e
    obtain ⟨c, hc⟩ : ∃ c, s[0] = c := ⟨_, rfl⟩
    obtain ⟨a, ha⟩ : ∃ a, s[0 + 1] = a := ⟨_, rfl⟩
    obtain ⟨b, hb⟩ : ∃ b, s[0 + 2] = b := ⟨_, rfl⟩
    have b0 : ∀ h : 0 < S.size, S[0]'h = c := fun h => by subst hS; exact hc
    have b1 : ∀ h : 1 < S.size, S[1]'h = a := fun h => by subst hS; exact ha
    have b2 : ∀ h : 2 < S.size, S[2]'h = b := fun h => by subst hS; exact hb
    rw [hc, ha, hb] at e
    have HR := hid (show codeI s = if c = 37 ∧ 0 ≤ hexI a ∧ 0 ≤ hexI b then hexI a * 16 + hexI b else -1 from by
      have hR := codeI_at (c := c) (a := a) (b := b) (r := s.drop (0 + 3))
      rw [← e] at hR
      exact hR)
    have HCN := hid (show codeN s = if codeI s < 0 then 0 else (codeI s).toNat from rfl)
    have HCO := hid (show codeO s = decide (0 ≤ codeI s) from rfl)
    rw [hS]
    rw [hn] at hs
    obtain ⟨R, hRR⟩ : ∃ R, codeI s = R := ⟨_, rfl⟩
    obtain ⟨RN, hRN⟩ : ∃ RN, codeN s = RN := ⟨_, rfl⟩
    obtain ⟨RO, hRO⟩ : ∃ RO, codeO s = RO := ⟨_, rfl⟩
    rw [hRR] at HR HCN HCO
    rw [hRN] at HCN ⊢
    rw [hRO] at HCO ⊢
    clear hn hS h0 e hc ha hb hRR hRN hRO
    by_cases q37 : c = 37
    · subst q37
      obtain ⟨za0, za1⟩ := byte_int a
      obtain ⟨zb0, zb1⟩ := byte_int b
      have HA := hid (digit_any (a.toNat : Int) za0 za1)
      have HB := hid (digit_any (b.toNat : Int) zb0 zb1)
      rw [dig_int a, dig_int b] at HR
      obtain ⟨va, hva⟩ : ∃ va : Nat, digV (a.toNat : Int) = (va : Int) := ⟨(digV (a.toNat : Int)).toNat, by have := digV_bd (a.toNat : Int); omega⟩
      obtain ⟨vb, hvb⟩ : ∃ vb : Nat, digV (b.toNat : Int) = (vb : Int) := ⟨(digV (b.toNat : Int)).toNat, by have := digV_bd (b.toNat : Int); omega⟩
      have hba : va ≤ 15 := by have := digV_bd (a.toNat : Int); omega
      have hbb : vb ≤ 15 := by have := digV_bd (b.toNat : Int); omega
      rw [hva] at HA HR
      rw [hvb] at HB HR
      clear hva hvb za0 za1 zb0 zb1
      cases ha : digO (a.toNat : Int) with
      | true =>
        rw [ha] at HA HR
        cases hb : digO (b.toNat : Int) with
        | true =>
          rw [hb] at HB HR
          have HV := hid (show R = (va : Int) * 16 + (vb : Int) from by rw [HR.out]; simp only [if_true]; rw [if_pos ⟨trivial, by omega, by omega⟩])
          have HV2 := hid (show RN = va * 16 + vb from by rw [HCN.out, HV.out, if_neg (by omega)]; omega)
          have HV3 := hid (show RO = true from by rw [HCO.out, HV.out]; exact decide_eq_true (by omega))
          have hor := or_two va vb hba hbb
          clear ha hb
          go_enter Tryd.func63, Tryd.ntmps63
          go_wp2_with (first
            | (go_at_call 81; (with_reducible refine (HA.out _).mono ?_); rintro e w1 ⟨rfl, rfl⟩)
            | (go_at_call 81; (with_reducible refine (HB.out _).mono ?_); rintro e w1 ⟨rfl, rfl⟩))
          go_ret2
          rw [HV2.out, HV3.out]
          exact ⟨rfl, rfl⟩
        | false =>
          rw [hb] at HB HR
          have HV := hid (show R = -1 from by rw [HR.out]; simp)
          have HV2 := hid (show RN = 0 from by rw [HCN.out, HV.out]; rfl)
          have HV3 := hid (show RO = false from by rw [HCO.out, HV.out]; rfl)
          clear ha hb
          go_enter Tryd.func63, Tryd.ntmps63
          go_wp2_with (first
            | (go_at_call 81; (with_reducible refine (HA.out _).mono ?_); rintro e w1 ⟨rfl, rfl⟩)
            | (go_at_call 81; (with_reducible refine (HB.out _).mono ?_); rintro e w1 ⟨rfl, rfl⟩))
          go_ret2
          rw [HV2.out, HV3.out]
          exact ⟨rfl, rfl⟩
      | false =>
        rw [ha] at HA HR
        have HV := hid (show R = -1 from by rw [HR.out]; simp)
        have HV2 := hid (show RN = 0 from by rw [HCN.out, HV.out]; rfl)
        have HV3 := hid (show RO = false from by rw [HCO.out, HV.out]; rfl)
        clear ha
        go_enter Tryd.func63, Tryd.ntmps63
        go_wp2_with (go_at_call 81; (with_reducible refine (HA.out _).mono ?_); rintro e w1 ⟨rfl, rfl⟩)
        go_ret2
        rw [HV2.out, HV3.out]
        exact ⟨rfl, rfl⟩
    · have HV := hid (show R = -1 from by rw [HR.out, if_neg (fun q => q37 q.1)])
      have HV2 := hid (show RN = 0 from by rw [HCN.out, HV.out]; rfl)
      have HV3 := hid (show RO = false from by rw [HCO.out, HV.out]; rfl)
      have z1 : ¬ (c.toNat : Int) = 37 := fun e => q37 (UInt8.toNat_inj.1 (by show c.toNat = 37; omega))
      have z2 : ((c.toNat : Int) == 37) = false := by simpa using z1
      have z3 : ((c.toNat : Int) != 37) = true := by simpa using z1
      clear q37
      go_enter Tryd.func63, Tryd.ntmps63
      go_wp2
      go_ret2
      rw [HV2.out, HV3.out]
      exact ⟨rfl, rfl⟩
  · have HV := hid (show codeI s = -1 from codeI_short (by rw [hn]; omega))
    have HV2 := hid (show codeN s = 0 from by unfold codeN; rw [HV.out]; rfl)
    have HV3 := hid (show codeO s = false from by unfold codeO; rw [HV.out]; rfl)
    rw [hS, HV2.out, HV3.out]
    rw [hn] at hs
    clear hn hS
    have z1 : (n : Int) < 3 := by omega
    go_enter Tryd.func63, Tryd.ntmps63
    go_wp2
    go_ret2
    exact ⟨rfl, rfl⟩
end Go.Proofs.YtbdbmlklijmefaaDoor
