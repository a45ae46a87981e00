/- The document's constants and its first state. -/
import Derived.Test.YtojcaoieodogdaaDoorPrime
import Derived.Test.YtojcaoieodogdaaDoorCube
import Derived.Test.YtojcaoieodogdaaDoorWMine
namespace Go.Proofs.YtojcaoieodogdaaDoor
open Go.RowKit

set_option maxRecDepth 100000 in
theorem cubes : ∀ k : Fin 64, cubTo (primes[k.1]?.getD 0 : Nat) 36 % 4294967296 = kTab[k.1]?.getD 0 := by decide +kernel
set_option maxRecDepth 100000 in
theorem squares : ∀ k : Fin 8, sqTo (primes[k.1]?.getD 0 : Nat) 37 % 4294967296 = first8[k.1]?.getD 0 := by decide +kernel
theorem take_next (l : List Int) (k : Nat) (h : k < l.length) : l.take k ++ [l[k]?.getD 0] = l.take (k + 1) := by
  rw [List.take_succ_eq_append_getElem h]
  simp [h]
theorem kTab_len : kTab.length = 64 := rfl
set_option maxRecDepth 20000 in
set_option maxHeartbeats 2000000 in
theorem refConst_any (w : World) : Calls Tryd.prog 38 #[] w fun e w' => ∃ pa c, e = .returned (.slice pa 64 c) ∧ MineW w w' pa c kTab := by
  go_enter Tryd.func38, Tryd.ntmps38
  go_wp2
  go_loopw [1, 2] (fun s i W => ∃ (k c : Nat) (pa : Option Addr), k ≤ 64 ∧ s = .slice pa k c ∧ i = .int .i64 k ∧ Hid (MineW w W pa c (kTab.take k))) (fun _ i _ => 64 - (intOf i).toNat)
  case atStart => exact ⟨0, 0, none, Nat.zero_le _, rfl, rfl, mineW_nil w⟩
  case round =>
    obtain ⟨k, c, pa, hk, rfl, rfl, HM⟩ := hrel
    obtain ⟨V, hV⟩ : ∃ V, V = wr := ⟨_, rfl⟩
    rw [← hV] at HM ⊢
    clear hV
    by_cases hlt : k < 64
    · have hlt' : (k : Int) < 64 := by omega
      obtain ⟨p, hp⟩ : ∃ p, primes[k]?.getD 0 = p := ⟨_, rfl⟩
      obtain ⟨x, HX⟩ : ∃ x, Hid (cubTo p 36 % 4294967296 = x) := ⟨_, hid rfl⟩
      have HE : Hid (kTab[k]?.getD 0 = x) := by
        have := cubes ⟨k, hlt⟩
        simp only [hp] at this
        exact this.symm.trans HX.out
      have HL : Hid ((kTab.take k).length = k) := by show _ = _; rw [List.length_take, kTab_len]; omega
      have hk1 : k ≤ 1000 := by omega
      go_wp2_with (first
        | (go_at_call 51; (with_reducible refine (prime_any k p hlt hp _).mono ?_); rintro e w' ⟨rfl, rfl⟩)
        | (go_at_call 52; (with_reducible refine (cube_any p _).mono ?_); rintro e w' ⟨rfl, rfl⟩; rw [HX.out])
        | (refine wpList_append_word (w0 := w) rfl _ _ rfl pa k c rfl (kTab.take k) HL.out (HM.out.next (below_new _ _)) _ rfl x ((row_new _ _ _).cell 0) hk1 ?_; intro pa2 c2 W2 hm2; have HM2 := hid hm2; clear hm2))
      go_roundw
      case rel =>
        refine ⟨k + 1, c2, pa2, by omega, rfl, by go_num, ?_⟩
        rw [← take_next kTab k (by rw [kTab_len]; exact hlt), HE.out]
        exact HM2
      case measure => simp [intOf]; omega
    · have hlt' : ¬ (k : Int) < 64 := by omega
      obtain rfl : k = 64 := by omega
      go_wp2
      go_ret
      exact ⟨pa, c, rfl, HM.out⟩
set_option maxRecDepth 20000 in
set_option maxHeartbeats 2000000 in
theorem refFirst_any (w : World) : Calls Tryd.prog 37 #[] w fun e w' => ∃ pa c, e = .returned (.slice pa 8 c) ∧ MineW w w' pa c first8 := by
  go_enter Tryd.func37, Tryd.ntmps37
  go_wp2
  go_loopw [1, 2] (fun s i W => ∃ (k c : Nat) (pa : Option Addr), k ≤ 8 ∧ s = .slice pa k c ∧ i = .int .i64 k ∧ Hid (MineW w W pa c (first8.take k))) (fun _ i _ => 8 - (intOf i).toNat)
  case atStart => exact ⟨0, 0, none, Nat.zero_le _, rfl, rfl, mineW_nil w⟩
  case round =>
    obtain ⟨k, c, pa, hk, rfl, rfl, HM⟩ := hrel
    obtain ⟨V, hV⟩ : ∃ V, V = wr := ⟨_, rfl⟩
    rw [← hV] at HM ⊢
    clear hV
    by_cases hlt : k < 8
    · have hlt' : (k : Int) < 8 := by omega
      obtain ⟨p, hp⟩ : ∃ p, primes[k]?.getD 0 = p := ⟨_, rfl⟩
      obtain ⟨x, HX⟩ : ∃ x, Hid (sqTo p 37 % 4294967296 = x) := ⟨_, hid rfl⟩
      have HE : Hid (first8[k]?.getD 0 = x) := by
        have := squares ⟨k, hlt⟩
        simp only [hp] at this
        exact this.symm.trans HX.out
      have HL : Hid ((first8.take k).length = k) := by show _ = _; rw [List.length_take, show first8.length = 8 from rfl]; omega
      have hk1 : k ≤ 1000 := by omega
      have hk64 : k < 64 := by omega
      go_wp2_with (first
        | (go_at_call 51; (with_reducible refine (prime_any k p hk64 hp _).mono ?_); rintro e w' ⟨rfl, rfl⟩)
        | (go_at_call 50; (with_reducible refine (square_any p _).mono ?_); rintro e w' ⟨rfl, rfl⟩; rw [HX.out])
        | (refine wpList_append_word (w0 := w) rfl _ _ rfl pa k c rfl (first8.take k) HL.out (HM.out.next (below_new _ _)) _ rfl x ((row_new _ _ _).cell 0) hk1 ?_; intro pa2 c2 W2 hm2; have HM2 := hid hm2; clear hm2))
      go_roundw
      case rel =>
        refine ⟨k + 1, c2, pa2, by omega, rfl, by go_num, ?_⟩
        rw [← take_next first8 k (by rw [show first8.length = 8 from rfl]; exact hlt), HE.out]
        exact HM2
      case measure => simp [intOf]; omega
    · have hlt' : ¬ (k : Int) < 8 := by omega
      obtain rfl : k = 8 := by omega
      go_wp2
      go_ret
      exact ⟨pa, c, rfl, HM.out⟩
end Go.Proofs.YtojcaoieodogdaaDoor
