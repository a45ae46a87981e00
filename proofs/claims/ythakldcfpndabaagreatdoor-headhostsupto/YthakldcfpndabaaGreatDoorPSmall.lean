/- The program's reader: its small functions. -/
import Derived.Test.YthakldcfpndabaaGreatDoorPMem
namespace Go.Proofs.YthakldcfpndabaaGreatDoor
open Go.RowKit

def verA : ByteArray := { data := #[72, 84, 84, 80, 47, 49, 46] }
theorem ver_byte (n : Nat) (h2 : n < ({ data := #[72, 84, 84, 80, 47, 49, 46] } : ByteArray).size) : ver0[n]? = some (({ data := #[72, 84, 84, 80, 47, 49, 46] } : ByteArray)[n]'h2) := by
  have h : n < 7 := h2
  have : n = 0 ∨ n = 1 ∨ n = 2 ∨ n = 3 ∨ n = 4 ∨ n = 5 ∨ n = 6 := by omega
  rcases this with rfl | rfl | rfl | rfl | rfl | rfl | rfl <;> rfl
theorem ver_at (n : Nat) (h : n < 7) (h2 : n < ({ data := #[72, 84, 84, 80, 47, 49, 46] } : ByteArray).size) (c : UInt8) : ((c.toNat : Int) == ((({ data := #[72, 84, 84, 80, 47, 49, 46] } : ByteArray)[n]'h2).toNat : Int)) = verAt n c := by
  unfold verAt
  rw [if_pos h, ver_byte n h2, Bool.eq_iff_iff, decide_eq_true_iff, beq_iff_eq]
  constructor
  · intro e
    congr 1
    exact UInt8.toNat_inj.1 (by omega)
  · intro e
    rw [Option.some.inj e]
set_option maxRecDepth 20000 in
set_option maxHeartbeats 4000000 in
theorem version_any (n : Nat) (c : UInt8) (hn : n ≤ 140737488355328) (w : World) : Calls Tryz.prog 82 #[.int .i64 (n : Int), byteV c] w fun e w' => e = .returned (.bool (verAt n c)) ∧ w' = w := by
  unfold byteV
  by_cases h7 : n < 7
  · obtain ⟨V, hV⟩ : ∃ V, verAt n c = V := ⟨_, rfl⟩
    have h72 : (n : Int) < 7 := by omega
    have hx : ∀ h2 : n < ({ data := #[72, 84, 84, 80, 47, 49, 46] } : ByteArray).size, ((c.toNat : Int) == ((({ data := #[72, 84, 84, 80, 47, 49, 46] } : ByteArray)[n]'h2).toNat : Int)) = V := fun h2 => by rw [← hV]; exact ver_at n h7 h2 c
    rw [hV]
    clear hV
    go_enter Tryz.func82, Tryz.ntmps82
    go_wp2
    go_ret
    exact ⟨rfl, rfl⟩
  · have h72 : ¬ (n : Int) < 7 := by omega
    by_cases h8 : n < 8
    · have h82 : (n : Int) < 8 := by omega
      obtain ⟨V, hV⟩ : ∃ V, verAt n c = V := ⟨_, rfl⟩
      have HV := hid hV
      rw [hV]
      clear hV
      by_cases h48 : c = 48
      · subst h48
        rw [show ((48 : UInt8).toNat : Int) = 48 from rfl]
        go_enter Tryz.func82, Tryz.ntmps82
        go_wp2
        go_ret
        exact ⟨ret_bool (by rw [← HV.out]; unfold verAt; rw [if_neg h7]; simp [h8]), rfl⟩
      · have e48 : ((c.toNat : Int) == 48) = false := by rw [beq_eq_false_iff_ne]; exact fun e => h48 (UInt8.toNat_inj.1 (by show c.toNat = 48; omega))
        by_cases h49 : c = 49
        · subst h49
          rw [show ((49 : UInt8).toNat : Int) = 49 from rfl]
          go_enter Tryz.func82, Tryz.ntmps82
          go_wp2
          go_ret
          exact ⟨ret_bool (by rw [← HV.out]; unfold verAt; rw [if_neg h7]; simp [h8]), rfl⟩
        · have e49 : ((c.toNat : Int) == 49) = false := by rw [beq_eq_false_iff_ne]; exact fun e => h49 (UInt8.toNat_inj.1 (by show c.toNat = 49; omega))
          go_enter Tryz.func82, Tryz.ntmps82
          go_wp2
          go_ret
          exact ⟨ret_bool (by rw [← HV.out]; unfold verAt; rw [if_neg h7]; simp [h8, h48, h49]), rfl⟩
    · have h82 : ¬ (n : Int) < 8 := by omega
      have hV : verAt n c = false := by unfold verAt; rw [if_neg h7]; simp [h8]
      rw [hV]
      go_enter Tryz.func82, Tryz.ntmps82
      go_wp2
      go_ret
      exact ⟨rfl, rfl⟩
set_option maxRecDepth 20000 in
set_option maxHeartbeats 4000000 in
theorem statusb_any (n : Nat) (c : UInt8) (hn : n ≤ 140737488355328) (w : World) : Calls Tryz.prog 83 #[.int .i64 (n : Int), byteV c] w fun e w' => e = .returned (.bool (staAt n c)) ∧ w' = w := by
  unfold byteV
  obtain ⟨V, hV⟩ : ∃ V, staAt n c = V := ⟨_, rfl⟩
  have HV := hid hV
  have HD := hid (fun w : World => digit_any (c.toNat : Int) w (by omega) (by have := c.toNat_lt; omega))
  rw [hV]
  clear hV
  by_cases h0 : n = 0
  · subst h0
    by_cases ha : 49 ≤ c.toNat
    · have ha2 : (49 : Int) ≤ (c.toNat : Int) := by omega
      by_cases hb : c.toNat ≤ 53
      · have hb2 : (c.toNat : Int) ≤ 53 := by omega
        go_enter Tryz.func83, Tryz.ntmps83
        go_wp2
        go_ret
        exact ⟨ret_bool (by rw [← HV.out]; unfold staAt; simp; omega), rfl⟩
      · have hb2 : ¬ (c.toNat : Int) ≤ 53 := by omega
        go_enter Tryz.func83, Tryz.ntmps83
        go_wp2
        go_ret
        exact ⟨ret_bool (by rw [← HV.out]; unfold staAt; simp; omega), rfl⟩
    · have ha2 : ¬ (49 : Int) ≤ (c.toNat : Int) := by omega
      go_enter Tryz.func83, Tryz.ntmps83
      go_wp2
      go_ret
      exact ⟨ret_bool (by rw [← HV.out]; unfold staAt; simp; omega), rfl⟩
  · have h02 : ((n : Int) == 0) = false := by rw [beq_eq_false_iff_ne]; omega
    by_cases h3 : n < 3
    · have h32 : (n : Int) < 3 := by omega
      have HE := hid (show digB (c.toNat : Int) = V from by rw [← HV.out]; unfold staAt; rw [if_neg h0]; simp [h3])
      rw [HE.out] at HD
      clear h0 h3
      go_enter Tryz.func83, Tryz.ntmps83
      go_wp2_with (go_at_call 41; (with_reducible refine (HD.out _).mono ?_); rintro e w1 ⟨rfl, hw1⟩; subst w1)
      go_ret
      exact ⟨rfl, rfl⟩
    · have h32 : ¬ (n : Int) < 3 := by omega
      have HE := hid (show false = V from by rw [← HV.out]; unfold staAt; rw [if_neg h0]; simp [h3])
      clear h0 h3
      go_enter Tryz.func83, Tryz.ntmps83
      go_wp2
      go_ret
      exact ⟨ret_bool HE.out, rfl⟩
set_option maxRecDepth 20000 in
set_option maxHeartbeats 4000000 in
theorem whole_any (g st : Nat) (w : World) (h4 : w.cell? ⟨g, 4, none⟩ = some (.int .i64 (st : Int))) : Calls Tryz.prog 54 #[.pointer (some ⟨g, 0, none⟩)] w fun e w' => e = .returned (.bool (decide (st = 11))) ∧ w' = w := by
  have HV := hid (show ((st : Int) == 11) = decide (st = 11) from by rw [Bool.eq_iff_iff]; simp; omega)
  go_enter Tryz.func54, Tryz.ntmps54
  go_wp2
  go_ret
  exact ⟨ret_bool HV.out, rfl⟩
set_option maxRecDepth 20000 in
set_option maxHeartbeats 4000000 in
theorem ended_any (g st er : Nat) (w : World) (h3 : w.cell? ⟨g, 3, none⟩ = some (errOf er)) (h4 : w.cell? ⟨g, 4, none⟩ = some (.int .i64 (st : Int))) : Calls Tryz.prog 66 #[.pointer (some ⟨g, 0, none⟩)] w fun e w' => e = .returned (.bool (decide (st = 11) || decide (er ≠ 0))) ∧ w' = w := by
  have HW := hid (whole_any g st w h4)
  by_cases he : er = 0
  · subst he
    rw [errOf_zero] at h3
    cases hd : decide (st = 11) with
    | true =>
      rw [hd] at HW
      go_enter Tryz.func66, Tryz.ntmps66
      go_wp2_with (go_at_call 54; (with_reducible refine HW.out.mono ?_); rintro e w1 ⟨rfl, hw1⟩; subst w1)
      go_ret
      exact ⟨rfl, rfl⟩
    | false =>
      rw [hd] at HW
      go_enter Tryz.func66, Tryz.ntmps66
      go_wp2_with (go_at_call 54; (with_reducible refine HW.out.mono ?_); rintro e w1 ⟨rfl, hw1⟩; subst w1)
      go_ret
      exact ⟨rfl, rfl⟩
  · rw [errOf_pos he] at h3
    have HE := hid he
    clear he
    cases hd : decide (st = 11) with
    | true =>
      rw [hd] at HW
      go_enter Tryz.func66, Tryz.ntmps66
      go_wp2_with (go_at_call 54; (with_reducible refine HW.out.mono ?_); rintro e w1 ⟨rfl, hw1⟩; subst w1)
      go_ret
      exact ⟨rfl, rfl⟩
    | false =>
      rw [hd] at HW
      go_enter Tryz.func66, Tryz.ntmps66
      go_wp2_with (go_at_call 54; (with_reducible refine HW.out.mono ?_); rintro e w1 ⟨rfl, hw1⟩; subst w1)
      go_ret
      exact ⟨ret_bool (by simp [HE.out]), rfl⟩
set_option maxRecDepth 20000 in
set_option maxHeartbeats 4000000 in
theorem fault_any (g st : Nat) (w : World) (h4 : w.cell? ⟨g, 4, none⟩ = some (.int .i64 (st : Int))) : Calls Tryz.prog 75 #[.pointer (some ⟨g, 0, none⟩)] w fun e w' => e = .returned (errOf (faultN st)) ∧ w' = w := by
  by_cases h6 : st ≤ 6
  · have h62 : (st : Int) ≤ 6 := by omega
    have HV := hid (show faultN st = 20 from by unfold faultN; rw [if_pos h6])
    go_enter Tryz.func75, Tryz.ntmps75
    go_wp2
    go_ret
    exact ⟨by rw [HV.out]; rfl, rfl⟩
  · have h62 : ¬ (st : Int) ≤ 6 := by omega
    have HV := hid (show faultN st = 21 from by unfold faultN; rw [if_neg h6])
    go_enter Tryz.func75, Tryz.ntmps75
    go_wp2
    go_ret
    exact ⟨by rw [HV.out]; rfl, rfl⟩
set_option maxRecDepth 20000 in
set_option maxHeartbeats 8000000 in
theorem spoil_any {F : Nat → Prop} {w : World} {g : Nat} {s : PS} (er : Nat) (her : er ≠ 0) (h : RdAt F w g s) : Calls Tryz.prog 73 #[.pointer (some ⟨g, 0, none⟩), errOf er] w fun e w' => e = .returned (.tuple #[]) ∧ Turned F w g (spoilP s.taken er) w' := by
  obtain ⟨p, f, hr, hf⟩ := h
  have hE := errOf_pos her
  have hb := hr.blk
  unfold rdCells at hb
  have HB := hid hb
  have HF := hid hf
  have HE := hid hE
  have HR := hid hr
  obtain ⟨k0, k1, k2, k3, k4, k5, k6, k7, k8, k9, k10, k11, k12, k13, kz⟩ := cells14 hb
  have z0 := kz 0
  have z1 := kz 1
  have z2 := kz 2
  have z3 := kz 3
  have z4 := kz 4
  have z5 := kz 5
  have z6 := kz 6
  have z7 := kz 7
  have z8 := kz 8
  have z9 := kz 9
  have z10 := kz 10
  have z11 := kz 11
  have z12 := kz 12
  have z13 := kz 13
  rw [hE]
  clear hE hr hf hb kz her
  go_enter Tryz.func73, Tryz.ntmps73
  go_wp2
  go_end0
  refine ⟨rfl, F, ⟨.slice none 0 0, .slice none 0 0, ⟨?_, Own.nil _ _, OwnF.nil _ _⟩, HF.out.g, fun k e => by simp [Value.ownBlock] at e, fun k e => by simp [Value.ownBlock] at e⟩, only14 HF.out.g _ _ _ _ _ _ _ _ _ _ _ _ _ _, fun k h => .inl h⟩
  rw [put14 HB.out]
  unfold rdCells spoilP
  dsimp only
  rw [HE.out]
  rfl
end Go.Proofs.YthakldcfpndabaaGreatDoor
