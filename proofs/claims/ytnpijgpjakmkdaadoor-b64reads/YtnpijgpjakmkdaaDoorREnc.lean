/- The document's text of bytes. -/
import Derived.Test.YtnpijgpjakmkdaaDoorBit
namespace Go.Proofs.YtnpijgpjakmkdaaDoor
open Go.RowKit

theorem textL_len (bs : List Int) : (textL bs).length = (8 * bs.length + 5) / 6 := by simp [textL, (enc_len bs).1]
theorem textL_at (bs : List Int) (h : Oct bs) (k : Nat) (hk : 6 * k < 8 * bs.length) : (textL bs).take (k + 1) = (textL bs).take k ++ [chr (part bs (6 * k) 6)] := by
  have := enc_part bs.length bs (Nat.le_refl _) h k hk
  rw [List.take_add_one]
  congr 1
  unfold textL
  rw [List.getElem?_map, this]
  rfl
theorem part_le (bs : List Int) (i t : Nat) (h : t ≤ 6) : 0 ≤ part bs i t ∧ part bs i t < 64 := by
  have := part_bd bs i
  have ht : t = 0 ∨ t = 1 ∨ t = 2 ∨ t = 3 ∨ t = 4 ∨ t = 5 ∨ t = 6 := by omega
  rcases ht with rfl | rfl | rfl | rfl | rfl | rfl | rfl <;> omega
set_option maxRecDepth 20000 in
set_option maxHeartbeats 2000000 in
theorem refEncode_core (p : Option Addr) (N c : Nat) (bs : List Int) (w : World) (hv : ArgAt w (.slice p N c) bs) (hN : bs.length = N) (ho : Oct bs) (hM : N ≤ 140737488355328) :
    Calls Tryd.prog 10 #[.slice p N c] w fun e w' => e = .returned (.string (strOfNums (textL bs))) ∧ Below w.heap.size w w' := by
  have HV := hid hv
  have HN := hid hN
  have HO := hid ho
  have hNb : (N : Int) ≤ 140737488355328 := by omega
  clear hv hN hM ho
  go_enter Tryd.func10, Tryd.ntmps10
  go_wp2
  go_loopw [3, 4] (fun v i W => ∃ (k c : Nat) (pa : Option Addr), 6 * k ≤ 8 * N + 5 ∧ v = .slice pa k c ∧ i = .int .i64 ((6 * k : Nat) : Int) ∧ Hid (((textL bs).take k).length = k) ∧ Hid (Mine w W pa c ((textL bs).take k))) (fun _ i _ => 8 * N + 6 - (intOf i).toNat)
  case atStart => exact ⟨0, 0, none, Nat.zero_le _, rfl, rfl, rfl, mine_nil w⟩
  case round =>
    obtain ⟨k, c', pa, hk, rfl, rfl, HK, HM⟩ := hrel
    obtain ⟨V, hV⟩ : ∃ V, V = wr := ⟨_, rfl⟩
    rw [← hV] at HM ⊢
    clear hV
    obtain ⟨I, hI⟩ : ∃ I, I = 6 * k := ⟨_, rfl⟩
    rw [← hI]
    have hIb : (I : Int) ≤ 1200000000000000 := by omega
    have HI := hid hI
    clear hI
    by_cases hlt : I < 8 * N
    · have hlt' : (I : Int) < 8 * N := by omega
      have HA := hid (HV.out.below HM.out.below)
      go_wp2
      go_loop [5, 6] (fun d j => ∃ (t : Nat) (D : Int), t ≤ 6 ∧ d = .int .i64 D ∧ j = .int .i64 t ∧ 0 ≤ D ∧ D < 64 ∧ Hid (part bs I t = D)) (fun _ j => 6 - (intOf j).toNat)
      case atStart => exact ⟨0, 0, by omega, rfl, rfl, by omega, by omega, rfl⟩
      case round =>
        obtain ⟨t, D, ht, rfl, rfl, hD0, hD1, HD⟩ := hrel
        by_cases hlt6 : t < 6
        · have hlt6' : (t : Int) < 6 := by omega
          have HL : Hid (I + t ≤ 1200000000000000) := by show _ ≤ _; omega
          have hz := bitAt_bd bs (I + t)
          obtain ⟨z, HZ⟩ : ∃ z, Hid (bitAt bs (I + t) = z) := ⟨_, hid rfl⟩
          rw [HZ.out] at hz
          obtain ⟨hz0, hz1⟩ := hz
          go_wp2_with (go_at_call 16; (with_reducible refine (bit_sum p N c bs _ HA.out HN.out HO.out I t HL.out).mono ?_); rintro e w' ⟨rfl, rfl⟩; rw [HZ.out])
          go_round
          case rel =>
            have hp := part_le bs I (t + 1) (by omega)
            have e : part bs I (t + 1) = 2 * D + z := by rw [← HD.out, ← HZ.out]; rfl
            rw [e] at hp
            exact ⟨t + 1, _, by omega, rfl, by go_num, hp.1, hp.2, e⟩
          case measure => simp [intOf]; omega
        · have hlt6' : ¬ (t : Int) < 6 := by omega
          have HT : Hid (t = 6) := by show _ = _; omega
          have hix := at_abcI .i64 D hD0 hD1
          unfold abc at hix
          obtain ⟨y, HY⟩ : ∃ y, Hid (chr D = y) := ⟨_, hid rfl⟩
          rw [HY.out] at hix
          have HKB : Hid (k ≤ 200000000000000) := by show _ ≤ _; have := HI.out; omega
          go_wp2_with (refine wpList_append_byte (w0 := w) rfl _ _ rfl pa k c' rfl _ HK.out (HM.out.next (below_new _ _)) _ rfl y (one_arg _ _) HKB.out ?_; intro p1 c1 W1 hm1; have M1 := hid hm1; clear hm1)
          go_roundw
          case rel =>
            have e : (textL bs).take (k + 1) = (textL bs).take k ++ [y] := by
              rw [textL_at bs HO.out k (by rw [HN.out, ← HI.out]; exact hlt), ← HI.out, ← HT.out, HD.out, HY.out]
            refine ⟨k + 1, c1, p1, by have := HI.out; omega, rfl, by have := HI.out; go_num, ?_, ?_⟩
            · rw [e, List.length_append, HK.out]; rfl
            · rw [e]; exact M1
          case measure => simp [intOf]; omega
    · have hlt' : ¬ (I : Int) < 8 * N := by omega
      have e : (textL bs).take k = textL bs := List.take_of_length_le (by rw [textL_len, HN.out]; have := HI.out; omega)
      have hm := HM.out
      have ht := HK.out
      rw [e] at hm ht
      have hcv := hm.arg.conv
      rw [ht] at hcv
      have HB := hid hm.below
      clear hm ht e
      go_wp2
      go_ret
      exact ⟨rfl, HB.out⟩
theorem refEncode_any {w : World} {v : Value} {bs : List Int} (hv : ArgAt w v bs) (ho : Oct bs) (hM : bs.length ≤ 140737488355328) :
    Calls Tryd.prog 10 #[v] w fun e w' => e = .returned (.string (strOfNums (textL bs))) ∧ Below w.heap.size w w' := by
  obtain ⟨p, N, c, rfl, hN⟩ := hv.form
  exact refEncode_core p N c bs w hv hN ho (by omega)
end Go.Proofs.YtnpijgpjakmkdaaDoor
