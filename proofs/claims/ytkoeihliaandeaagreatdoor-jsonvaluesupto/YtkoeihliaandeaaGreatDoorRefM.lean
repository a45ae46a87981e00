/- The document's reading: a number's text, state by state. -/
import Derived.Test.YtkoeihliaandeaaGreatDoorRefL
namespace Go.Proofs.YtkoeihliaandeaaGreatDoor
open Go.RowKit

set_option maxRecDepth 20000 in
set_option maxHeartbeats 20000000 in
theorem rnumber_any (s : ByteArray) (p : Nat) (hp : p ≤ s.size) (hs : s.size ≤ 140737488355328) (w : World) : Calls Tryz.prog 37 #[.agg #[.string s, .int .i64 (p : Int), .int .i64 0]] w fun e w' => ToldNr s p (number (s.data.toList.drop p)) w e w' := by
  rw [number_run]
  obtain ⟨N, hN⟩ : ∃ N, nrun 64 0 (s.data.toList.drop p) = N := ⟨_, rfl⟩
  rw [hN]
  have HN := hid hN
  obtain ⟨W0, hW0⟩ : ∃ W0, W0 = ((w.alloc (.cells #[.string s, .int .i64 (p : Int), .int .i64 0] 49 (0, 0))).alloc (.cells #[.string ⟨#[]⟩, .int .i64 0, .int .i64 0] 49 (0, 0))).alloc (.cells #[.int .i64 0, .bool false, .string ⟨#[]⟩, .int .i64 0, .bool false, .slice none 0 0, .slice none 0 0] 25 (0, 0)) := ⟨_, rfl⟩
  have HW0 := hid hW0
  have HR0 := hid (show RNW w W0 s (p : Int) from by obtain ⟨a, b, c, d⟩ := three_at hW0; exact ⟨a, b, c, d⟩)
  clear hW0 hN
  go_enter Tryz.func37, Tryz.ntmps37
  go_wp2
  go_loopg [5] 65 (fun gk s5 wr => ∃ (P q : Nat), p ≤ P ∧ P ≤ s.size ∧ P - p ≤ 64 ∧ gk = 64 - (P - p) + 1 ∧ q ≤ 8 ∧ s5 = .int .i64 (q : Int) ∧ (P = p → q = 0) ∧ nrun (64 - (P - p)) q (s.data.toList.drop P) = N ∧ RNW w wr s (P : Int))
  case atStart => exact ⟨p, 0, by omega, hp, by omega, by omega, by omega, rfl, fun _ => rfl, by rw [Nat.sub_self]; exact HN.out, by rw [← HW0.out]; exact HR0.out⟩
  case round =>
    obtain ⟨P, q, h1, h2, h3, rfl, h4, rfl, h5, hrun, hR⟩ := hrel
    have HRun := hid hrun
    have HR := hid hR
    have HP5 := hid h5
    obtain ⟨x0, x1, x2, _⟩ := three hR.r
    obtain ⟨X, hX⟩ : ∃ X : Nat, (nx (s.data.toList.drop P)).toNat = X := ⟨_, rfl⟩
    have HX := hid hX
    have HXl := hid (show X < 256 from by rw [← hX]; exact UInt8.toNat_lt _)
    clear hrun hR hX h5
    go_upto_block 2 with (go_at_call 33; (with_reducible refine (rnext_any s P 0 h2 _).mono ?_); rintro e w1 ⟨rfl, hb⟩; rw [HX.out]; have HR1 := hid (HR.out.below hb); clear hb; obtain ⟨y0, y1, y2, yz⟩ := three HR1.out.r; have yz1 := yz 1; clear yz; obtain ⟨u0, u1, u2, uz⟩ := three HR1.out.o1; have uz0 := uz 0; have uz1 := uz 1; have uz2 := uz 2; clear uz; obtain ⟨v0, v1, v2, v3, v4, v5, v6, vz⟩ := seven HR1.out.o2; have vz0 := vz 0; have vz1 := vz 1; have vz2 := vz 2; have vz3 := vz 3; have vz4 := vz 4; have vz5 := vz 5; have vz6 := vz 6; clear vz)
    go_cut [7] from 10 to 115 (fun s7 wx => s7 = .int .i64 (tov q X) ∧ w1 = wx)
    case first =>
      clear x0 x1 x2 y0 y1 y2 yz1 u0 u1 u2 uz0 uz1 uz2 v0 v1 v2 v3 v4 v5 v6 vz0 vz1 vz2 vz3 vz4 vz5 vz6
      rcases (by omega : q = 0 ∨ q = 1 ∨ q = 2 ∨ q = 3 ∨ q = 4 ∨ q = 5 ∨ q = 6 ∨ q = 7 ∨ q = 8) with rfl | rfl | rfl | rfl | rfl | rfl | rfl | rfl | rfl
      · by_cases k45 : X = 45
        · have HSt := hid (show tov 0 X = 1 from tov_some (by unfold nstepN; (repeat' split) <;> first | rfl | (exfalso; omega)))
          subst k45
          have HDg := hid (show decide (48 ≤ 45 ∧ 45 ≤ 57) = false from rfl)
          go_wp2_with (go_at_call 59; refine (digit_any 45 _).mono ?_; rintro e wd ⟨rfl, hwd⟩; have hwd2 := hwd.symm; subst hwd2; clear hwd; rw [HDg.out])
          go_meet
          case rel => exact ⟨by rw [HSt.out], rfl⟩
        by_cases k48 : X = 48
        · have HSt := hid (show tov 0 X = 2 from tov_some (by unfold nstepN; (repeat' split) <;> first | rfl | (exfalso; omega)))
          subst k48
          have HDg := hid (show decide (48 ≤ 48 ∧ 48 ≤ 57) = true from rfl)
          clear k45
          go_wp2_with (go_at_call 59; refine (digit_any 48 _).mono ?_; rintro e wd ⟨rfl, hwd⟩; have hwd2 := hwd.symm; subst hwd2; clear hwd; rw [HDg.out])
          go_meet
          case rel => exact ⟨by rw [HSt.out], rfl⟩
        by_cases kd : 48 ≤ X ∧ X ≤ 57
        · have HSt := hid (show tov 0 X = 3 from tov_some (by unfold nstepN; (repeat' split) <;> first | rfl | (exfalso; omega)))
          have HDg := hid (show decide (48 ≤ X ∧ X ≤ 57) = true from decide_eq_true kd)
          have n43 : ((X : Int) == 43) = false := by simp only [beq_eq_false_iff_ne, ne_eq]; omega
          have n45 : ((X : Int) == 45) = false := by simp only [beq_eq_false_iff_ne, ne_eq]; omega
          have n46 : ((X : Int) == 46) = false := by simp only [beq_eq_false_iff_ne, ne_eq]; omega
          have n48 : ((X : Int) == 48) = false := by simp only [beq_eq_false_iff_ne, ne_eq]; omega
          have n69 : ((X : Int) == 69) = false := by simp only [beq_eq_false_iff_ne, ne_eq]; omega
          have n101 : ((X : Int) == 101) = false := by simp only [beq_eq_false_iff_ne, ne_eq]; omega
          clear k45 k48 kd
          go_wp2_with (go_at_call 59; refine (digit_any X _).mono ?_; rintro e wd ⟨rfl, hwd⟩; have hwd2 := hwd.symm; subst hwd2; clear hwd; rw [HDg.out])
          go_meet
          case rel => exact ⟨by rw [HSt.out], rfl⟩
        have HSt := hid (show tov 0 X = -1 from tov_none (by unfold nstepN; (repeat' split) <;> first | rfl | (exfalso; omega)))
        have HDg := hid (show decide (48 ≤ X ∧ X ≤ 57) = false from decide_eq_false kd)
        have n45 : ((X : Int) == 45) = false := by simp only [beq_eq_false_iff_ne, ne_eq]; omega
        have n48 : ((X : Int) == 48) = false := by simp only [beq_eq_false_iff_ne, ne_eq]; omega
        clear k45 k48 kd
        go_wp2_with (go_at_call 59; refine (digit_any X _).mono ?_; rintro e wd ⟨rfl, hwd⟩; have hwd2 := hwd.symm; subst hwd2; clear hwd; rw [HDg.out])
        go_meet
        case rel => exact ⟨by rw [HSt.out], rfl⟩
      · by_cases k48 : X = 48
        · have HSt := hid (show tov 1 X = 2 from tov_some (by unfold nstepN; (repeat' split) <;> first | rfl | (exfalso; omega)))
          subst k48
          have HDg := hid (show decide (48 ≤ 48 ∧ 48 ≤ 57) = true from rfl)
          go_wp2_with (go_at_call 59; refine (digit_any 48 _).mono ?_; rintro e wd ⟨rfl, hwd⟩; have hwd2 := hwd.symm; subst hwd2; clear hwd; rw [HDg.out])
          go_meet
          case rel => exact ⟨by rw [HSt.out], rfl⟩
        by_cases kd : 48 ≤ X ∧ X ≤ 57
        · have HSt := hid (show tov 1 X = 3 from tov_some (by unfold nstepN; (repeat' split) <;> first | rfl | (exfalso; omega)))
          have HDg := hid (show decide (48 ≤ X ∧ X ≤ 57) = true from decide_eq_true kd)
          have n43 : ((X : Int) == 43) = false := by simp only [beq_eq_false_iff_ne, ne_eq]; omega
          have n45 : ((X : Int) == 45) = false := by simp only [beq_eq_false_iff_ne, ne_eq]; omega
          have n46 : ((X : Int) == 46) = false := by simp only [beq_eq_false_iff_ne, ne_eq]; omega
          have n48 : ((X : Int) == 48) = false := by simp only [beq_eq_false_iff_ne, ne_eq]; omega
          have n69 : ((X : Int) == 69) = false := by simp only [beq_eq_false_iff_ne, ne_eq]; omega
          have n101 : ((X : Int) == 101) = false := by simp only [beq_eq_false_iff_ne, ne_eq]; omega
          clear k48 kd
          go_wp2_with (go_at_call 59; refine (digit_any X _).mono ?_; rintro e wd ⟨rfl, hwd⟩; have hwd2 := hwd.symm; subst hwd2; clear hwd; rw [HDg.out])
          go_meet
          case rel => exact ⟨by rw [HSt.out], rfl⟩
        have HSt := hid (show tov 1 X = -1 from tov_none (by unfold nstepN; (repeat' split) <;> first | rfl | (exfalso; omega)))
        have HDg := hid (show decide (48 ≤ X ∧ X ≤ 57) = false from decide_eq_false kd)
        have n48 : ((X : Int) == 48) = false := by simp only [beq_eq_false_iff_ne, ne_eq]; omega
        clear k48 kd
        go_wp2_with (go_at_call 59; refine (digit_any X _).mono ?_; rintro e wd ⟨rfl, hwd⟩; have hwd2 := hwd.symm; subst hwd2; clear hwd; rw [HDg.out])
        go_meet
        case rel => exact ⟨by rw [HSt.out], rfl⟩
      · by_cases k46 : X = 46
        · have HSt := hid (show tov 2 X = 4 from tov_some (by unfold nstepN; (repeat' split) <;> first | rfl | (exfalso; omega)))
          subst k46
          have HDg := hid (show decide (48 ≤ 46 ∧ 46 ≤ 57) = false from rfl)
          go_wp2_with (go_at_call 59; refine (digit_any 46 _).mono ?_; rintro e wd ⟨rfl, hwd⟩; have hwd2 := hwd.symm; subst hwd2; clear hwd; rw [HDg.out])
          go_meet
          case rel => exact ⟨by rw [HSt.out], rfl⟩
        by_cases k101 : X = 101
        · have HSt := hid (show tov 2 X = 6 from tov_some (by unfold nstepN; (repeat' split) <;> first | rfl | (exfalso; omega)))
          subst k101
          have HDg := hid (show decide (48 ≤ 101 ∧ 101 ≤ 57) = false from rfl)
          clear k46
          go_wp2_with (go_at_call 59; refine (digit_any 101 _).mono ?_; rintro e wd ⟨rfl, hwd⟩; have hwd2 := hwd.symm; subst hwd2; clear hwd; rw [HDg.out])
          go_meet
          case rel => exact ⟨by rw [HSt.out], rfl⟩
        by_cases k69 : X = 69
        · have HSt := hid (show tov 2 X = 6 from tov_some (by unfold nstepN; (repeat' split) <;> first | rfl | (exfalso; omega)))
          subst k69
          have HDg := hid (show decide (48 ≤ 69 ∧ 69 ≤ 57) = false from rfl)
          clear k46 k101
          go_wp2_with (go_at_call 59; refine (digit_any 69 _).mono ?_; rintro e wd ⟨rfl, hwd⟩; have hwd2 := hwd.symm; subst hwd2; clear hwd; rw [HDg.out])
          go_meet
          case rel => exact ⟨by rw [HSt.out], rfl⟩
        have HSt := hid (show tov 2 X = -1 from tov_none (by unfold nstepN; (repeat' split) <;> first | rfl | (exfalso; omega)))
        have n46 : ((X : Int) == 46) = false := by simp only [beq_eq_false_iff_ne, ne_eq]; omega
        have n101 : ((X : Int) == 101) = false := by simp only [beq_eq_false_iff_ne, ne_eq]; omega
        have n69 : ((X : Int) == 69) = false := by simp only [beq_eq_false_iff_ne, ne_eq]; omega
        clear k46 k101 k69
        go_wp2_with fail
        go_meet
        case rel => exact ⟨by rw [HSt.out], rfl⟩
      · by_cases kd : 48 ≤ X ∧ X ≤ 57
        · have HSt := hid (show tov 3 X = 3 from tov_some (by unfold nstepN; (repeat' split) <;> first | rfl | (exfalso; omega)))
          have HDg := hid (show decide (48 ≤ X ∧ X ≤ 57) = true from decide_eq_true kd)
          have n43 : ((X : Int) == 43) = false := by simp only [beq_eq_false_iff_ne, ne_eq]; omega
          have n45 : ((X : Int) == 45) = false := by simp only [beq_eq_false_iff_ne, ne_eq]; omega
          have n46 : ((X : Int) == 46) = false := by simp only [beq_eq_false_iff_ne, ne_eq]; omega
          have n69 : ((X : Int) == 69) = false := by simp only [beq_eq_false_iff_ne, ne_eq]; omega
          have n101 : ((X : Int) == 101) = false := by simp only [beq_eq_false_iff_ne, ne_eq]; omega
          clear kd
          go_wp2_with (go_at_call 59; refine (digit_any X _).mono ?_; rintro e wd ⟨rfl, hwd⟩; have hwd2 := hwd.symm; subst hwd2; clear hwd; rw [HDg.out])
          go_meet
          case rel => exact ⟨by rw [HSt.out], rfl⟩
        by_cases k46 : X = 46
        · have HSt := hid (show tov 3 X = 4 from tov_some (by unfold nstepN; (repeat' split) <;> first | rfl | (exfalso; omega)))
          subst k46
          have HDg := hid (show decide (48 ≤ 46 ∧ 46 ≤ 57) = false from rfl)
          clear kd
          go_wp2_with (go_at_call 59; refine (digit_any 46 _).mono ?_; rintro e wd ⟨rfl, hwd⟩; have hwd2 := hwd.symm; subst hwd2; clear hwd; rw [HDg.out])
          go_meet
          case rel => exact ⟨by rw [HSt.out], rfl⟩
        by_cases k101 : X = 101
        · have HSt := hid (show tov 3 X = 6 from tov_some (by unfold nstepN; (repeat' split) <;> first | rfl | (exfalso; omega)))
          subst k101
          have HDg := hid (show decide (48 ≤ 101 ∧ 101 ≤ 57) = false from rfl)
          clear kd k46
          go_wp2_with (go_at_call 59; refine (digit_any 101 _).mono ?_; rintro e wd ⟨rfl, hwd⟩; have hwd2 := hwd.symm; subst hwd2; clear hwd; rw [HDg.out])
          go_meet
          case rel => exact ⟨by rw [HSt.out], rfl⟩
        by_cases k69 : X = 69
        · have HSt := hid (show tov 3 X = 6 from tov_some (by unfold nstepN; (repeat' split) <;> first | rfl | (exfalso; omega)))
          subst k69
          have HDg := hid (show decide (48 ≤ 69 ∧ 69 ≤ 57) = false from rfl)
          clear kd k46 k101
          go_wp2_with (go_at_call 59; refine (digit_any 69 _).mono ?_; rintro e wd ⟨rfl, hwd⟩; have hwd2 := hwd.symm; subst hwd2; clear hwd; rw [HDg.out])
          go_meet
          case rel => exact ⟨by rw [HSt.out], rfl⟩
        have HSt := hid (show tov 3 X = -1 from tov_none (by unfold nstepN; (repeat' split) <;> first | rfl | (exfalso; omega)))
        have HDg := hid (show decide (48 ≤ X ∧ X ≤ 57) = false from decide_eq_false kd)
        have n46 : ((X : Int) == 46) = false := by simp only [beq_eq_false_iff_ne, ne_eq]; omega
        have n101 : ((X : Int) == 101) = false := by simp only [beq_eq_false_iff_ne, ne_eq]; omega
        have n69 : ((X : Int) == 69) = false := by simp only [beq_eq_false_iff_ne, ne_eq]; omega
        clear kd k46 k101 k69
        go_wp2_with (go_at_call 59; refine (digit_any X _).mono ?_; rintro e wd ⟨rfl, hwd⟩; have hwd2 := hwd.symm; subst hwd2; clear hwd; rw [HDg.out])
        go_meet
        case rel => exact ⟨by rw [HSt.out], rfl⟩
      · by_cases kd : 48 ≤ X ∧ X ≤ 57
        · have HSt := hid (show tov 4 X = 5 from tov_some (by unfold nstepN; (repeat' split) <;> first | rfl | (exfalso; omega)))
          have HDg := hid (show decide (48 ≤ X ∧ X ≤ 57) = true from decide_eq_true kd)
          have n43 : ((X : Int) == 43) = false := by simp only [beq_eq_false_iff_ne, ne_eq]; omega
          have n45 : ((X : Int) == 45) = false := by simp only [beq_eq_false_iff_ne, ne_eq]; omega
          have n46 : ((X : Int) == 46) = false := by simp only [beq_eq_false_iff_ne, ne_eq]; omega
          have n69 : ((X : Int) == 69) = false := by simp only [beq_eq_false_iff_ne, ne_eq]; omega
          have n101 : ((X : Int) == 101) = false := by simp only [beq_eq_false_iff_ne, ne_eq]; omega
          clear kd
          go_wp2_with (go_at_call 59; refine (digit_any X _).mono ?_; rintro e wd ⟨rfl, hwd⟩; have hwd2 := hwd.symm; subst hwd2; clear hwd; rw [HDg.out])
          go_meet
          case rel => exact ⟨by rw [HSt.out], rfl⟩
        have HSt := hid (show tov 4 X = -1 from tov_none (by unfold nstepN; (repeat' split) <;> first | rfl | (exfalso; omega)))
        have HDg := hid (show decide (48 ≤ X ∧ X ≤ 57) = false from decide_eq_false kd)
        clear kd
        go_wp2_with (go_at_call 59; refine (digit_any X _).mono ?_; rintro e wd ⟨rfl, hwd⟩; have hwd2 := hwd.symm; subst hwd2; clear hwd; rw [HDg.out])
        go_meet
        case rel => exact ⟨by rw [HSt.out], rfl⟩
      · by_cases kd : 48 ≤ X ∧ X ≤ 57
        · have HSt := hid (show tov 5 X = 5 from tov_some (by unfold nstepN; (repeat' split) <;> first | rfl | (exfalso; omega)))
          have HDg := hid (show decide (48 ≤ X ∧ X ≤ 57) = true from decide_eq_true kd)
          have n43 : ((X : Int) == 43) = false := by simp only [beq_eq_false_iff_ne, ne_eq]; omega
          have n45 : ((X : Int) == 45) = false := by simp only [beq_eq_false_iff_ne, ne_eq]; omega
          have n46 : ((X : Int) == 46) = false := by simp only [beq_eq_false_iff_ne, ne_eq]; omega
          have n69 : ((X : Int) == 69) = false := by simp only [beq_eq_false_iff_ne, ne_eq]; omega
          have n101 : ((X : Int) == 101) = false := by simp only [beq_eq_false_iff_ne, ne_eq]; omega
          clear kd
          go_wp2_with (go_at_call 59; refine (digit_any X _).mono ?_; rintro e wd ⟨rfl, hwd⟩; have hwd2 := hwd.symm; subst hwd2; clear hwd; rw [HDg.out])
          go_meet
          case rel => exact ⟨by rw [HSt.out], rfl⟩
        by_cases k101 : X = 101
        · have HSt := hid (show tov 5 X = 6 from tov_some (by unfold nstepN; (repeat' split) <;> first | rfl | (exfalso; omega)))
          subst k101
          have HDg := hid (show decide (48 ≤ 101 ∧ 101 ≤ 57) = false from rfl)
          clear kd
          go_wp2_with (go_at_call 59; refine (digit_any 101 _).mono ?_; rintro e wd ⟨rfl, hwd⟩; have hwd2 := hwd.symm; subst hwd2; clear hwd; rw [HDg.out])
          go_meet
          case rel => exact ⟨by rw [HSt.out], rfl⟩
        by_cases k69 : X = 69
        · have HSt := hid (show tov 5 X = 6 from tov_some (by unfold nstepN; (repeat' split) <;> first | rfl | (exfalso; omega)))
          subst k69
          have HDg := hid (show decide (48 ≤ 69 ∧ 69 ≤ 57) = false from rfl)
          clear kd k101
          go_wp2_with (go_at_call 59; refine (digit_any 69 _).mono ?_; rintro e wd ⟨rfl, hwd⟩; have hwd2 := hwd.symm; subst hwd2; clear hwd; rw [HDg.out])
          go_meet
          case rel => exact ⟨by rw [HSt.out], rfl⟩
        have HSt := hid (show tov 5 X = -1 from tov_none (by unfold nstepN; (repeat' split) <;> first | rfl | (exfalso; omega)))
        have HDg := hid (show decide (48 ≤ X ∧ X ≤ 57) = false from decide_eq_false kd)
        have n101 : ((X : Int) == 101) = false := by simp only [beq_eq_false_iff_ne, ne_eq]; omega
        have n69 : ((X : Int) == 69) = false := by simp only [beq_eq_false_iff_ne, ne_eq]; omega
        clear kd k101 k69
        go_wp2_with (go_at_call 59; refine (digit_any X _).mono ?_; rintro e wd ⟨rfl, hwd⟩; have hwd2 := hwd.symm; subst hwd2; clear hwd; rw [HDg.out])
        go_meet
        case rel => exact ⟨by rw [HSt.out], rfl⟩
      · by_cases k43 : X = 43
        · have HSt := hid (show tov 6 X = 7 from tov_some (by unfold nstepN; (repeat' split) <;> first | rfl | (exfalso; omega)))
          subst k43
          have HDg := hid (show decide (48 ≤ 43 ∧ 43 ≤ 57) = false from rfl)
          go_wp2_with (go_at_call 59; refine (digit_any 43 _).mono ?_; rintro e wd ⟨rfl, hwd⟩; have hwd2 := hwd.symm; subst hwd2; clear hwd; rw [HDg.out])
          go_meet
          case rel => exact ⟨by rw [HSt.out], rfl⟩
        by_cases k45 : X = 45
        · have HSt := hid (show tov 6 X = 7 from tov_some (by unfold nstepN; (repeat' split) <;> first | rfl | (exfalso; omega)))
          subst k45
          have HDg := hid (show decide (48 ≤ 45 ∧ 45 ≤ 57) = false from rfl)
          clear k43
          go_wp2_with (go_at_call 59; refine (digit_any 45 _).mono ?_; rintro e wd ⟨rfl, hwd⟩; have hwd2 := hwd.symm; subst hwd2; clear hwd; rw [HDg.out])
          go_meet
          case rel => exact ⟨by rw [HSt.out], rfl⟩
        by_cases kd : 48 ≤ X ∧ X ≤ 57
        · have HSt := hid (show tov 6 X = 8 from tov_some (by unfold nstepN; (repeat' split) <;> first | rfl | (exfalso; omega)))
          have HDg := hid (show decide (48 ≤ X ∧ X ≤ 57) = true from decide_eq_true kd)
          have n43 : ((X : Int) == 43) = false := by simp only [beq_eq_false_iff_ne, ne_eq]; omega
          have n45 : ((X : Int) == 45) = false := by simp only [beq_eq_false_iff_ne, ne_eq]; omega
          have n46 : ((X : Int) == 46) = false := by simp only [beq_eq_false_iff_ne, ne_eq]; omega
          have n69 : ((X : Int) == 69) = false := by simp only [beq_eq_false_iff_ne, ne_eq]; omega
          have n101 : ((X : Int) == 101) = false := by simp only [beq_eq_false_iff_ne, ne_eq]; omega
          clear k43 k45 kd
          go_wp2_with (go_at_call 59; refine (digit_any X _).mono ?_; rintro e wd ⟨rfl, hwd⟩; have hwd2 := hwd.symm; subst hwd2; clear hwd; rw [HDg.out])
          go_meet
          case rel => exact ⟨by rw [HSt.out], rfl⟩
        have HSt := hid (show tov 6 X = -1 from tov_none (by unfold nstepN; (repeat' split) <;> first | rfl | (exfalso; omega)))
        have HDg := hid (show decide (48 ≤ X ∧ X ≤ 57) = false from decide_eq_false kd)
        have n43 : ((X : Int) == 43) = false := by simp only [beq_eq_false_iff_ne, ne_eq]; omega
        have n45 : ((X : Int) == 45) = false := by simp only [beq_eq_false_iff_ne, ne_eq]; omega
        clear k43 k45 kd
        go_wp2_with (go_at_call 59; refine (digit_any X _).mono ?_; rintro e wd ⟨rfl, hwd⟩; have hwd2 := hwd.symm; subst hwd2; clear hwd; rw [HDg.out])
        go_meet
        case rel => exact ⟨by rw [HSt.out], rfl⟩
      · by_cases kd : 48 ≤ X ∧ X ≤ 57
        · have HSt := hid (show tov 7 X = 8 from tov_some (by unfold nstepN; (repeat' split) <;> first | rfl | (exfalso; omega)))
          have HDg := hid (show decide (48 ≤ X ∧ X ≤ 57) = true from decide_eq_true kd)
          have n43 : ((X : Int) == 43) = false := by simp only [beq_eq_false_iff_ne, ne_eq]; omega
          have n45 : ((X : Int) == 45) = false := by simp only [beq_eq_false_iff_ne, ne_eq]; omega
          have n46 : ((X : Int) == 46) = false := by simp only [beq_eq_false_iff_ne, ne_eq]; omega
          have n69 : ((X : Int) == 69) = false := by simp only [beq_eq_false_iff_ne, ne_eq]; omega
          have n101 : ((X : Int) == 101) = false := by simp only [beq_eq_false_iff_ne, ne_eq]; omega
          clear kd
          go_wp2_with (go_at_call 59; refine (digit_any X _).mono ?_; rintro e wd ⟨rfl, hwd⟩; have hwd2 := hwd.symm; subst hwd2; clear hwd; rw [HDg.out])
          go_meet
          case rel => exact ⟨by rw [HSt.out], rfl⟩
        have HSt := hid (show tov 7 X = -1 from tov_none (by unfold nstepN; (repeat' split) <;> first | rfl | (exfalso; omega)))
        have HDg := hid (show decide (48 ≤ X ∧ X ≤ 57) = false from decide_eq_false kd)
        clear kd
        go_wp2_with (go_at_call 59; refine (digit_any X _).mono ?_; rintro e wd ⟨rfl, hwd⟩; have hwd2 := hwd.symm; subst hwd2; clear hwd; rw [HDg.out])
        go_meet
        case rel => exact ⟨by rw [HSt.out], rfl⟩
      · by_cases kd : 48 ≤ X ∧ X ≤ 57
        · have HSt := hid (show tov 8 X = 8 from tov_some (by unfold nstepN; (repeat' split) <;> first | rfl | (exfalso; omega)))
          have HDg := hid (show decide (48 ≤ X ∧ X ≤ 57) = true from decide_eq_true kd)
          have n43 : ((X : Int) == 43) = false := by simp only [beq_eq_false_iff_ne, ne_eq]; omega
          have n45 : ((X : Int) == 45) = false := by simp only [beq_eq_false_iff_ne, ne_eq]; omega
          have n46 : ((X : Int) == 46) = false := by simp only [beq_eq_false_iff_ne, ne_eq]; omega
          have n69 : ((X : Int) == 69) = false := by simp only [beq_eq_false_iff_ne, ne_eq]; omega
          have n101 : ((X : Int) == 101) = false := by simp only [beq_eq_false_iff_ne, ne_eq]; omega
          clear kd
          go_wp2_with (go_at_call 59; refine (digit_any X _).mono ?_; rintro e wd ⟨rfl, hwd⟩; have hwd2 := hwd.symm; subst hwd2; clear hwd; rw [HDg.out])
          go_meet
          case rel => exact ⟨by rw [HSt.out], rfl⟩
        have HSt := hid (show tov 8 X = -1 from tov_none (by unfold nstepN; (repeat' split) <;> first | rfl | (exfalso; omega)))
        have HDg := hid (show decide (48 ≤ X ∧ X ≤ 57) = false from decide_eq_false kd)
        clear kd
        go_wp2_with (go_at_call 59; refine (digit_any X _).mono ?_; rintro e wd ⟨rfl, hwd⟩; have hwd2 := hwd.symm; subst hwd2; clear hwd; rw [HDg.out])
        go_meet
        case rel => exact ⟨by rw [HSt.out], rfl⟩
    case rest =>
      obtain ⟨rfl, rfl⟩ := hcut
      cases hst : nstepN q X with
      | none =>
        rw [tov_none hst]
        have HNr := hid (show N = .ok q (s.data.toList.drop P) from by rw [← HRun.out]; exact nrun_none _ (by rw [HX.out]; exact hst))
        clear hst
        by_cases za : q < 2
        · have HNe := hid (show numM N = .err 3 (s.data.toList.drop P) from by rw [HNr.out]; simp only [numM, nend]; rw [if_pos (by omega)])
          have b1 : (q : Int) < 2 := by omega
          clear za
          go_wp2_with (go_at_call 20; (with_reducible refine (rfail_any s (P : Int) (P : Int) 3 _).mono ?_); rintro e w2 ⟨rfl, hb⟩; have HR2 := hid (HR1.out.below hb); clear hb; obtain ⟨c0, c1, c2, cz⟩ := three HR2.out.o1; have cz0 := cz 0; have cz1 := cz 1; have cz2 := cz 2; clear cz; obtain ⟨d0, d1, d2, d3, d4, d5, d6, dz⟩ := seven HR2.out.o2; have dz0 := dz 0; have dz1 := dz 1; have dz2 := dz 2; have dz3 := dz 3; have dz4 := dz 4; have dz5 := dz 5; have dz6 := dz 6; clear dz)
          (try simp only [Exit.inBlock, Exit.then])
          refine bodyPost_ret (results_rdval rfl _ _ _ _ 49 25 _ _ (0, 0) (0, 0) rfl rfl (out_rv (has_three HR2.out.o1) (has_seven HR2.out.o2) (Nat.ne_of_lt (Nat.lt_succ_self _)) _ _ _ _ _ _ _ _ _ _).1 (out_rv (has_three HR2.out.o1) (has_seven HR2.out.o2) (Nat.ne_of_lt (Nat.lt_succ_self _)) _ _ _ _ _ _ _ _ _ _).2 rfl rfl) rfl ?_
          rw [HNe.out]
          exact ⟨P, h1, h2, rfl, rfl, HR2.out.out _ _ _ _ _ _ _ _ _ _⟩
        by_cases zb : q = 4
        · have HNe := hid (show numM N = .err 3 (s.data.toList.drop P) from by rw [HNr.out]; simp only [numM, nend]; rw [if_pos (by omega)])
          subst zb
          clear za
          go_wp2_with (go_at_call 20; (with_reducible refine (rfail_any s (P : Int) (P : Int) 3 _).mono ?_); rintro e w2 ⟨rfl, hb⟩; have HR2 := hid (HR1.out.below hb); clear hb; obtain ⟨c0, c1, c2, cz⟩ := three HR2.out.o1; have cz0 := cz 0; have cz1 := cz 1; have cz2 := cz 2; clear cz; obtain ⟨d0, d1, d2, d3, d4, d5, d6, dz⟩ := seven HR2.out.o2; have dz0 := dz 0; have dz1 := dz 1; have dz2 := dz 2; have dz3 := dz 3; have dz4 := dz 4; have dz5 := dz 5; have dz6 := dz 6; clear dz)
          (try simp only [Exit.inBlock, Exit.then])
          refine bodyPost_ret (results_rdval rfl _ _ _ _ 49 25 _ _ (0, 0) (0, 0) rfl rfl (out_rv (has_three HR2.out.o1) (has_seven HR2.out.o2) (Nat.ne_of_lt (Nat.lt_succ_self _)) _ _ _ _ _ _ _ _ _ _).1 (out_rv (has_three HR2.out.o1) (has_seven HR2.out.o2) (Nat.ne_of_lt (Nat.lt_succ_self _)) _ _ _ _ _ _ _ _ _ _).2 rfl rfl) rfl ?_
          rw [HNe.out]
          exact ⟨P, h1, h2, rfl, rfl, HR2.out.out _ _ _ _ _ _ _ _ _ _⟩
        by_cases zc : q = 6
        · have HNe := hid (show numM N = .err 3 (s.data.toList.drop P) from by rw [HNr.out]; simp only [numM, nend]; rw [if_pos (by omega)])
          subst zc
          clear za zb
          go_wp2_with (go_at_call 20; (with_reducible refine (rfail_any s (P : Int) (P : Int) 3 _).mono ?_); rintro e w2 ⟨rfl, hb⟩; have HR2 := hid (HR1.out.below hb); clear hb; obtain ⟨c0, c1, c2, cz⟩ := three HR2.out.o1; have cz0 := cz 0; have cz1 := cz 1; have cz2 := cz 2; clear cz; obtain ⟨d0, d1, d2, d3, d4, d5, d6, dz⟩ := seven HR2.out.o2; have dz0 := dz 0; have dz1 := dz 1; have dz2 := dz 2; have dz3 := dz 3; have dz4 := dz 4; have dz5 := dz 5; have dz6 := dz 6; clear dz)
          (try simp only [Exit.inBlock, Exit.then])
          refine bodyPost_ret (results_rdval rfl _ _ _ _ 49 25 _ _ (0, 0) (0, 0) rfl rfl (out_rv (has_three HR2.out.o1) (has_seven HR2.out.o2) (Nat.ne_of_lt (Nat.lt_succ_self _)) _ _ _ _ _ _ _ _ _ _).1 (out_rv (has_three HR2.out.o1) (has_seven HR2.out.o2) (Nat.ne_of_lt (Nat.lt_succ_self _)) _ _ _ _ _ _ _ _ _ _).2 rfl rfl) rfl ?_
          rw [HNe.out]
          exact ⟨P, h1, h2, rfl, rfl, HR2.out.out _ _ _ _ _ _ _ _ _ _⟩
        by_cases zd : q = 7
        · have HNe := hid (show numM N = .err 3 (s.data.toList.drop P) from by rw [HNr.out]; simp only [numM, nend]; rw [if_pos (by omega)])
          subst zd
          clear za zb zc
          go_wp2_with (go_at_call 20; (with_reducible refine (rfail_any s (P : Int) (P : Int) 3 _).mono ?_); rintro e w2 ⟨rfl, hb⟩; have HR2 := hid (HR1.out.below hb); clear hb; obtain ⟨c0, c1, c2, cz⟩ := three HR2.out.o1; have cz0 := cz 0; have cz1 := cz 1; have cz2 := cz 2; clear cz; obtain ⟨d0, d1, d2, d3, d4, d5, d6, dz⟩ := seven HR2.out.o2; have dz0 := dz 0; have dz1 := dz 1; have dz2 := dz 2; have dz3 := dz 3; have dz4 := dz 4; have dz5 := dz 5; have dz6 := dz 6; clear dz)
          (try simp only [Exit.inBlock, Exit.then])
          refine bodyPost_ret (results_rdval rfl _ _ _ _ 49 25 _ _ (0, 0) (0, 0) rfl rfl (out_rv (has_three HR2.out.o1) (has_seven HR2.out.o2) (Nat.ne_of_lt (Nat.lt_succ_self _)) _ _ _ _ _ _ _ _ _ _).1 (out_rv (has_three HR2.out.o1) (has_seven HR2.out.o2) (Nat.ne_of_lt (Nat.lt_succ_self _)) _ _ _ _ _ _ _ _ _ _).2 rfl rfl) rfl ?_
          rw [HNe.out]
          exact ⟨P, h1, h2, rfl, rfl, HR2.out.out _ _ _ _ _ _ _ _ _ _⟩
        have HNe := hid (show numM N = .ok () (s.data.toList.drop P) from by rw [HNr.out]; simp only [numM, nend]; rw [if_neg (by omega)])
        have b1 : ¬ (q : Int) < 2 := by omega
        have b4 : ((q : Int) == 4) = false := by simp only [beq_eq_false_iff_ne, ne_eq]; omega
        have b6 : ((q : Int) == 6) = false := by simp only [beq_eq_false_iff_ne, ne_eq]; omega
        have b7 : ((q : Int) == 7) = false := by simp only [beq_eq_false_iff_ne, ne_eq]; omega
        have hq0 : q ≠ 0 := by omega
        clear za zb zc zd
        go_wp2
        have hlt : p < P := by
          rcases Nat.lt_or_ge p P with h | h
          · exact h
          · exact absurd (HP5.out (by omega)) hq0
        have HEx0 := hid (show 0 < (s.extract p P).size from by show 0 < (s.extract p P).data.toList.length; rw [ext_list, List.length_take, List.length_drop]; have : s.data.toList.length = s.size := rfl; omega)
        have HExs := hid (show (s.extract p P).size ≤ 64 from by show (s.extract p P).data.toList.length ≤ 64; rw [ext_list, List.length_take]; omega)
        refine wp_region_noPanic ?_
        refine any_begin 10 (by kernel_rfl) (by kernel_rfl) ?_
        refine late_begin (fun U => U.heap[w.heap.size]? = some (.cells #[.string s, .int .i64 (P : Int), .int .i64 0] 49 (0, 0))) (fun _ => false) (HR1.out.below (below_drew (Below.refl _ _) 1)).r (fun hS => ?_)
        have HBV := hid (show Below w1.heap.size w1 w1.drew from below_drew (Below.refl _ _) 1)
        generalize w1.drew = V at hS HBV ⊢
        refine late_take (i := 0) (some 135) rfl rfl (by kernel_rfl) (by kernel_rfl) (by kernel_rfl) (by kernel_rfl) (by kernel_rfl) (fun _ _ _ h => h) (by rfl) (v := ?v0z) ?hy0z hS ?rest0z
        case hy0z => intro w0 hSw; obtain ⟨k0, k1, k2, _⟩ := three hSw; go_simp; try with_reducible rfl
        simp only [Act.put, List.setIfInBounds_toArray, List.set_cons_zero, List.set_cons_succ]
        refine late_take (i := 1) (some 136) rfl rfl (by kernel_rfl) (by kernel_rfl) (by kernel_rfl) (by kernel_rfl) (by kernel_rfl) (fun _ _ _ h => h) (by rfl) (v := ?v1z) ?hy1z hS ?rest1z
        case hy1z => intro w0 hSw; obtain ⟨k0, k1, k2, _⟩ := three hSw; go_simp; try with_reducible rfl
        simp only [Act.put, List.setIfInBounds_toArray, List.set_cons_zero, List.set_cons_succ]
        refine late_take (i := 2) (some 137) rfl rfl (by kernel_rfl) (by kernel_rfl) (by kernel_rfl) (by kernel_rfl) (by kernel_rfl) (fun _ _ _ h => h) (by rfl) (v := ?v2z) ?hy2z hS ?rest2z
        case hy2z => intro w0 hSw; obtain ⟨k0, k1, k2, _⟩ := three hSw; go_simp; try with_reducible rfl
        simp only [Act.put, List.setIfInBounds_toArray, List.set_cons_zero, List.set_cons_succ]
        refine late_take (i := 3) (some 138) rfl rfl (by kernel_rfl) (by kernel_rfl) (by kernel_rfl) (by kernel_rfl) (by kernel_rfl) (fun _ _ _ h => h) (by rfl) (v := ?v3z) ?hy3z hS ?rest3z
        case hy3z => intro w0 hSw; obtain ⟨k0, k1, k2, _⟩ := three hSw; go_simp; try with_reducible rfl
        simp only [Act.put, List.setIfInBounds_toArray, List.set_cons_zero, List.set_cons_succ]
        refine late_take (i := 4) (some 139) rfl rfl (by kernel_rfl) (by kernel_rfl) (by kernel_rfl) (by kernel_rfl) (by kernel_rfl) (fun _ _ _ h => h) (by rfl) (v := ?v4z) ?hy4z hS ?rest4z
        case hy4z => intro w0 hSw; obtain ⟨k0, k1, k2, _⟩ := three hSw; go_simp; try with_reducible rfl
        simp only [Act.put, List.setIfInBounds_toArray, List.set_cons_zero, List.set_cons_succ]
        refine late_take (i := 5) (some 140) rfl rfl (by kernel_rfl) (by kernel_rfl) (by kernel_rfl) (by kernel_rfl) (by kernel_rfl) (fun _ _ _ h => h) (by rfl) (v := ?v5z) ?hy5z hS ?rest5z
        case hy5z => intro w0 hSw; obtain ⟨k0, k1, k2, _⟩ := three hSw; go_simp; try with_reducible rfl
        simp only [Act.put, List.setIfInBounds_toArray, List.set_cons_zero, List.set_cons_succ]
        refine late_take (i := 6) (some 141) rfl rfl (by kernel_rfl) (by kernel_rfl) (by kernel_rfl) (by kernel_rfl) (by kernel_rfl) (fun _ _ _ h => h) (by rfl) (v := .string (s.extract p P)) ?hy6z hS ?rest6z
        case hy6z => intro w0 hSw; obtain ⟨k0, k1, k2, _⟩ := three hSw; go_simp; try with_reducible rfl
        simp only [Act.put, List.setIfInBounds_toArray, List.set_cons_zero, List.set_cons_succ]
        refine wpAnyD_one (i := 7) (by kernel_rfl) rfl (fun K hK => ?_)
        go_simp
        go_at_call 60
        refine (refNumber_any (s.extract p P) HEx0.out HExs.out V).mono ?_
        rintro e w2 ⟨rfl, hb⟩
        have HR2 := hid (HR1.out.below (HBV.out.trans (hb.mono HBV.out.size)))
        clear hb
        have hS2 := HR2.out.r
        refine hK _ _ ⟨fun _ => hS2, ?_⟩
        clear hK K
        replace hS := hS2
        clear hS2
        obtain ⟨c0, c1, c2, cz⟩ := three HR2.out.o1; have cz0 := cz 0; have cz1 := cz 1; have cz2 := cz 2; clear cz
        obtain ⟨d0, d1, d2, d3, d4, d5, d6, dz⟩ := seven HR2.out.o2; have dz0 := dz 0; have dz1 := dz 1; have dz2 := dz 2; have dz3 := dz 3; have dz4 := dz 4; have dz5 := dz 5; have dz6 := dz 6; clear dz
        refine wpAnyD_one (i := 8) (by kernel_rfl) rfl (fun K hK => ?_)
        go_simp
        have hS3 := (three_other (U := w2) (show w.heap.size ≠ w.heap.size + 1 by omega) (.string s) (.int .i64 (P : Int)) (.int .i64 0)).trans hS
        refine hK _ _ ⟨fun _ => hS3, ?_⟩
        clear hK K
        refine wpAnyD_one (i := 9) (by kernel_rfl) rfl (fun K hK => ?_)
        go_simp
        refine hK _ _ ⟨fun _ => (seven_other (show w.heap.size ≠ w.heap.size + 2 by omega) _ _ _ _ _ _ _).trans hS3, ?_⟩
        clear hK K hS3
        refine late_done (by kernel_rfl) ?_ _
        refine NoPanic.normal ?_
        clear hS
        go_wp2
        (try simp only [Exit.inBlock, Exit.then])
        refine bodyPost_ret (results_rdval rfl _ _ _ _ 49 25 _ _ (0, 0) (0, 0) rfl rfl (out_rv (has_three HR2.out.o1) (has_seven HR2.out.o2) (Nat.ne_of_lt (Nat.lt_succ_self _)) _ _ _ _ _ _ _ _ _ _).1 (out_rv (has_three HR2.out.o1) (has_seven HR2.out.o2) (Nat.ne_of_lt (Nat.lt_succ_self _)) _ _ _ _ _ _ _ _ _ _).2 rfl rfl) rfl ?_
        rw [HNe.out]
        exact ⟨P, hlt, h3, h2, rfl, rfl, HR2.out.out _ _ _ _ _ _ _ _ _ _⟩
      | some k =>
        rw [tov_some hst]
        have HSt := hid (show nstepN q (nx (s.data.toList.drop P)).toNat = some k from by rw [HX.out]; exact hst)
        have hk8 := nstep_le hst
        clear hst
        have kneg : ¬ (k : Int) < 0 := by omega
        obtain ⟨cc, tt, hl, hfull, hstep⟩ := nrun_some HSt.out
        have HL := hid (show s.data.toList.drop (P + 1) = tt from by rw [← List.drop_drop, hl]; rfl)
        have hPl : P < s.size := by
          have e : (s.data.toList.drop P).length = s.size - P := by rw [List.length_drop]; rfl
          rw [hl, List.length_cons] at e
          omega
        have HFull := hid hfull
        have HStp := hid (hstep (64 - (P - p) - 1))
        clear hl hfull hstep
        by_cases hmax : P - p = 64
        · have HNe := hid (show N = .err 3 (s.data.toList.drop P) from by rw [← HRun.out, hmax]; exact HFull.out)
          have m64 : (((P : Int) - (p : Int)) == 64) = true := by simp only [beq_iff_eq]; omega
          clear hmax
          go_wp2_with (go_at_call 20; (with_reducible refine (rfail_any s (P : Int) (P : Int) 3 _).mono ?_); rintro e w2 ⟨rfl, hb⟩; have HR2 := hid (HR1.out.below hb); clear hb; obtain ⟨c0, c1, c2, cz⟩ := three HR2.out.o1; have cz0 := cz 0; have cz1 := cz 1; have cz2 := cz 2; clear cz; obtain ⟨d0, d1, d2, d3, d4, d5, d6, dz⟩ := seven HR2.out.o2; have dz0 := dz 0; have dz1 := dz 1; have dz2 := dz 2; have dz3 := dz 3; have dz4 := dz 4; have dz5 := dz 5; have dz6 := dz 6; clear dz)
          (try simp only [Exit.inBlock, Exit.then])
          refine bodyPost_ret (results_rdval rfl _ _ _ _ 49 25 _ _ (0, 0) (0, 0) rfl rfl (out_rv (has_three HR2.out.o1) (has_seven HR2.out.o2) (Nat.ne_of_lt (Nat.lt_succ_self _)) _ _ _ _ _ _ _ _ _ _).1 (out_rv (has_three HR2.out.o1) (has_seven HR2.out.o2) (Nat.ne_of_lt (Nat.lt_succ_self _)) _ _ _ _ _ _ _ _ _ _).2 rfl rfl) rfl ?_
          rw [HNe.out]
          exact ⟨P, h1, h2, rfl, rfl, HR2.out.out _ _ _ _ _ _ _ _ _ _⟩
        · have HNn := hid (show nrun (64 - (P + 1 - p)) k (s.data.toList.drop (P + 1)) = N from by rw [← HRun.out, HL.out, show 64 - (P - p) = (64 - (P - p) - 1) + 1 by omega, HStp.out, show 64 - (P + 1 - p) = 64 - (P - p) - 1 by omega])
          have m64 : (((P : Int) - (p : Int)) == 64) = false := by simp only [beq_eq_false_iff_ne, ne_eq]; omega
          have hm2 : P - p < 64 := by omega
          clear hmax
          go_wp2
          go_roundg (64 - (P + 1 - p) + 1)
          case measure => omega
          case rel => exact ⟨P + 1, k, by omega, by omega, by omega, rfl, hk8, rfl, fun h => by omega, HNn.out, HR1.out.move _ _ (by push_cast; rfl)⟩
end Go.Proofs.YtkoeihliaandeaaGreatDoor
