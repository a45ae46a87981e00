/- The document's reading: four digits, the bytes of a number, what stands behind a backslash. -/
import Derived.Test.YtkoeihliaandeaaGreatDoorRefW
import Derived.Laws.BitsLemmas
namespace Go.Proofs.YtkoeihliaandeaaGreatDoor
open Go.RowKit

theorem four_ok : ∀ (k a : Nat) (l : B) (n : Nat) (u : B), four k a l = .ok n u → u = l.drop k ∧ k ≤ l.length ∧ n < (a + 1) * 16 ^ k
  | 0, a, l, n, u, h => by
    simp only [four, Res.ok.injEq] at h
    exact ⟨h.2.symm, Nat.zero_le _, by simp; omega⟩
  | k + 1, a, [], n, u, h => by simp [four] at h
  | k + 1, a, c :: t, n, u, h => by
    cases hv : hexv c with
    | none => rw [four_bad hv] at h; cases h
    | some v =>
      rw [four_step hv] at h
      obtain ⟨h1, h2, h3⟩ := four_ok k _ t n u h
      refine ⟨by simpa using h1, by simp; omega, Nat.lt_of_lt_of_le h3 ?_⟩
      have := hexv_lt hv
      rw [Nat.pow_succ, Nat.mul_comm (16 ^ k) 16, ← Nat.mul_assoc]
      exact Nat.mul_le_mul_right _ (by omega)
theorem fourR_in {lo hi : Nat} : ∀ (k a : Nat) (l : B) (n : Nat) (u : B), fourR lo hi (k + 1) a l = .ok n u → lo ≤ n ∧ n ≤ hi
  | k, a, [], n, u, h => by simp [fourR] at h
  | k, a, c :: t, n, u, h => by
    cases hv : hexv c with
    | none => rw [fourR_bad hv] at h; cases h
    | some v =>
      rw [fourR_step hv] at h
      split at h
      · cases h
      · rename_i hb
        cases k with
        | zero =>
          simp only [fourR, Res.ok.injEq] at h
          simp only [Nat.pow_zero, Nat.mul_one] at hb
          omega
        | succ k => exact fourR_in k _ t n u h
theorem fourR_three {lo hi : Nat} : ∀ (k a : Nat) (l : B) (n : Nat) (u : B), fourR lo hi k a l = .err n u → n = 3
  | 0, a, l, n, u, h => by simp [fourR] at h
  | k + 1, a, [], n, u, h => by simp [fourR] at h; omega
  | k + 1, a, c :: t, n, u, h => by
    cases hv : hexv c with
    | none => rw [fourR_bad hv] at h; simp at h; omega
    | some v =>
      rw [fourR_step hv] at h
      split at h
      · simp at h; omega
      · exact fourR_three k _ t n u h
theorem word_three : ∀ (ws l : B) (n : Nat) (u : B), word ws l = .err n u → n = 3
  | [], l, n, u, h => by simp [word] at h
  | c :: ws, [], n, u, h => by simp [word] at h; omega
  | c :: ws, x :: t, n, u, h => by
    simp only [word] at h
    split at h
    · exact word_three ws t n u h
    · simp at h; omega
theorem fourR_none {lo hi k a : Nat} {l : B} (h : hexv (nx l) = none) : fourR lo hi (k + 1) a l = .err 3 l := by
  cases l with
  | nil => rfl
  | cons c t => exact fourR_bad h
theorem place_eq {s : ByteArray} {P Q : Nat} (hP : P ≤ s.size) (hQ : Q ≤ s.size) (h : s.data.toList.drop P = s.data.toList.drop Q) : P = Q := by
  have e := congrArg List.length h
  have hl : s.data.toList.length = s.size := rfl
  rw [List.length_drop, List.length_drop, hl] at e
  omega
theorem hexI_none {c : UInt8} (h : hexv c = none) : hexI c = -1 := by unfold hexI; rw [h]
theorem hexI_some {c : UInt8} {v : Nat} (h : hexv c = some v) : hexI c = (v : Int) := by unfold hexI; rw [h]
def ToldRf (s : ByteArray) (r : Res Nat) (w : World) (e : Ending) (w' : World) : Prop := match r with
  | .ok n u => ∃ P : Nat, P ≤ s.size ∧ s.data.toList.drop P = u ∧ e = .returned (.tuple #[.agg #[.string s, .int .i64 (P : Int), .int .i64 0], .int .i64 (n : Int)]) ∧ Below w.heap.size w w'
  | .err k u => ∃ P : Nat, P ≤ s.size ∧ s.data.toList.drop P = u ∧ e = .returned (.tuple #[.agg #[.string s, .int .i64 (P : Int), .int .i64 (k : Int)], .int .i64 0]) ∧ Below w.heap.size w w'
set_option maxRecDepth 20000 in
set_option maxHeartbeats 8000000 in
theorem rfour_any (s : ByteArray) (p : Nat) (z : Int) (hz : z = (p : Int)) (lo hi : Nat) (hp : p ≤ s.size) (hs : s.size ≤ 140737488355328) (w : World) : Calls Tryz.prog 78 #[.agg #[.string s, .int .i64 z, .int .i64 0], .int .i64 (lo : Int), .int .i64 (hi : Int)] w fun e w' => ToldRf s (fourR lo hi 4 0 (s.data.toList.drop p)) w e w' := by
  subst hz
  obtain ⟨T, hT⟩ : ∃ T, fourR lo hi 4 0 (s.data.toList.drop p) = T := ⟨_, rfl⟩
  rw [hT]
  have HT := hid hT
  obtain ⟨W0, hW0⟩ : ∃ W0, W0 = (w.alloc (.cells #[.string s, .int .i64 (p : Int), .int .i64 0] 49 (0, 0))).alloc (.cells #[.string ⟨#[]⟩, .int .i64 0, .int .i64 0] 49 (0, 0)) := ⟨_, rfl⟩
  have HW0 := hid hW0
  have HR0 := hid (RW2.start hW0)
  clear hW0 hT
  go_enter Tryz.func78, Tryz.ntmps78
  go_wp2
  go_loopg [8, 9] 5 (fun gk s8 s9 wr => ∃ (j n P : Nat) (y : Int), j ≤ 4 ∧ gk = j + 1 ∧ y = (j : Int) - 1 ∧ s8 = .int .i64 (n : Int) ∧ s9 = .int .i64 y ∧ n * 16 ^ j < 65536 ∧ P ≤ s.size ∧ fourR lo hi j n (s.data.toList.drop P) = T ∧ RW2 w wr s (P : Int) 0)
  case atStart => exact ⟨4, 0, p, 3, by omega, rfl, by omega, rfl, rfl, by omega, hp, HT.out, by rw [← HW0.out]; exact HR0.out⟩
  case round =>
    obtain ⟨j, n, P, y, hj, rfl, hy, rfl, rfl, hn, h2, hT, hR⟩ := hrel
    have HT2 := hid hT
    have HR := hid hR
    have HZ := hid h2
    obtain ⟨x0, x1, x2, xz⟩ := three hR.r
    have xz1 := xz 1
    obtain ⟨c, hc⟩ : ∃ c, nx (s.data.toList.drop P) = c := ⟨_, rfl⟩
    have HC := hid hc
    clear hT hR xz
    rcases (by omega : j = 0 ∨ j = 1 ∨ j = 2 ∨ j = 3 ∨ j = 4) with rfl | rfl | rfl | rfl | rfl
    · obtain rfl : y = -1 := by omega
      have HN := hid (show T = .ok n (s.data.toList.drop P) from HT2.out.symm)
      clear hy hn hc
      obtain ⟨y0, y1, y2, yz⟩ := three HR.out.o; have yz0 := yz 0; have yz1 := yz 1; have yz2 := yz 2; clear yz
      go_wp2
      (try simp only [Exit.inBlock, Exit.then])
      refine bodyPost_ret (results_rdtmp rfl _ _ _ 49 _ (0, 0) rfl (three_put (has_three HR.out.o) _ _ _) rfl) rfl ?_
      rw [HN.out]
      exact ⟨P, HZ.out, rfl, rfl, HR.out.out _ _ _⟩
    · obtain rfl : y = 0 := by omega
      clear hy
      cases hv : hexv c with
      | none =>
        have HN := hid (show T = .err 3 (s.data.toList.drop P) from by rw [← HT2.out]; exact fourR_none (by rw [hc]; exact hv))
        have HHx := hid (hexI_none hv)
        clear hv hc hn
        go_wp2_with (first
          | (go_at_call 33; (with_reducible refine (rnext_any s P 0 HZ.out _).mono ?_); rintro e w1 ⟨rfl, hb⟩; rw [HC.out]; have HR1 := hid (HR.out.below hb); clear hb; obtain ⟨z0, z1, z2, zz⟩ := three HR1.out.r; have zz0 := zz 0; have zz1 := zz 1; have zz2 := zz 2; clear zz)
          | (go_at_call 92; (with_reducible refine (hex_any c _).mono ?_); rintro e w2 ⟨rfl, hw2⟩; have hw3 := hw2.symm; subst hw3; clear hw2; rw [HHx.out])
          | (go_at_call 20; (with_reducible refine (rfail_any s (P : Int) (P : Int) 3 _).mono ?_); rintro e w3 ⟨rfl, hb⟩; have HR3 := hid (HR1.out.below hb); clear hb; obtain ⟨y0, y1, y2, yz⟩ := three HR3.out.o; have yz0 := yz 0; have yz1 := yz 1; have yz2 := yz 2; clear yz))
        (try simp only [Exit.inBlock, Exit.then])
        refine bodyPost_ret (results_rdtmp rfl _ _ _ 49 _ (0, 0) rfl (three_put (has_three HR3.out.o) _ _ _) rfl) rfl ?_
        rw [HN.out]
        exact ⟨P, HZ.out, rfl, rfl, HR3.out.out _ _ _⟩
      | some v =>
        have hv16 := hexv_lt hv
        have HHx := hid (hexI_some hv)
        obtain ⟨hPl, hd⟩ := drop_nx (s := s) (P := P) (fun e => by rw [hc] at e; rw [e] at hv; simp [hexv] at hv)
        have HStep := hid (show T = if (n * 16 + v) * 16 ^ 0 + 16 ^ 0 - 1 < lo ∨ hi < (n * 16 + v) * 16 ^ 0 then .err 3 (s.data.toList.drop P) else fourR lo hi 0 (n * 16 + v) (s.data.toList.drop (P + 1)) from by
          rw [← HT2.out, hd, hc]
          exact fourR_step hv)
        clear hv hc hd
        obtain ⟨m, hm⟩ : ∃ m : Nat, n * 16 + v = m := ⟨_, rfl⟩
        have hmb : m * 1 < 65536 := by simp at hn; omega
        have e1 : (n : Int) * 16 + (v : Int) = (m : Int) := by omega
        rw [hm] at HStep
        clear hn
        have w1e : IntKind.i64.wrap ((n : Int) * 16) = (n : Int) * 16 := by rw [IntKind.wrap_i64]; omega
        have hvn : ¬ (v : Int) < 0 := by omega
        by_cases hb : m * 1 + 1 - 1 < lo
        · have HN := hid (show T = .err 3 (s.data.toList.drop P) from by rw [HStep.out, if_pos (.inl (by simp; omega))])
          have b1 : (m : Int) < (lo : Int) := by omega
          clear hb
          go_wp2_with (first
            | (go_at_call 33; (with_reducible refine (rnext_any s P 0 HZ.out _).mono ?_); rintro e w1 ⟨rfl, hb⟩; rw [HC.out]; have HR1 := hid (HR.out.below hb); clear hb; obtain ⟨z0, z1, z2, zz⟩ := three HR1.out.r; have zz0 := zz 0; have zz1 := zz 1; have zz2 := zz 2; clear zz)
            | (go_at_call 92; (with_reducible refine (hex_any c _).mono ?_); rintro e w2 ⟨rfl, hw2⟩; have hw3 := hw2.symm; subst hw3; clear hw2; rw [HHx.out])
            | (go_at_call 20; (with_reducible refine (rfail_any s (P : Int) (P : Int) 3 _).mono ?_); rintro e w3 ⟨rfl, hb⟩; have HR3 := hid (HR1.out.below hb); clear hb; obtain ⟨y0, y1, y2, yz⟩ := three HR3.out.o; have yz0 := yz 0; have yz1 := yz 1; have yz2 := yz 2; clear yz))
          (try simp only [Exit.inBlock, Exit.then])
          refine bodyPost_ret (results_rdtmp rfl _ _ _ 49 _ (0, 0) rfl (three_put (has_three HR3.out.o) _ _ _) rfl) rfl ?_
          rw [HN.out]
          exact ⟨P, HZ.out, rfl, rfl, HR3.out.out _ _ _⟩
        have b1 : ¬ (m : Int) < (lo : Int) := by omega
        by_cases hb2 : hi < m * 1
        · have HN := hid (show T = .err 3 (s.data.toList.drop P) from by rw [HStep.out, if_pos (.inr (by simp; omega))])
          have b2 : (hi : Int) < (m : Int) := by omega
          clear hb hb2
          go_wp2_with (first
            | (go_at_call 33; (with_reducible refine (rnext_any s P 0 HZ.out _).mono ?_); rintro e w1 ⟨rfl, hb⟩; rw [HC.out]; have HR1 := hid (HR.out.below hb); clear hb; obtain ⟨z0, z1, z2, zz⟩ := three HR1.out.r; have zz0 := zz 0; have zz1 := zz 1; have zz2 := zz 2; clear zz)
            | (go_at_call 92; (with_reducible refine (hex_any c _).mono ?_); rintro e w2 ⟨rfl, hw2⟩; have hw3 := hw2.symm; subst hw3; clear hw2; rw [HHx.out])
            | (go_at_call 20; (with_reducible refine (rfail_any s (P : Int) (P : Int) 3 _).mono ?_); rintro e w3 ⟨rfl, hb⟩; have HR3 := hid (HR1.out.below hb); clear hb; obtain ⟨y0, y1, y2, yz⟩ := three HR3.out.o; have yz0 := yz 0; have yz1 := yz 1; have yz2 := yz 2; clear yz))
          (try simp only [Exit.inBlock, Exit.then])
          refine bodyPost_ret (results_rdtmp rfl _ _ _ 49 _ (0, 0) rfl (three_put (has_three HR3.out.o) _ _ _) rfl) rfl ?_
          rw [HN.out]
          exact ⟨P, HZ.out, rfl, rfl, HR3.out.out _ _ _⟩
        have b2 : ¬ (hi : Int) < (m : Int) := by omega
        have HN := hid (show fourR lo hi 0 m (s.data.toList.drop (P + 1)) = T from by rw [HStep.out, if_neg (by simp; omega)])
        clear hb hb2
        go_wp2_with (first
          | (go_at_call 33; (with_reducible refine (rnext_any s P 0 HZ.out _).mono ?_); rintro e w1 ⟨rfl, hb⟩; rw [HC.out]; have HR1 := hid (HR.out.below hb); clear hb; obtain ⟨z0, z1, z2, zz⟩ := three HR1.out.r; have zz0 := zz 0; have zz1 := zz 1; have zz2 := zz 2; clear zz)
          | (go_at_call 92; (with_reducible refine (hex_any c _).mono ?_); rintro e w2 ⟨rfl, hw2⟩; have hw3 := hw2.symm; subst hw3; clear hw2; rw [HHx.out]))
        go_roundg 1
        case measure => omega
        case rel => exact ⟨0, m, P + 1, -1, by omega, rfl, by omega, rfl, rfl, by simp; omega, by omega, HN.out, HR1.out.move _ _ (by push_cast; rfl)⟩
    · obtain rfl : y = 1 := by omega
      clear hy
      cases hv : hexv c with
      | none =>
        have HN := hid (show T = .err 3 (s.data.toList.drop P) from by rw [← HT2.out]; exact fourR_none (by rw [hc]; exact hv))
        have HHx := hid (hexI_none hv)
        clear hv hc hn
        go_wp2_with (first
          | (go_at_call 33; (with_reducible refine (rnext_any s P 0 HZ.out _).mono ?_); rintro e w1 ⟨rfl, hb⟩; rw [HC.out]; have HR1 := hid (HR.out.below hb); clear hb; obtain ⟨z0, z1, z2, zz⟩ := three HR1.out.r; have zz0 := zz 0; have zz1 := zz 1; have zz2 := zz 2; clear zz)
          | (go_at_call 92; (with_reducible refine (hex_any c _).mono ?_); rintro e w2 ⟨rfl, hw2⟩; have hw3 := hw2.symm; subst hw3; clear hw2; rw [HHx.out])
          | (go_at_call 20; (with_reducible refine (rfail_any s (P : Int) (P : Int) 3 _).mono ?_); rintro e w3 ⟨rfl, hb⟩; have HR3 := hid (HR1.out.below hb); clear hb; obtain ⟨y0, y1, y2, yz⟩ := three HR3.out.o; have yz0 := yz 0; have yz1 := yz 1; have yz2 := yz 2; clear yz))
        (try simp only [Exit.inBlock, Exit.then])
        refine bodyPost_ret (results_rdtmp rfl _ _ _ 49 _ (0, 0) rfl (three_put (has_three HR3.out.o) _ _ _) rfl) rfl ?_
        rw [HN.out]
        exact ⟨P, HZ.out, rfl, rfl, HR3.out.out _ _ _⟩
      | some v =>
        have hv16 := hexv_lt hv
        have HHx := hid (hexI_some hv)
        obtain ⟨hPl, hd⟩ := drop_nx (s := s) (P := P) (fun e => by rw [hc] at e; rw [e] at hv; simp [hexv] at hv)
        have HStep := hid (show T = if (n * 16 + v) * 16 ^ 1 + 16 ^ 1 - 1 < lo ∨ hi < (n * 16 + v) * 16 ^ 1 then .err 3 (s.data.toList.drop P) else fourR lo hi 1 (n * 16 + v) (s.data.toList.drop (P + 1)) from by
          rw [← HT2.out, hd, hc]
          exact fourR_step hv)
        clear hv hc hd
        obtain ⟨m, hm⟩ : ∃ m : Nat, n * 16 + v = m := ⟨_, rfl⟩
        have hmb : m * 16 < 65536 := by simp at hn; omega
        have e1 : (n : Int) * 16 + (v : Int) = (m : Int) := by omega
        rw [hm] at HStep
        clear hn
        have w1e : IntKind.i64.wrap ((n : Int) * 16) = (n : Int) * 16 := by rw [IntKind.wrap_i64]; omega
        have hvn : ¬ (v : Int) < 0 := by omega
        by_cases hb : m * 16 + 16 - 1 < lo
        · have HN := hid (show T = .err 3 (s.data.toList.drop P) from by rw [HStep.out, if_pos (.inl (by simp; omega))])
          have b1 : (m : Int) * 16 + 16 - 1 < (lo : Int) := by omega
          clear hb
          go_wp2_with (first
            | (go_at_call 33; (with_reducible refine (rnext_any s P 0 HZ.out _).mono ?_); rintro e w1 ⟨rfl, hb⟩; rw [HC.out]; have HR1 := hid (HR.out.below hb); clear hb; obtain ⟨z0, z1, z2, zz⟩ := three HR1.out.r; have zz0 := zz 0; have zz1 := zz 1; have zz2 := zz 2; clear zz)
            | (go_at_call 92; (with_reducible refine (hex_any c _).mono ?_); rintro e w2 ⟨rfl, hw2⟩; have hw3 := hw2.symm; subst hw3; clear hw2; rw [HHx.out])
            | (go_at_call 20; (with_reducible refine (rfail_any s (P : Int) (P : Int) 3 _).mono ?_); rintro e w3 ⟨rfl, hb⟩; have HR3 := hid (HR1.out.below hb); clear hb; obtain ⟨y0, y1, y2, yz⟩ := three HR3.out.o; have yz0 := yz 0; have yz1 := yz 1; have yz2 := yz 2; clear yz))
          (try simp only [Exit.inBlock, Exit.then])
          refine bodyPost_ret (results_rdtmp rfl _ _ _ 49 _ (0, 0) rfl (three_put (has_three HR3.out.o) _ _ _) rfl) rfl ?_
          rw [HN.out]
          exact ⟨P, HZ.out, rfl, rfl, HR3.out.out _ _ _⟩
        have b1 : ¬ (m : Int) * 16 + 16 - 1 < (lo : Int) := by omega
        by_cases hb2 : hi < m * 16
        · have HN := hid (show T = .err 3 (s.data.toList.drop P) from by rw [HStep.out, if_pos (.inr (by simp; omega))])
          have b2 : (hi : Int) < (m : Int) * 16 := by omega
          clear hb hb2
          go_wp2_with (first
            | (go_at_call 33; (with_reducible refine (rnext_any s P 0 HZ.out _).mono ?_); rintro e w1 ⟨rfl, hb⟩; rw [HC.out]; have HR1 := hid (HR.out.below hb); clear hb; obtain ⟨z0, z1, z2, zz⟩ := three HR1.out.r; have zz0 := zz 0; have zz1 := zz 1; have zz2 := zz 2; clear zz)
            | (go_at_call 92; (with_reducible refine (hex_any c _).mono ?_); rintro e w2 ⟨rfl, hw2⟩; have hw3 := hw2.symm; subst hw3; clear hw2; rw [HHx.out])
            | (go_at_call 20; (with_reducible refine (rfail_any s (P : Int) (P : Int) 3 _).mono ?_); rintro e w3 ⟨rfl, hb⟩; have HR3 := hid (HR1.out.below hb); clear hb; obtain ⟨y0, y1, y2, yz⟩ := three HR3.out.o; have yz0 := yz 0; have yz1 := yz 1; have yz2 := yz 2; clear yz))
          (try simp only [Exit.inBlock, Exit.then])
          refine bodyPost_ret (results_rdtmp rfl _ _ _ 49 _ (0, 0) rfl (three_put (has_three HR3.out.o) _ _ _) rfl) rfl ?_
          rw [HN.out]
          exact ⟨P, HZ.out, rfl, rfl, HR3.out.out _ _ _⟩
        have b2 : ¬ (hi : Int) < (m : Int) * 16 := by omega
        have HN := hid (show fourR lo hi 1 m (s.data.toList.drop (P + 1)) = T from by rw [HStep.out, if_neg (by simp; omega)])
        clear hb hb2
        go_wp2_with (first
          | (go_at_call 33; (with_reducible refine (rnext_any s P 0 HZ.out _).mono ?_); rintro e w1 ⟨rfl, hb⟩; rw [HC.out]; have HR1 := hid (HR.out.below hb); clear hb; obtain ⟨z0, z1, z2, zz⟩ := three HR1.out.r; have zz0 := zz 0; have zz1 := zz 1; have zz2 := zz 2; clear zz)
          | (go_at_call 92; (with_reducible refine (hex_any c _).mono ?_); rintro e w2 ⟨rfl, hw2⟩; have hw3 := hw2.symm; subst hw3; clear hw2; rw [HHx.out]))
        go_roundg 2
        case measure => omega
        case rel => exact ⟨1, m, P + 1, 0, by omega, rfl, by omega, rfl, rfl, by simp; omega, by omega, HN.out, HR1.out.move _ _ (by push_cast; rfl)⟩
    · obtain rfl : y = 2 := by omega
      clear hy
      cases hv : hexv c with
      | none =>
        have HN := hid (show T = .err 3 (s.data.toList.drop P) from by rw [← HT2.out]; exact fourR_none (by rw [hc]; exact hv))
        have HHx := hid (hexI_none hv)
        clear hv hc hn
        go_wp2_with (first
          | (go_at_call 33; (with_reducible refine (rnext_any s P 0 HZ.out _).mono ?_); rintro e w1 ⟨rfl, hb⟩; rw [HC.out]; have HR1 := hid (HR.out.below hb); clear hb; obtain ⟨z0, z1, z2, zz⟩ := three HR1.out.r; have zz0 := zz 0; have zz1 := zz 1; have zz2 := zz 2; clear zz)
          | (go_at_call 92; (with_reducible refine (hex_any c _).mono ?_); rintro e w2 ⟨rfl, hw2⟩; have hw3 := hw2.symm; subst hw3; clear hw2; rw [HHx.out])
          | (go_at_call 20; (with_reducible refine (rfail_any s (P : Int) (P : Int) 3 _).mono ?_); rintro e w3 ⟨rfl, hb⟩; have HR3 := hid (HR1.out.below hb); clear hb; obtain ⟨y0, y1, y2, yz⟩ := three HR3.out.o; have yz0 := yz 0; have yz1 := yz 1; have yz2 := yz 2; clear yz))
        (try simp only [Exit.inBlock, Exit.then])
        refine bodyPost_ret (results_rdtmp rfl _ _ _ 49 _ (0, 0) rfl (three_put (has_three HR3.out.o) _ _ _) rfl) rfl ?_
        rw [HN.out]
        exact ⟨P, HZ.out, rfl, rfl, HR3.out.out _ _ _⟩
      | some v =>
        have hv16 := hexv_lt hv
        have HHx := hid (hexI_some hv)
        obtain ⟨hPl, hd⟩ := drop_nx (s := s) (P := P) (fun e => by rw [hc] at e; rw [e] at hv; simp [hexv] at hv)
        have HStep := hid (show T = if (n * 16 + v) * 16 ^ 2 + 16 ^ 2 - 1 < lo ∨ hi < (n * 16 + v) * 16 ^ 2 then .err 3 (s.data.toList.drop P) else fourR lo hi 2 (n * 16 + v) (s.data.toList.drop (P + 1)) from by
          rw [← HT2.out, hd, hc]
          exact fourR_step hv)
        clear hv hc hd
        obtain ⟨m, hm⟩ : ∃ m : Nat, n * 16 + v = m := ⟨_, rfl⟩
        have hmb : m * 256 < 65536 := by simp at hn; omega
        have e1 : (n : Int) * 16 + (v : Int) = (m : Int) := by omega
        rw [hm] at HStep
        clear hn
        have w1e : IntKind.i64.wrap ((n : Int) * 16) = (n : Int) * 16 := by rw [IntKind.wrap_i64]; omega
        have hvn : ¬ (v : Int) < 0 := by omega
        by_cases hb : m * 256 + 256 - 1 < lo
        · have HN := hid (show T = .err 3 (s.data.toList.drop P) from by rw [HStep.out, if_pos (.inl (by simp; omega))])
          have b1 : (m : Int) * 256 + 256 - 1 < (lo : Int) := by omega
          clear hb
          go_wp2_with (first
            | (go_at_call 33; (with_reducible refine (rnext_any s P 0 HZ.out _).mono ?_); rintro e w1 ⟨rfl, hb⟩; rw [HC.out]; have HR1 := hid (HR.out.below hb); clear hb; obtain ⟨z0, z1, z2, zz⟩ := three HR1.out.r; have zz0 := zz 0; have zz1 := zz 1; have zz2 := zz 2; clear zz)
            | (go_at_call 92; (with_reducible refine (hex_any c _).mono ?_); rintro e w2 ⟨rfl, hw2⟩; have hw3 := hw2.symm; subst hw3; clear hw2; rw [HHx.out])
            | (go_at_call 20; (with_reducible refine (rfail_any s (P : Int) (P : Int) 3 _).mono ?_); rintro e w3 ⟨rfl, hb⟩; have HR3 := hid (HR1.out.below hb); clear hb; obtain ⟨y0, y1, y2, yz⟩ := three HR3.out.o; have yz0 := yz 0; have yz1 := yz 1; have yz2 := yz 2; clear yz))
          (try simp only [Exit.inBlock, Exit.then])
          refine bodyPost_ret (results_rdtmp rfl _ _ _ 49 _ (0, 0) rfl (three_put (has_three HR3.out.o) _ _ _) rfl) rfl ?_
          rw [HN.out]
          exact ⟨P, HZ.out, rfl, rfl, HR3.out.out _ _ _⟩
        have b1 : ¬ (m : Int) * 256 + 256 - 1 < (lo : Int) := by omega
        by_cases hb2 : hi < m * 256
        · have HN := hid (show T = .err 3 (s.data.toList.drop P) from by rw [HStep.out, if_pos (.inr (by simp; omega))])
          have b2 : (hi : Int) < (m : Int) * 256 := by omega
          clear hb hb2
          go_wp2_with (first
            | (go_at_call 33; (with_reducible refine (rnext_any s P 0 HZ.out _).mono ?_); rintro e w1 ⟨rfl, hb⟩; rw [HC.out]; have HR1 := hid (HR.out.below hb); clear hb; obtain ⟨z0, z1, z2, zz⟩ := three HR1.out.r; have zz0 := zz 0; have zz1 := zz 1; have zz2 := zz 2; clear zz)
            | (go_at_call 92; (with_reducible refine (hex_any c _).mono ?_); rintro e w2 ⟨rfl, hw2⟩; have hw3 := hw2.symm; subst hw3; clear hw2; rw [HHx.out])
            | (go_at_call 20; (with_reducible refine (rfail_any s (P : Int) (P : Int) 3 _).mono ?_); rintro e w3 ⟨rfl, hb⟩; have HR3 := hid (HR1.out.below hb); clear hb; obtain ⟨y0, y1, y2, yz⟩ := three HR3.out.o; have yz0 := yz 0; have yz1 := yz 1; have yz2 := yz 2; clear yz))
          (try simp only [Exit.inBlock, Exit.then])
          refine bodyPost_ret (results_rdtmp rfl _ _ _ 49 _ (0, 0) rfl (three_put (has_three HR3.out.o) _ _ _) rfl) rfl ?_
          rw [HN.out]
          exact ⟨P, HZ.out, rfl, rfl, HR3.out.out _ _ _⟩
        have b2 : ¬ (hi : Int) < (m : Int) * 256 := by omega
        have HN := hid (show fourR lo hi 2 m (s.data.toList.drop (P + 1)) = T from by rw [HStep.out, if_neg (by simp; omega)])
        clear hb hb2
        go_wp2_with (first
          | (go_at_call 33; (with_reducible refine (rnext_any s P 0 HZ.out _).mono ?_); rintro e w1 ⟨rfl, hb⟩; rw [HC.out]; have HR1 := hid (HR.out.below hb); clear hb; obtain ⟨z0, z1, z2, zz⟩ := three HR1.out.r; have zz0 := zz 0; have zz1 := zz 1; have zz2 := zz 2; clear zz)
          | (go_at_call 92; (with_reducible refine (hex_any c _).mono ?_); rintro e w2 ⟨rfl, hw2⟩; have hw3 := hw2.symm; subst hw3; clear hw2; rw [HHx.out]))
        go_roundg 3
        case measure => omega
        case rel => exact ⟨2, m, P + 1, 1, by omega, rfl, by omega, rfl, rfl, by simp; omega, by omega, HN.out, HR1.out.move _ _ (by push_cast; rfl)⟩
    · obtain rfl : y = 3 := by omega
      clear hy
      cases hv : hexv c with
      | none =>
        have HN := hid (show T = .err 3 (s.data.toList.drop P) from by rw [← HT2.out]; exact fourR_none (by rw [hc]; exact hv))
        have HHx := hid (hexI_none hv)
        clear hv hc hn
        go_wp2_with (first
          | (go_at_call 33; (with_reducible refine (rnext_any s P 0 HZ.out _).mono ?_); rintro e w1 ⟨rfl, hb⟩; rw [HC.out]; have HR1 := hid (HR.out.below hb); clear hb; obtain ⟨z0, z1, z2, zz⟩ := three HR1.out.r; have zz0 := zz 0; have zz1 := zz 1; have zz2 := zz 2; clear zz)
          | (go_at_call 92; (with_reducible refine (hex_any c _).mono ?_); rintro e w2 ⟨rfl, hw2⟩; have hw3 := hw2.symm; subst hw3; clear hw2; rw [HHx.out])
          | (go_at_call 20; (with_reducible refine (rfail_any s (P : Int) (P : Int) 3 _).mono ?_); rintro e w3 ⟨rfl, hb⟩; have HR3 := hid (HR1.out.below hb); clear hb; obtain ⟨y0, y1, y2, yz⟩ := three HR3.out.o; have yz0 := yz 0; have yz1 := yz 1; have yz2 := yz 2; clear yz))
        (try simp only [Exit.inBlock, Exit.then])
        refine bodyPost_ret (results_rdtmp rfl _ _ _ 49 _ (0, 0) rfl (three_put (has_three HR3.out.o) _ _ _) rfl) rfl ?_
        rw [HN.out]
        exact ⟨P, HZ.out, rfl, rfl, HR3.out.out _ _ _⟩
      | some v =>
        have hv16 := hexv_lt hv
        have HHx := hid (hexI_some hv)
        obtain ⟨hPl, hd⟩ := drop_nx (s := s) (P := P) (fun e => by rw [hc] at e; rw [e] at hv; simp [hexv] at hv)
        have HStep := hid (show T = if (n * 16 + v) * 16 ^ 3 + 16 ^ 3 - 1 < lo ∨ hi < (n * 16 + v) * 16 ^ 3 then .err 3 (s.data.toList.drop P) else fourR lo hi 3 (n * 16 + v) (s.data.toList.drop (P + 1)) from by
          rw [← HT2.out, hd, hc]
          exact fourR_step hv)
        clear hv hc hd
        obtain ⟨m, hm⟩ : ∃ m : Nat, n * 16 + v = m := ⟨_, rfl⟩
        have hmb : m * 4096 < 65536 := by simp at hn; omega
        have e1 : (n : Int) * 16 + (v : Int) = (m : Int) := by omega
        rw [hm] at HStep
        clear hn
        have w1e : IntKind.i64.wrap ((n : Int) * 16) = (n : Int) * 16 := by rw [IntKind.wrap_i64]; omega
        have hvn : ¬ (v : Int) < 0 := by omega
        by_cases hb : m * 4096 + 4096 - 1 < lo
        · have HN := hid (show T = .err 3 (s.data.toList.drop P) from by rw [HStep.out, if_pos (.inl (by simp; omega))])
          have b1 : (m : Int) * 4096 + 4096 - 1 < (lo : Int) := by omega
          clear hb
          go_wp2_with (first
            | (go_at_call 33; (with_reducible refine (rnext_any s P 0 HZ.out _).mono ?_); rintro e w1 ⟨rfl, hb⟩; rw [HC.out]; have HR1 := hid (HR.out.below hb); clear hb; obtain ⟨z0, z1, z2, zz⟩ := three HR1.out.r; have zz0 := zz 0; have zz1 := zz 1; have zz2 := zz 2; clear zz)
            | (go_at_call 92; (with_reducible refine (hex_any c _).mono ?_); rintro e w2 ⟨rfl, hw2⟩; have hw3 := hw2.symm; subst hw3; clear hw2; rw [HHx.out])
            | (go_at_call 20; (with_reducible refine (rfail_any s (P : Int) (P : Int) 3 _).mono ?_); rintro e w3 ⟨rfl, hb⟩; have HR3 := hid (HR1.out.below hb); clear hb; obtain ⟨y0, y1, y2, yz⟩ := three HR3.out.o; have yz0 := yz 0; have yz1 := yz 1; have yz2 := yz 2; clear yz))
          (try simp only [Exit.inBlock, Exit.then])
          refine bodyPost_ret (results_rdtmp rfl _ _ _ 49 _ (0, 0) rfl (three_put (has_three HR3.out.o) _ _ _) rfl) rfl ?_
          rw [HN.out]
          exact ⟨P, HZ.out, rfl, rfl, HR3.out.out _ _ _⟩
        have b1 : ¬ (m : Int) * 4096 + 4096 - 1 < (lo : Int) := by omega
        by_cases hb2 : hi < m * 4096
        · have HN := hid (show T = .err 3 (s.data.toList.drop P) from by rw [HStep.out, if_pos (.inr (by simp; omega))])
          have b2 : (hi : Int) < (m : Int) * 4096 := by omega
          clear hb hb2
          go_wp2_with (first
            | (go_at_call 33; (with_reducible refine (rnext_any s P 0 HZ.out _).mono ?_); rintro e w1 ⟨rfl, hb⟩; rw [HC.out]; have HR1 := hid (HR.out.below hb); clear hb; obtain ⟨z0, z1, z2, zz⟩ := three HR1.out.r; have zz0 := zz 0; have zz1 := zz 1; have zz2 := zz 2; clear zz)
            | (go_at_call 92; (with_reducible refine (hex_any c _).mono ?_); rintro e w2 ⟨rfl, hw2⟩; have hw3 := hw2.symm; subst hw3; clear hw2; rw [HHx.out])
            | (go_at_call 20; (with_reducible refine (rfail_any s (P : Int) (P : Int) 3 _).mono ?_); rintro e w3 ⟨rfl, hb⟩; have HR3 := hid (HR1.out.below hb); clear hb; obtain ⟨y0, y1, y2, yz⟩ := three HR3.out.o; have yz0 := yz 0; have yz1 := yz 1; have yz2 := yz 2; clear yz))
          (try simp only [Exit.inBlock, Exit.then])
          refine bodyPost_ret (results_rdtmp rfl _ _ _ 49 _ (0, 0) rfl (three_put (has_three HR3.out.o) _ _ _) rfl) rfl ?_
          rw [HN.out]
          exact ⟨P, HZ.out, rfl, rfl, HR3.out.out _ _ _⟩
        have b2 : ¬ (hi : Int) < (m : Int) * 4096 := by omega
        have HN := hid (show fourR lo hi 3 m (s.data.toList.drop (P + 1)) = T from by rw [HStep.out, if_neg (by simp; omega)])
        clear hb hb2
        go_wp2_with (first
          | (go_at_call 33; (with_reducible refine (rnext_any s P 0 HZ.out _).mono ?_); rintro e w1 ⟨rfl, hb⟩; rw [HC.out]; have HR1 := hid (HR.out.below hb); clear hb; obtain ⟨z0, z1, z2, zz⟩ := three HR1.out.r; have zz0 := zz 0; have zz1 := zz 1; have zz2 := zz 2; clear zz)
          | (go_at_call 92; (with_reducible refine (hex_any c _).mono ?_); rintro e w2 ⟨rfl, hw2⟩; have hw3 := hw2.symm; subst hw3; clear hw2; rw [HHx.out]))
        go_roundg 4
        case measure => omega
        case rel => exact ⟨3, m, P + 1, 2, by omega, rfl, by omega, rfl, rfl, by simp; omega, by omega, HN.out, HR1.out.move _ _ (by push_cast; rfl)⟩
theorem wraps_i64 (n : Int) (h₀ : 0 ≤ n) (h₁ : n < 2 ^ 40) : IntKind.i64.wrap n = n := by rw [IntKind.wrap_i64]; omega
theorem and63 (x : Int) (h0 : 0 ≤ x) (h1 : x < 1099511627776) : bits .and .i64 x 63 = x % 64 := bits_mask .i64 40 (by decide) wraps_i64 6 (by decide) x h0 h1
set_option maxRecDepth 20000 in
set_option maxHeartbeats 8000000 in
theorem utf8b_any (n : Nat) (z : Int) (hz : z = (n : Int)) (hn : n ≤ 1114111) (hs : ¬ (55296 ≤ n ∧ n ≤ 57343)) (w : World) : Calls Tryz.prog 79 #[.int .i64 z] w fun e w' => e = .returned (.slice (some ⟨w.heap.size, 0, none⟩) (Lib.runeCells (n : Int)).length (Lib.runeCells (n : Int)).length) ∧ w' = w.alloc (.cells (Lib.runeCells (n : Int)).toArray 5 (0, 0)) := by
  subst hz
  have m1 := and63 (n : Int) (by omega) (by omega)
  have m2 := and63 ((n : Int) / 64) (by omega) (by omega)
  have m3 := and63 ((n : Int) / 4096) (by omega) (by omega)
  by_cases h1 : n < 128
  · have HRn := hid (show Lib.runeCells (n : Int) = [.int .u8 (n : Int)] from by unfold Lib.runeCells; rw [Lib.encodeRuneZ_one (by omega) (by omega)]; rfl)
    have a1 : (n : Int) < 128 := by omega
    clear m1 m2 m3 hs h1
    go_enter Tryz.func79, Tryz.ntmps79
    go_wp2
    go_ret
    rw [HRn.out]
    exact ⟨rfl, rfl⟩
  have a1 : ¬ (n : Int) < 128 := by omega
  by_cases h2 : n < 2048
  · have HRn := hid (show Lib.runeCells (n : Int) = [.int .u8 (192 + (n : Int) / 64), .int .u8 (128 + (n : Int) % 64)] from by unfold Lib.runeCells; rw [Lib.encodeRuneZ_two (by omega) (by omega)]; rfl)
    have a2 : (n : Int) < 2048 := by omega
    clear m2 m3 hs h1
    go_enter Tryz.func79, Tryz.ntmps79
    go_wp2
    go_ret
    rw [HRn.out]
    exact ⟨rfl, rfl⟩
  have a2 : ¬ (n : Int) < 2048 := by omega
  by_cases h3 : n < 65536
  · have HRn := hid (show Lib.runeCells (n : Int) = [.int .u8 (224 + (n : Int) / 4096), .int .u8 (128 + (n : Int) / 64 % 64), .int .u8 (128 + (n : Int) % 64)] from by unfold Lib.runeCells; rw [Lib.encodeRuneZ_three (by omega)]; rfl)
    have a3 : (n : Int) < 65536 := by omega
    clear m3 hs h1
    go_enter Tryz.func79, Tryz.ntmps79
    go_wp2
    go_ret
    rw [HRn.out]
    exact ⟨rfl, rfl⟩
  · have HRn := hid (show Lib.runeCells (n : Int) = [.int .u8 (240 + (n : Int) / 262144), .int .u8 (128 + (n : Int) / 4096 % 64), .int .u8 (128 + (n : Int) / 64 % 64), .int .u8 (128 + (n : Int) % 64)] from by unfold Lib.runeCells; rw [Lib.encodeRuneZ_four (by omega) (by omega)]; rfl)
    have a3 : ¬ (n : Int) < 65536 := by omega
    clear hs h1
    go_enter Tryz.func79, Tryz.ntmps79
    go_wp2
    go_ret
    rw [HRn.out]
    exact ⟨rfl, rfl⟩
end Go.Proofs.YtkoeihliaandeaaGreatDoor
