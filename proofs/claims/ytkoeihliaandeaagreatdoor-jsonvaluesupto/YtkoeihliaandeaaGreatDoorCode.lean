/- Codes and escapes. -/
import Derived.Test.YtkoeihliaandeaaGreatDoorLow
namespace Go.Proofs.YtkoeihliaandeaaGreatDoor
open Go.RowKit

theorem four_bound : ∀ (k a : Nat) (l : B) (n : Nat) (u : B), four k a l = .ok n u → n < (a + 1) * 16 ^ k ∧ u = l.drop k ∧ k ≤ l.length ∧ a * 16 ^ k ≤ n
  | 0, a, l, n, u, h => by simp [four] at h; obtain ⟨rfl, rfl⟩ := h; simp
  | k + 1, a, [], n, u, h => by simp [four] at h
  | k + 1, a, c :: t, n, u, h => by
    simp only [four] at h
    cases hx : hexv c with
    | none => rw [hx] at h; simp at h
    | some v =>
      rw [hx] at h
      have hv := (hex_some hx).2.2.2
      obtain ⟨h1, h2, h3, h4⟩ := four_bound k (a * 16 + v) t n u h
      have e : 16 ^ (k + 1) = 16 * 16 ^ k := by rw [Nat.pow_succ, Nat.mul_comm]
      refine ⟨?_, by simpa using h2, by simp; omega, ?_⟩
      · rw [e, ← Nat.mul_assoc]
        refine Nat.lt_of_lt_of_le h1 (Nat.mul_le_mul_right _ (by omega))
      · rw [e, ← Nat.mul_assoc]
        exact Nat.le_trans (Nat.mul_le_mul_right _ (by omega)) h4
theorem low_range {l : B} {m : Nat} {v : B} (h : lowHalf l = .ok m v) : 56320 ≤ m ∧ m < 57344 := by
  unfold lowHalf at h
  cases hs : seqSkip lowL l with
  | err k u => rw [hs] at h; simp at h
  | ok x u =>
    rw [hs] at h
    simp only at h
    have hl := seq_len lowL l x u hs
    simp only [lowL, List.length_cons, List.length_nil] at hl
    rcases l with _ | ⟨a, _ | ⟨b, _ | ⟨c, _ | ⟨e, t⟩⟩⟩⟩ <;> simp at hl
    simp only [List.drop, four] at h
    simp only [lowL, seqSkip, skip] at hs
    by_cases h1 : ([92] : B).contains a
    · rw [if_pos h1] at hs
      simp only at hs
      by_cases h2 : ([117] : B).contains b
      · rw [if_pos h2] at hs
        simp only at hs
        by_cases h3 : ([100, 68] : B).contains c
        · rw [if_pos h3] at hs
          simp only at hs
          by_cases h4 : ([99, 100, 101, 102, 67, 68, 69, 70] : B).contains e
          · have hc : hexv c = some 13 := by
              simp at h3
              rcases h3 with rfl | rfl <;> rfl
            have he : ∃ y, hexv e = some y ∧ 12 ≤ y ∧ y < 16 := by
              simp at h4
              rcases h4 with rfl | rfl | rfl | rfl | rfl | rfl | rfl | rfl <;> exact ⟨_, rfl, by decide, by decide⟩
            obtain ⟨y, he, y1, y2⟩ := he
            rw [hc] at h
            simp only at h
            rw [he] at h
            simp only at h
            have := four_bound 2 _ _ _ _ h
            omega
          · rw [if_neg h4] at hs; simp at hs
        · rw [if_neg h3] at hs; simp at hs
      · rw [if_neg h2] at hs; simp at hs
    · rw [if_neg h1] at hs; simp at hs
set_option maxRecDepth 20000 in
set_option maxHeartbeats 4000000 in
theorem isLow_any (c : Nat) (w : World) : Calls Tryz.prog 103 #[.int .i32 (c : Int)] w fun e w' => e = .returned (.bool (decide (56320 ≤ c ∧ c < 57344))) ∧ w' = w := by
  by_cases h1 : 56320 ≤ c
  · have z1 : (56320 : Int) ≤ c := by omega
    by_cases h2 : c < 57344
    · have z2 : (c : Int) < 57344 := by omega
      go_enter Tryz.func103, Tryz.ntmps103
      go_wp2
      go_ret
      exact ⟨by simp [h1, h2], rfl⟩
    · have z2 : ¬ (c : Int) < 57344 := by omega
      go_enter Tryz.func103, Tryz.ntmps103
      go_wp2
      go_ret
      exact ⟨by simp, rfl⟩
  · have z1 : ¬ (56320 : Int) ≤ c := by omega
    go_enter Tryz.func103, Tryz.ntmps103
    go_wp2
    go_ret
    exact ⟨by simp, rfl⟩
set_option maxRecDepth 20000 in
set_option maxHeartbeats 4000000 in
theorem isHigh_any (c : Nat) (w : World) : Calls Tryz.prog 104 #[.int .i32 (c : Int)] w fun e w' => e = .returned (.bool (decide (55296 ≤ c ∧ c < 56320))) ∧ w' = w := by
  by_cases h1 : 55296 ≤ c
  · have z1 : (55296 : Int) ≤ c := by omega
    by_cases h2 : c < 56320
    · have z2 : (c : Int) < 56320 := by omega
      go_enter Tryz.func104, Tryz.ntmps104
      go_wp2
      go_ret
      exact ⟨by simp [h1, h2], rfl⟩
    · have z2 : ¬ (c : Int) < 56320 := by omega
      go_enter Tryz.func104, Tryz.ntmps104
      go_wp2
      go_ret
      exact ⟨by simp, rfl⟩
  · have z1 : ¬ (55296 : Int) ≤ c := by omega
    go_enter Tryz.func104, Tryz.ntmps104
    go_wp2
    go_ret
    exact ⟨by simp, rfl⟩
set_option maxRecDepth 20000 in
set_option maxHeartbeats 4000000 in
theorem code_any {w : World} {b : Nat} {s : ByteArray} {l : B} {d : Nat} (h : Rd w b s l d) :
    Calls Tryz.prog 94 #[.pointer (some ⟨b, 0, none⟩)] w fun e w' => ToldN (code l) b s d w e w' := by
  obtain ⟨p, hA⟩ := h.at
  have HA := hid hA
  have R0 := hid (And.intro h (Turn.refl b w))
  clear h hA
  cases hf : four 4 0 l with
  | err k u =>
    have HF := hid hf
    clear hf
    go_enter Tryz.func94, Tryz.ntmps94
    go_wp2_with (go_at_call 102; (with_reducible refine (four_any R0.out.1).mono ?_); intro e w1 hq; obtain ⟨rfl, hz⟩ := ToldN.no hq HF.out; have R1 := hid (And.intro hz.1 (R0.out.2.trans hz.2)); clear hz hq R0)
    go_ret2
    unfold code
    rw [HF.out]
    exact ⟨rfl, R1.out⟩
  | ok n u =>
    have hb := four_bound _ _ _ _ _ hf
    have HU := hid hb.2.1
    have HN := hid hb.2.2.1
    have hn : n < 65536 := by omega
    have HF := hid hf
    clear hf hb
    by_cases hl : 56320 ≤ n ∧ n < 57344
    · have HL : Hid (decide (56320 ≤ n ∧ n < 57344) = true) := by unfold Hid; simp [hl]
      have HX := hid (show s.data.toList.drop (p + 3) = l.drop 3 ∧ p + 3 ≤ s.size from ⟨by rw [← List.drop_drop, HA.out.drop], by have := HA.out.len; have := HN.out; omega⟩)
      go_enter Tryz.func94, Tryz.ntmps94
      go_wp2_with (first
        | (go_at_call 102; (with_reducible refine (four_any R0.out.1).mono ?_); intro e w1 hq; obtain ⟨rfl, hz⟩ := ToldN.yes hq HF.out; have R1 := hid (And.intro hz.1 (R0.out.2.trans hz.2)); obtain ⟨p1, hA1⟩ := hz.1.at; have d1 := hA1.c1; have f1 := hA1.fz 1; have hp1 : p1 = p + 4 := (by have a1 := hA1.len; have a2 := HA.out.len; have a3 := HU.out; have a4 := HN.out; have a5 := hA1.le; rw [a3, List.length_drop] at a1; omega); have hms := hA1.most; have hle := hA1.le; subst hp1; clear hA1 hz hq R0)
        | (go_at_call 103; (with_reducible refine (isLow_any n _).mono ?_); rintro e w' ⟨rfl, hw⟩; have hw2 := hw.symm; subst hw2; rw [HL.out]))
      go_ret2
      unfold code
      rw [HF.out]
      simp only []
      rw [if_pos hl]
      exact ⟨rfl, R1.out.1.moved _ (by push_cast; omega) HX.out.2 HX.out.1, R1.out.2.setCell _ _⟩
    · have HL : Hid (decide (56320 ≤ n ∧ n < 57344) = false) := by unfold Hid; simp; omega
      by_cases hh : 55296 ≤ n ∧ n < 56320
      · have HH : Hid (decide (55296 ≤ n ∧ n < 56320) = true) := by unfold Hid; simp [hh]
        cases hg : lowHalf u with
        | err k v =>
          have HG := hid hg
          clear hg
          go_enter Tryz.func94, Tryz.ntmps94
          go_wp2_with (first
            | (go_at_call 102; (with_reducible refine (four_any R0.out.1).mono ?_); intro e w1 hq; obtain ⟨rfl, hz⟩ := ToldN.yes hq HF.out; have R1 := hid (And.intro hz.1 (R0.out.2.trans hz.2)); clear hz hq R0)
            | (go_at_call 103; (with_reducible refine (isLow_any n _).mono ?_); rintro e w' ⟨rfl, hw⟩; have hw2 := hw.symm; subst hw2; rw [HL.out])
            | (go_at_call 104; (with_reducible refine (isHigh_any n _).mono ?_); rintro e w' ⟨rfl, hw⟩; have hw2 := hw.symm; subst hw2; rw [HH.out])
            | (go_at_call 105; (with_reducible refine (low_any R1.out.1).mono ?_); intro e w2 hq; obtain ⟨rfl, hz⟩ := ToldN.no hq HG.out; have R2 := hid (And.intro hz.1 (R1.out.2.trans hz.2)); clear hz hq R1))
          go_ret2
          unfold code
          rw [HF.out]
          simp only []
          rw [if_neg hl, if_pos hh, HG.out]
          exact ⟨rfl, R2.out⟩
        | ok m v =>
          have hr := low_range hg
          have HG := hid hg
          clear hg
          obtain ⟨hh1, hh2⟩ := hh
          obtain ⟨hr1, hr2⟩ := hr
          go_enter Tryz.func94, Tryz.ntmps94
          go_wp2_with (first
            | (go_at_call 102; (with_reducible refine (four_any R0.out.1).mono ?_); intro e w1 hq; obtain ⟨rfl, hz⟩ := ToldN.yes hq HF.out; have R1 := hid (And.intro hz.1 (R0.out.2.trans hz.2)); clear hz hq R0)
            | (go_at_call 103; (with_reducible refine (isLow_any n _).mono ?_); rintro e w' ⟨rfl, hw⟩; have hw2 := hw.symm; subst hw2; rw [HL.out])
            | (go_at_call 104; (with_reducible refine (isHigh_any n _).mono ?_); rintro e w' ⟨rfl, hw⟩; have hw2 := hw.symm; subst hw2; rw [HH.out])
            | (go_at_call 105; (with_reducible refine (low_any R1.out.1).mono ?_); intro e w2 hq; obtain ⟨rfl, hz⟩ := ToldN.yes hq HG.out; have R2 := hid (And.intro hz.1 (R1.out.2.trans hz.2)); clear hz hq R1))
          go_ret2
          unfold code
          rw [HF.out]
          simp only []
          rw [if_neg hl, if_pos ⟨hh1, hh2⟩, HG.out]
          refine ⟨?_, R2.out⟩
          congr 3
          simp
          omega
      · have HH : Hid (decide (55296 ≤ n ∧ n < 56320) = false) := by unfold Hid; simp; omega
        go_enter Tryz.func94, Tryz.ntmps94
        go_wp2_with (first
          | (go_at_call 102; (with_reducible refine (four_any R0.out.1).mono ?_); intro e w1 hq; obtain ⟨rfl, hz⟩ := ToldN.yes hq HF.out; have R1 := hid (And.intro hz.1 (R0.out.2.trans hz.2)); clear hz hq R0)
          | (go_at_call 103; (with_reducible refine (isLow_any n _).mono ?_); rintro e w' ⟨rfl, hw⟩; have hw2 := hw.symm; subst hw2; rw [HL.out])
          | (go_at_call 104; (with_reducible refine (isHigh_any n _).mono ?_); rintro e w' ⟨rfl, hw⟩; have hw2 := hw.symm; subst hw2; rw [HH.out]))
        go_ret2
        unfold code
        rw [HF.out]
        simp only []
        rw [if_neg hl, if_neg hh]
        exact ⟨rfl, R1.out⟩
set_option maxRecDepth 20000 in
set_option maxHeartbeats 4000000 in
theorem escape_any {w : World} {b : Nat} {s : ByteArray} {l : B} {d : Nat} (h : Rd w b s l d) (hl : ∃ l1, l = 92 :: l1) :
    Calls Tryz.prog 84 #[.pointer (some ⟨b, 0, none⟩)] w fun e w' => ToldN (escape (l.drop 1)) b s d w e w' := by
  obtain ⟨l1, rfl⟩ := hl
  obtain ⟨p, hA⟩ := h.at
  have c1 := hA.c1
  have f1 := hA.fz 1
  have hms := hA.most
  have hle := hA.le
  have HX := hid hA.step
  have R1 := hid (show Rd (w.setCell ⟨b, 1, none⟩ (.int .i64 ((p : Int) + 1))) b s l1 d ∧ Turn b w (w.setCell ⟨b, 1, none⟩ (.int .i64 ((p : Int) + 1))) from ⟨h.moved _ (by push_cast; rfl) HX.out.2 HX.out.1, (Turn.refl _ _).setCell _ _⟩)
  clear h hA
  show Calls Tryz.prog 84 #[.pointer (some ⟨b, 0, none⟩)] w fun e w' => ToldN (escape l1) b s d w e w'
  by_cases hk : nx l1 = 34 ∨ nx l1 = 92 ∨ nx l1 = 47 ∨ nx l1 = 98 ∨ nx l1 = 102 ∨ nx l1 = 110 ∨ nx l1 = 114 ∨ nx l1 = 116 ∨ nx l1 = 117
  · cases l1 with
    | nil => simp [nx] at hk
    | cons c t =>
      have hk : c = 34 ∨ c = 92 ∨ c = 47 ∨ c = 98 ∨ c = 102 ∨ c = 110 ∨ c = 114 ∨ c = 116 ∨ c = 117 := hk
      obtain ⟨p1, hA1⟩ := R1.out.1.at
      have hp1 : p1 = p + 1 := by
        have a1 := hA1.len
        have a2 := HX.out
        have a3 := hA1.le
        have a4 : (s.data.toList.drop (p + 1)).length = (c :: t).length := by rw [a2.1]
        rw [List.length_drop] at a4
        have a5 : s.data.toList.length = s.size := rfl
        omega
      subst hp1
      have HY := hid hA1.step
      clear hA1
      rcases hk with rfl | rfl | rfl | rfl | rfl | rfl | rfl | rfl | rfl
      · go_enter Tryz.func84, Tryz.ntmps84
        go_wp2_with (go_at_call 48; refine (next_any R1.out.1).mono ?_; rintro e w' ⟨rfl, n, rfl⟩; rw [show nx (34 :: t) = 34 from rfl])
        go_ret2
        exact ⟨rfl, (R1.out.1.drewN n).moved _ (by push_cast; omega) HY.out.2 HY.out.1, (R1.out.2.drewN n).setCell _ _⟩
      · go_enter Tryz.func84, Tryz.ntmps84
        go_wp2_with (go_at_call 48; refine (next_any R1.out.1).mono ?_; rintro e w' ⟨rfl, n, rfl⟩; rw [show nx (92 :: t) = 92 from rfl])
        go_ret2
        exact ⟨rfl, (R1.out.1.drewN n).moved _ (by push_cast; omega) HY.out.2 HY.out.1, (R1.out.2.drewN n).setCell _ _⟩
      · go_enter Tryz.func84, Tryz.ntmps84
        go_wp2_with (go_at_call 48; refine (next_any R1.out.1).mono ?_; rintro e w' ⟨rfl, n, rfl⟩; rw [show nx (47 :: t) = 47 from rfl])
        go_ret2
        exact ⟨rfl, (R1.out.1.drewN n).moved _ (by push_cast; omega) HY.out.2 HY.out.1, (R1.out.2.drewN n).setCell _ _⟩
      · go_enter Tryz.func84, Tryz.ntmps84
        go_wp2_with (go_at_call 48; refine (next_any R1.out.1).mono ?_; rintro e w' ⟨rfl, n, rfl⟩; rw [show nx (98 :: t) = 98 from rfl])
        go_ret2
        exact ⟨rfl, (R1.out.1.drewN n).moved _ (by push_cast; omega) HY.out.2 HY.out.1, (R1.out.2.drewN n).setCell _ _⟩
      · go_enter Tryz.func84, Tryz.ntmps84
        go_wp2_with (go_at_call 48; refine (next_any R1.out.1).mono ?_; rintro e w' ⟨rfl, n, rfl⟩; rw [show nx (102 :: t) = 102 from rfl])
        go_ret2
        exact ⟨rfl, (R1.out.1.drewN n).moved _ (by push_cast; omega) HY.out.2 HY.out.1, (R1.out.2.drewN n).setCell _ _⟩
      · go_enter Tryz.func84, Tryz.ntmps84
        go_wp2_with (go_at_call 48; refine (next_any R1.out.1).mono ?_; rintro e w' ⟨rfl, n, rfl⟩; rw [show nx (110 :: t) = 110 from rfl])
        go_ret2
        exact ⟨rfl, (R1.out.1.drewN n).moved _ (by push_cast; omega) HY.out.2 HY.out.1, (R1.out.2.drewN n).setCell _ _⟩
      · go_enter Tryz.func84, Tryz.ntmps84
        go_wp2_with (go_at_call 48; refine (next_any R1.out.1).mono ?_; rintro e w' ⟨rfl, n, rfl⟩; rw [show nx (114 :: t) = 114 from rfl])
        go_ret2
        exact ⟨rfl, (R1.out.1.drewN n).moved _ (by push_cast; omega) HY.out.2 HY.out.1, (R1.out.2.drewN n).setCell _ _⟩
      · go_enter Tryz.func84, Tryz.ntmps84
        go_wp2_with (go_at_call 48; refine (next_any R1.out.1).mono ?_; rintro e w' ⟨rfl, n, rfl⟩; rw [show nx (116 :: t) = 116 from rfl])
        go_ret2
        exact ⟨rfl, (R1.out.1.drewN n).moved _ (by push_cast; omega) HY.out.2 HY.out.1, (R1.out.2.drewN n).setCell _ _⟩
      · have e0 : escape (117 :: t) = code t := rfl
        rw [e0]
        cases hc : code t with
        | ok m u =>
          have HC := hid hc
          clear hc
          go_enter Tryz.func84, Tryz.ntmps84
          go_wp2_with (first
            | (go_at_call 48; refine (next_any R1.out.1).mono ?_; rintro e w' ⟨rfl, n, rfl⟩; rw [show nx (117 :: t) = 117 from rfl]; have R2 := hid (And.intro ((R1.out.1.drewN n).moved ((p : Int) + 1 + 1) (by push_cast; rfl) HY.out.2 HY.out.1) ((R1.out.2.drewN n).setCell 1 (.int .i64 ((p : Int) + 1 + 1)))))
            | (go_at_call 94; (with_reducible refine (code_any R2.out.1).mono ?_); intro e w2 hq; obtain ⟨rfl, hz⟩ := ToldN.yes hq HC.out; have R3 := hid (And.intro hz.1 (R2.out.2.trans hz.2)); clear hz hq R2))
          go_ret2
          exact ⟨rfl, R3.out⟩
        | err m u =>
          have HC := hid hc
          clear hc
          go_enter Tryz.func84, Tryz.ntmps84
          go_wp2_with (first
            | (go_at_call 48; refine (next_any R1.out.1).mono ?_; rintro e w' ⟨rfl, n, rfl⟩; rw [show nx (117 :: t) = 117 from rfl]; have R2 := hid (And.intro ((R1.out.1.drewN n).moved ((p : Int) + 1 + 1) (by push_cast; rfl) HY.out.2 HY.out.1) ((R1.out.2.drewN n).setCell 1 (.int .i64 ((p : Int) + 1 + 1)))))
            | (go_at_call 94; (with_reducible refine (code_any R2.out.1).mono ?_); intro e w2 hq; obtain ⟨rfl, hz⟩ := ToldN.no hq HC.out; have R3 := hid (And.intro hz.1 (R2.out.2.trans hz.2)); clear hz hq R2))
          go_ret2
          exact ⟨rfl, R3.out⟩
  · have hn : ∀ k : Nat, k < 256 → (k = 34 ∨ k = 92 ∨ k = 47 ∨ k = 98 ∨ k = 102 ∨ k = 110 ∨ k = 114 ∨ k = 116 ∨ k = 117) → (((nx l1).toNat : Int) == (k : Int)) = false := by
      intro k h0 h1
      simp only [beq_eq_false_iff_ne, ne_eq, Int.natCast_inj]
      intro e
      apply hk
      have e2 : nx l1 = UInt8.ofNat k := by rw [← e]; simp
      rw [e2]
      rcases h1 with rfl | rfl | rfl | rfl | rfl | rfl | rfl | rfl | rfl <;> simp
    have n1 := hn 34 (by omega) (by omega); have n2 := hn 92 (by omega) (by omega); have n3 := hn 47 (by omega) (by omega); have n4 := hn 98 (by omega) (by omega); have n5 := hn 102 (by omega) (by omega)
    have n6 := hn 110 (by omega) (by omega); have n7 := hn 114 (by omega) (by omega); have n8 := hn 116 (by omega) (by omega); have n9 := hn 117 (by omega) (by omega)
    have HK := hid hk
    clear hn hk
    obtain ⟨X, hX⟩ : ∃ X : Int, ((nx l1).toNat : Int) = X := ⟨_, rfl⟩
    rw [hX] at n1 n2 n3 n4 n5 n6 n7 n8 n9
    have HX2 := hid hX
    clear hX
    go_enter Tryz.func84, Tryz.ntmps84
    go_wp2_with (go_at_call 48; refine (next_any R1.out.1).mono ?_; rintro e w' ⟨rfl, n, rfl⟩; rw [HX2.out])
    go_ret2
    have hw : escape l1 = .err 3 l1 := by
      cases l1 with
      | nil => rfl
      | cons c t =>
        have hk : ¬ (c = 34 ∨ c = 92 ∨ c = 47 ∨ c = 98 ∨ c = 102 ∨ c = 110 ∨ c = 114 ∨ c = 116 ∨ c = 117) := HK.out
        simp only [not_or] at hk
        simp [escape, hk]
    rw [hw]
    exact ⟨rfl, R1.out.1.drewN n, R1.out.2.drewN n⟩
end Go.Proofs.YtkoeihliaandeaaGreatDoor
