/- The document's bytes of a text. -/
import Derived.Test.YtnpijgpjakmkdaaDoorDec
namespace Go.Proofs.YtnpijgpjakmkdaaDoor
open Go.RowKit

theorem andi0 (y : Int) (h0 : 0 ≤ y) (h1 : y < 4096) : bits .and .i64 y 0 = y % 1 := bits_mask .i64 62 (by decide) wraps_i64 0 (by decide) y h0 (by omega)
theorem andi3 (y : Int) (h0 : 0 ≤ y) (h1 : y < 4096) : bits .and .i64 y 3 = y % 4 := bits_mask .i64 62 (by decide) wraps_i64 2 (by decide) y h0 (by omega)
theorem andi15 (y : Int) (h0 : 0 ≤ y) (h1 : y < 4096) : bits .and .i64 y 15 = y % 16 := bits_mask .i64 62 (by decide) wraps_i64 4 (by decide) y h0 (by omega)
section
variable {s l : List Int} {k : Nat} {B : Int}
theorem DRel.low0 (h : DRel s k l B 0) : DRel s k l (B % 1) 0 := h
theorem DRel.low2 (h : DRel s k l B 2) : DRel s k l (B % 4) 2 := by
  unfold DRel left at h ⊢
  simpa [show B % 4 % 4 = B % 4 by omega] using h
theorem DRel.low4 (h : DRel s k l B 4) : DRel s k l (B % 16) 4 := by
  unfold DRel left at h ⊢
  simpa [show B % 16 % 16 = B % 16 by omega] using h
end
def wide (cnt : Nat) : Int := match cnt with
  | 0 => 1
  | 2 => 4
  | 4 => 16
  | _ => 64
set_option maxRecDepth 20000 in
set_option maxHeartbeats 4000000 in
theorem refDecode_any (s : ByteArray) (w : World) (hM : s.size ≤ 140737488355328) :
    Calls Tryd.prog 14 #[.string s] w fun e w' => ∃ pa c l k, e = .returned (.tuple #[.slice pa l.length c, .int .i64 k]) ∧ Mine w w' pa c l ∧ Told (numsS s) l k := by
  have hMb : (s.size : Int) ≤ 140737488355328 := by omega
  by_cases hq : s.size % 4 = 1
  · have hq' : (s.size : Int) % 4 = 1 := by omega
    have HE : Hid (bytesL (numsS s) = none) := by show _ = _; rw [bytesL, if_pos (by rw [numsS_len]; exact hq)]
    go_enter Tryd.func14, Tryd.ntmps14
    go_wp2
    go_ret2
    exact ⟨none, 0, [], 3, rfl, mine_nil _, .inr ⟨HE.out, rfl, rfl⟩⟩
  have hq' : ((s.size : Int) % 4 == 1) = false := by simp; omega
  have HQ : Hid ((numsS s).length % 4 ≠ 1) := by show _ ≠ _; rw [numsS_len]; exact hq
  clear hM hq
  go_enter Tryd.func14, Tryd.ntmps14
  go_wp2
  go_loopw [4, 5, 6, 7] (fun v bv n i W => ∃ (T c cnt k : Nat) (pa : Option Addr) (B : Int) (l : List Int), v = .slice pa T c ∧ bv = .int .i64 B ∧ n = .int .i64 cnt ∧ i = .int .i64 k ∧ k ≤ s.size ∧ 0 ≤ B ∧ B < 4096 ∧
      Hid (cnt = 0 ∨ cnt = 2 ∨ cnt = 4 ∨ cnt = 6) ∧ Hid (8 * T + cnt = 6 * k) ∧ Hid (l.length = T) ∧ Hid (Mine w W pa c l) ∧ Hid (DRel (numsS s) k l B cnt) ∧ Hid (B < wide cnt)) (fun _ _ _ i _ => s.size - (intOf i).toNat)
  case atStart => exact ⟨0, 0, 0, 0, none, 0, [], rfl, rfl, rfl, rfl, Nat.zero_le _, by omega, by omega, .inl rfl, rfl, rfl, mine_nil w, DRel.start _, hid (by decide)⟩
  case round =>
    obtain ⟨T, c', cnt, k, pa, B, l, rfl, rfl, rfl, rfl, hk, hB0, hB1, HC, HT, HLN, HM, HR, HP⟩ := hrel
    obtain ⟨V, hV⟩ : ∃ V, V = wr := ⟨_, rfl⟩
    rw [← hV] at HM ⊢
    clear hV
    have hB64 : B < 64 := by
      have := HP.out
      unfold wide at this
      split at this <;> omega
    by_cases hlt : k < s.size
    · have hlt' : (k : Int) < s.size := by omega
      cases hvl : val (s[k].toNat : Int) with
      | none =>
        have HVL := hid hvl
        have HE := hid (HR.out.bad (by rw [numsS_len]; exact hlt) (numsS_at s k hlt) hvl)
        clear hvl
        go_wp2_with (go_at_call 6; (with_reducible refine (refDigit_any _ _).mono ?_); rintro e w' ⟨rfl, hw'⟩; have hw2 := hw'.symm; subst hw2; rw [HVL.out])
        go_ret2
        exact ⟨none, 0, [], 3, rfl, (mine_nil _).over HM.out.below, .inr ⟨bytes_none HE.out, rfl, rfl⟩⟩
      | some d =>
        have HVL := hid hvl
        obtain ⟨_, hd0, hd1⟩ := chr_val _ d hvl
        clear hvl
        have hor := or6i B d hB0 (by omega) hd0 hd1
        obtain ⟨B', HB'⟩ : ∃ B', Hid (B * 64 % 4294967296 + d = B') := ⟨_, hid rfl⟩
        rw [show B * 64 + d = B' by have := HB'.out; omega] at hor
        have hB'0 : 0 ≤ B' := by have := HB'.out; omega
        have hB'1 : B' < 4096 := by have := HB'.out; omega
        have hcc := HC.out
        rcases hcc with rfl | rfl | rfl | rfl
        all_goals (simp only [wide] at HP)
        · have HR' := hid (HR.out.step0 (by rw [numsS_len]; exact hlt) (numsS_at s k hlt) HVL.out HB'.out)
          go_wp2_with (go_at_call 6; (with_reducible refine (refDigit_any _ _).mono ?_); rintro e w' ⟨rfl, hw'⟩; have hw2 := hw'.symm; subst hw2; rw [HVL.out])
          go_roundw
          case rel => exact ⟨T, c', 6, k + 1, pa, B', l, rfl, rfl, rfl, by go_num, by omega, hB'0, hB'1, hid (.inr (.inr (.inr rfl))), by have := HT.out; show _ = _; omega, HLN, HM, HR', by have := HB'.out; have := HP.out; show B' < 64; omega⟩
          case measure => simp [intOf]; omega
        · have HR' := hid (HR.out.step2 (by rw [numsS_len]; exact hlt) (numsS_at s k hlt) HVL.out HB'.out)
          obtain ⟨y, HY⟩ : ∃ y, Hid (B' % 256 = y) := ⟨_, hid rfl⟩
          have hy := HY.out
          rw [HY.out] at HR'
          have HR'' := hid HR'.out.low0
          have hand := andi0 B' hB'0 hB'1
          obtain ⟨B2, HB2⟩ : ∃ B2, Hid (B' % 1 = B2) := ⟨_, hid rfl⟩
          have h20 : 0 ≤ B2 := by have := HB2.out; omega
          have h21 : B2 < 1 := by have := HB2.out; omega
          rw [HB2.out] at hand HR''
          have HKB : Hid (T ≤ 200000000000000) := by show _ ≤ _; have := HT.out; omega
          go_wp2_with (first
            | (go_at_call 6; (with_reducible refine (refDigit_any _ _).mono ?_); rintro e w' ⟨rfl, hw'⟩; have hw2 := hw'.symm; subst hw2; rw [HVL.out])
            | (refine wpList_append_byte (w0 := w) rfl _ _ rfl pa T c' rfl _ HLN.out (HM.out.next (below_new _ _)) _ rfl y (one_arg _ _) HKB.out ?_; intro p1 c1 W1 hm1; have M1 := hid hm1; clear hm1))
          go_roundw
          case rel =>
            refine ⟨T + 1, c1, 0, k + 1, p1, B2, l ++ [y], rfl, rfl, rfl, by go_num, by omega, h20, by omega, hid (by decide), ?_, ?_, M1, HR'', h21⟩
            · have := HT.out; show _ = _; omega
            · show _ = _; rw [List.length_append, HLN.out]; rfl
          case measure => simp [intOf]; omega
        · have HR' := hid (HR.out.step4 (by rw [numsS_len]; exact hlt) (numsS_at s k hlt) HVL.out HB'.out)
          obtain ⟨y, HY⟩ : ∃ y, Hid (B' / 4 % 256 = y) := ⟨_, hid rfl⟩
          have hy := HY.out
          rw [HY.out] at HR'
          have HR'' := hid HR'.out.low2
          have hand := andi3 B' hB'0 hB'1
          obtain ⟨B2, HB2⟩ : ∃ B2, Hid (B' % 4 = B2) := ⟨_, hid rfl⟩
          have h20 : 0 ≤ B2 := by have := HB2.out; omega
          have h21 : B2 < 4 := by have := HB2.out; omega
          rw [HB2.out] at hand HR''
          have HKB : Hid (T ≤ 200000000000000) := by show _ ≤ _; have := HT.out; omega
          go_wp2_with (first
            | (go_at_call 6; (with_reducible refine (refDigit_any _ _).mono ?_); rintro e w' ⟨rfl, hw'⟩; have hw2 := hw'.symm; subst hw2; rw [HVL.out])
            | (refine wpList_append_byte (w0 := w) rfl _ _ rfl pa T c' rfl _ HLN.out (HM.out.next (below_new _ _)) _ rfl y (one_arg _ _) HKB.out ?_; intro p1 c1 W1 hm1; have M1 := hid hm1; clear hm1))
          go_roundw
          case rel =>
            refine ⟨T + 1, c1, 2, k + 1, p1, B2, l ++ [y], rfl, rfl, rfl, by go_num, by omega, h20, by omega, hid (by decide), ?_, ?_, M1, HR'', h21⟩
            · have := HT.out; show _ = _; omega
            · show _ = _; rw [List.length_append, HLN.out]; rfl
          case measure => simp [intOf]; omega
        · have HR' := hid (HR.out.step6 (by rw [numsS_len]; exact hlt) (numsS_at s k hlt) HVL.out HB'.out)
          obtain ⟨y, HY⟩ : ∃ y, Hid (B' / 16 = y) := ⟨_, hid rfl⟩
          have hy := HY.out
          rw [show B' / 16 % 256 = y by have := HY.out; omega] at HR'
          have HR'' := hid HR'.out.low4
          have hand := andi15 B' hB'0 hB'1
          obtain ⟨B2, HB2⟩ : ∃ B2, Hid (B' % 16 = B2) := ⟨_, hid rfl⟩
          have h20 : 0 ≤ B2 := by have := HB2.out; omega
          have h21 : B2 < 16 := by have := HB2.out; omega
          rw [HB2.out] at hand HR''
          have HKB : Hid (T ≤ 200000000000000) := by show _ ≤ _; have := HT.out; omega
          go_wp2_with (first
            | (go_at_call 6; (with_reducible refine (refDigit_any _ _).mono ?_); rintro e w' ⟨rfl, hw'⟩; have hw2 := hw'.symm; subst hw2; rw [HVL.out])
            | (refine wpList_append_byte (w0 := w) rfl _ _ rfl pa T c' rfl _ HLN.out (HM.out.next (below_new _ _)) _ rfl y (one_arg _ _) HKB.out ?_; intro p1 c1 W1 hm1; have M1 := hid hm1; clear hm1))
          go_roundw
          case rel =>
            refine ⟨T + 1, c1, 4, k + 1, p1, B2, l ++ [y], rfl, rfl, rfl, by go_num, by omega, h20, by omega, hid (by decide), ?_, ?_, M1, HR'', h21⟩
            · have := HT.out; show _ = _; omega
            · show _ = _; rw [List.length_append, HLN.out]; rfl
          case measure => simp [intOf]; omega
    · have hlt' : ¬ (k : Int) < s.size := by omega
      have HQ2 : Hid (k % 4 ≠ 1) := by
        have := HQ.out
        rw [numsS_len] at this
        show _ ≠ _
        rw [show k = s.size by omega]
        exact this
      have hcc := HC.out
      rcases hcc with rfl | rfl | rfl | rfl
      all_goals (simp only [wide] at HP)
      · have HE := hid (HR.out.end0 (by rw [numsS_len]; omega))
        obtain rfl : B = 0 := by have := HP.out; omega
        go_wp2
        go_ret2
        refine ⟨pa, c', l, 0, ?_, HM.out, .inl ⟨bytes_of HQ.out HE.out, rfl⟩⟩
        rw [HLN.out]
        rfl
      · have hsm : B % 4 = B := by have := HP.out; omega
        by_cases hz : B = 0
        · have HE := hid (HR.out.end2 (by rw [numsS_len]; omega) (by rw [hsm]; exact hz))
          subst hz
          go_wp2
          go_ret2
          refine ⟨pa, c', l, 0, ?_, HM.out, .inl ⟨bytes_of HQ.out HE.out, rfl⟩⟩
          rw [HLN.out]
          rfl
        · have HE := hid (HR.out.bad2 (by rw [numsS_len]; omega) (by rw [hsm]; exact hz))
          clear hsm
          go_wp2
          go_ret2
          exact ⟨none, 0, [], 3, rfl, (mine_nil _).over HM.out.below, .inr ⟨bytes_none HE.out, rfl, rfl⟩⟩
      · have hsm : B % 16 = B := by have := HP.out; omega
        by_cases hz : B = 0
        · have HE := hid (HR.out.end4 (by rw [numsS_len]; omega) (by rw [hsm]; exact hz))
          subst hz
          go_wp2
          go_ret2
          refine ⟨pa, c', l, 0, ?_, HM.out, .inl ⟨bytes_of HQ.out HE.out, rfl⟩⟩
          rw [HLN.out]
          rfl
        · have HE := hid (HR.out.bad4 (by rw [numsS_len]; omega) (by rw [hsm]; exact hz))
          clear hsm
          go_wp2
          go_ret2
          exact ⟨none, 0, [], 3, rfl, (mine_nil _).over HM.out.below, .inr ⟨bytes_none HE.out, rfl, rfl⟩⟩
      · exfalso
        have := HT.out
        have := HQ2.out
        omega
end Go.Proofs.YtnpijgpjakmkdaaDoor
