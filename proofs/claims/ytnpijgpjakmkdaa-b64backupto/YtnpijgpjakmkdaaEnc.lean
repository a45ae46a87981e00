/- Package b64's text of bytes. -/
import Derived.Test.YtnpijgpjakmkdaaBit
namespace Go.Proofs.Ytnpijgpjakmkdaa
open Go.RowKit

/-- The digits that are still to be written: cnt bits of B stand in none yet, xs is to come. -/
def pend (cnt : Nat) (B : Int) (xs : List Int) : List Int := match cnt with
  | 0 => encS 0 0 xs
  | 2 => encS 1 (B % 4) xs
  | 4 => encS 2 (B % 16) xs
  | 6 => (B % 64) :: encS 0 0 xs
  | 8 => (B / 4 % 64) :: encS 1 (B % 4) xs
  | 10 => (B / 16 % 64) :: encS 2 (B % 16) xs
  | 12 => (B / 64 % 64) :: (B % 64) :: encS 0 0 xs
  | _ => []
def Rel (bs : List Int) (i : Nat) (l : List Int) (B : Int) (cnt : Nat) : Prop := l ++ (pend cnt B (bs.drop i)).map chr = textL bs
theorem drop_at (bs : List Int) (i : Nat) (h : i < bs.length) : bs.drop i = bs.getD i 0 :: bs.drop (i + 1) := by
  rw [List.drop_eq_getElem_cons h, List.getD_eq_getElem?_getD, List.getElem?_eq_getElem h]
  rfl
theorem Rel.start (bs : List Int) : Rel bs 0 [] 0 0 := by
  unfold Rel pend textL
  simp
theorem Rel.byte {bs l : List Int} {i cnt : Nat} {B x B' : Int} (h : Rel bs i l B cnt) (hc : cnt = 0 ∨ cnt = 2 ∨ cnt = 4) (hi : i < bs.length) (hx : bs.getD i 0 = x) (hx0 : 0 ≤ x) (hx1 : x < 256) (hB : B * 256 % 4294967296 + x = B') : Rel bs (i + 1) l B' (cnt + 8) := by
  unfold Rel at h ⊢
  rw [← h, drop_at bs i hi, hx]
  congr 2
  rcases hc with rfl | rfl | rfl
  · simp only [pend, encS, if_true]
    rw [show B' / 4 % 64 = x / 4 by omega, show B' % 4 = x % 4 by omega]
  · simp [pend, encS]
    refine ⟨by omega, by rw [show B' % 16 = x % 16 by omega]⟩
  · simp [pend, encS]
    refine ⟨by omega, by omega⟩
theorem Rel.digit {bs l : List Int} {i cnt k : Nat} {B d : Int} (h : Rel bs i l B cnt) (hk : cnt = k + 6) (hc : k = 0 ∨ k = 2 ∨ k = 4 ∨ k = 6) (hd : B / 2 ^ k % 64 = d) : Rel bs i (l ++ [chr d]) B k := by
  subst hk
  subst hd
  unfold Rel at h ⊢
  rw [← h, List.append_assoc]
  congr 1
  rcases hc with rfl | rfl | rfl | rfl <;> simp [pend]
theorem Rel.done0 {bs l : List Int} {i : Nat} {B : Int} (h : Rel bs i l B 0) (hi : bs.length ≤ i) : l = textL bs := by
  unfold Rel at h
  rw [List.drop_of_length_le hi] at h
  simpa [pend, encS] using h
theorem Rel.done2 {bs l : List Int} {i : Nat} {B d : Int} (h : Rel bs i l B 2) (hi : bs.length ≤ i) (hd : B * 16 % 4294967296 % 64 = d) : l ++ [chr d] = textL bs := by
  unfold Rel at h
  rw [List.drop_of_length_le hi] at h
  rw [← h, show d = B % 4 * 16 by omega]
  simp [pend, encS]
theorem Rel.done4 {bs l : List Int} {i : Nat} {B d : Int} (h : Rel bs i l B 4) (hi : bs.length ≤ i) (hd : B * 4 % 4294967296 % 64 = d) : l ++ [chr d] = textL bs := by
  unfold Rel at h
  rw [List.drop_of_length_le hi] at h
  rw [← h, show d = B % 16 * 4 by omega]
  simp [pend, encS]
set_option maxRecDepth 20000 in
set_option maxHeartbeats 4000000 in
theorem encode_core (p : Option Addr) (N c : Nat) (bs : List Int) (w : World) (hv : ArgAt w (.slice p N c) bs) (hN : bs.length = N) (ho : Oct bs) (hM : N ≤ 140737488355328) :
    Calls Try.prog 4 #[.slice p N c] w fun e w' => e = .returned (.string (strOfNums (textL bs))) ∧ Below w.heap.size w w' := by
  have HV := hid hv
  have HN := hid hN
  have HO := hid ho
  have hNb : (N : Int) ≤ 140737488355328 := by omega
  have HL : Hid (N ≤ 1125899906842624) := by show _ ≤ _; omega
  have HL2 : Hid (lenN N ≤ 281474976710656) := by show _ ≤ _; unfold lenN; omega
  clear hv hN hM ho
  go_enter Try.func4, Try.ntmps4
  go_wp2_with (first
    | (go_at_call 8; (with_reducible refine (length_any N HL.out _).mono ?_); rintro e w' ⟨rfl, hw'⟩; have hw2 := hw'.symm; subst hw2)
    | (refine wpList_make_room rfl _ _ rfl rfl (lenN N) rfl HL2.out ?_; intro p0 W0 hm0; have M0 := hid hm0; clear hm0))
  go_loopw [3, 4, 5, 14] (fun v bv n i W => ∃ (T c cnt k : Nat) (pa : Option Addr) (B : Int) (l : List Int), v = .slice pa T c ∧ bv = .int .u32 B ∧ n = .int .i64 cnt ∧ i = .int .i64 k ∧ k ≤ N ∧ 0 ≤ B ∧ B < 4294967296 ∧
      Hid (cnt = 0 ∨ cnt = 2 ∨ cnt = 4) ∧ Hid (6 * T + cnt = 8 * k) ∧ Hid (l.length = T) ∧ Hid (Mine w W pa c l) ∧ Hid (Rel bs k l B cnt)) (fun _ _ _ i _ => N - (intOf i).toNat)
  case atStart => exact ⟨0, _, 0, 0, p0, 0, [], rfl, rfl, rfl, rfl, Nat.zero_le _, by omega, by omega, .inl rfl, rfl, rfl, M0, Rel.start bs⟩
  case round =>
    obtain ⟨T, c', cnt, k, pa, B, l, rfl, rfl, rfl, rfl, hk, hB0, hB1, HC, HT, HLN, HM, HR⟩ := hrel
    obtain ⟨V, hV⟩ : ∃ V, V = wr := ⟨_, rfl⟩
    rw [← hV] at HM ⊢
    clear hV
    by_cases hlt : k < N
    · have hlt' : (k : Int) < N := by omega
      obtain ⟨b, o, rfl, _, c0⟩ := (HV.out.below HM.out.below).cell HN.out k hlt
      have hx := getD_bd HO.out k
      obtain ⟨x, HX⟩ : ∃ x, Hid (bs.getD k 0 = x) := ⟨_, hid rfl⟩
      rw [HX.out] at c0 hx
      obtain ⟨hx0, hx1⟩ := hx
      have hor := or8 B x hx0 hx1
      obtain ⟨B', HB'⟩ : ∃ B', Hid (B * 256 % 4294967296 + x = B') := ⟨_, hid rfl⟩
      rw [HB'.out] at hor
      have hB'0 : 0 ≤ B' := by have := HB'.out; omega
      have hB'1 : B' < 4294967296 := by have := HB'.out; omega
      have HR' := hid (HR.out.byte HC.out (by rw [HN.out]; exact hlt) HX.out hx0 hx1 HB'.out)
      have hcb : (cnt : Int) ≤ 4 := by have := HC.out; omega
      go_wp2
      go_loopw [3, 5] (fun v n W => ∃ (T2 c2 m : Nat) (pb : Option Addr) (l2 : List Int), v = .slice pb T2 c2 ∧ n = .int .i64 m ∧ Hid (m = cnt + 8 ∨ m = 0 ∨ m = 2 ∨ m = 4 ∨ m = 6) ∧ Hid (6 * T2 + m = 8 * (k + 1)) ∧ Hid (l2.length = T2) ∧ Hid (Mine w W pb c2 l2) ∧ Hid (Rel bs (k + 1) l2 B' m)) (fun _ n _ => (intOf n).toNat)
      case atStart =>
        refine ⟨T, c', cnt + 8, pa, l, rfl, by go_num, .inl rfl, ?_, HLN, HM, HR'⟩
        have := HT.out
        show _ = _
        omega
      case round =>
        obtain ⟨T2, c2, m, pb, l2, rfl, rfl, HMM, HT2, HL3, HM2, HR2⟩ := hrel
        obtain ⟨V2, hV2⟩ : ∃ V2, V2 = wr := ⟨_, rfl⟩
        rw [← hV2] at HM2 ⊢
        clear hV2
        have hmm : m = 0 ∨ m = 2 ∨ m = 4 ∨ m = 6 ∨ m = 8 ∨ m = 10 ∨ m = 12 := by have := HMM.out; have := HC.out; omega
        clear HMM hor c0 HM HR HR' HLN
        rcases hmm with rfl | rfl | rfl | rfl | rfl | rfl | rfl
        · go_wp2
          go_roundw
          case rel => exact ⟨T2, c2, 0, k + 1, pb, B', l2, rfl, rfl, rfl, by go_num, by omega, hB'0, hB'1, hid (by decide), HT2, HL3, HM2, HR2⟩
          case measure => simp [intOf]; omega
        · go_wp2
          go_roundw
          case rel => exact ⟨T2, c2, 2, k + 1, pb, B', l2, rfl, rfl, rfl, by go_num, by omega, hB'0, hB'1, hid (by decide), HT2, HL3, HM2, HR2⟩
          case measure => simp [intOf]; omega
        · go_wp2
          go_roundw
          case rel => exact ⟨T2, c2, 4, k + 1, pb, B', l2, rfl, rfl, rfl, by go_num, by omega, hB'0, hB'1, hid (by decide), HT2, HL3, HM2, HR2⟩
          case measure => simp [intOf]; omega
        · have hand := and63 (B') (by omega) (by omega)
          obtain ⟨D, HD⟩ : ∃ D, Hid (B' % 64 = D) := ⟨_, hid rfl⟩
          have hD0 : 0 ≤ D := by have := HD.out; omega
          have hD1 : D < 64 := by have := HD.out; omega
          rw [HD.out] at hand
          have hix := at_abcI .u32 D hD0 hD1
          unfold abc at hix
          obtain ⟨y, HY⟩ : ∃ y, Hid (chr D = y) := ⟨_, hid rfl⟩
          rw [HY.out] at hix
          have HKB : Hid (T2 ≤ 200000000000000) := by show _ ≤ _; have := HT2.out; omega
          have HR3 := hid (HR2.out.digit (k := 0) (d := D) rfl (by omega) (by have := HD.out; simpa using this))
          rw [HY.out] at HR3
          go_wp2_with (refine wpList_append_byte (w0 := w) rfl _ _ rfl pb T2 c2 rfl _ HL3.out (HM2.out.next (below_new _ _)) _ rfl y (one_arg _ _) HKB.out ?_; intro p1 c1 W1 hm1; have M1 := hid hm1; clear hm1)
          go_roundw
          case rel =>
            refine ⟨T2 + 1, c1, 0, p1, l2 ++ [y], rfl, rfl, .inr (by decide), ?_, ?_, M1, HR3⟩
            · have := HT2.out; show _ = _; omega
            · show _ = _; rw [List.length_append, HL3.out]; rfl
          case measure => simp [intOf]
        · have hand := and63 (B' / 4) (by omega) (by omega)
          obtain ⟨D, HD⟩ : ∃ D, Hid (B' / 4 % 64 = D) := ⟨_, hid rfl⟩
          have hD0 : 0 ≤ D := by have := HD.out; omega
          have hD1 : D < 64 := by have := HD.out; omega
          rw [HD.out] at hand
          have hix := at_abcI .u32 D hD0 hD1
          unfold abc at hix
          obtain ⟨y, HY⟩ : ∃ y, Hid (chr D = y) := ⟨_, hid rfl⟩
          rw [HY.out] at hix
          have HKB : Hid (T2 ≤ 200000000000000) := by show _ ≤ _; have := HT2.out; omega
          have HR3 := hid (HR2.out.digit (k := 2) (d := D) rfl (by omega) (by have := HD.out; simpa using this))
          rw [HY.out] at HR3
          go_wp2_with (refine wpList_append_byte (w0 := w) rfl _ _ rfl pb T2 c2 rfl _ HL3.out (HM2.out.next (below_new _ _)) _ rfl y (one_arg _ _) HKB.out ?_; intro p1 c1 W1 hm1; have M1 := hid hm1; clear hm1)
          go_roundw
          case rel =>
            refine ⟨T2 + 1, c1, 2, p1, l2 ++ [y], rfl, rfl, .inr (by decide), ?_, ?_, M1, HR3⟩
            · have := HT2.out; show _ = _; omega
            · show _ = _; rw [List.length_append, HL3.out]; rfl
          case measure => simp [intOf]
        · have hand := and63 (B' / 16) (by omega) (by omega)
          obtain ⟨D, HD⟩ : ∃ D, Hid (B' / 16 % 64 = D) := ⟨_, hid rfl⟩
          have hD0 : 0 ≤ D := by have := HD.out; omega
          have hD1 : D < 64 := by have := HD.out; omega
          rw [HD.out] at hand
          have hix := at_abcI .u32 D hD0 hD1
          unfold abc at hix
          obtain ⟨y, HY⟩ : ∃ y, Hid (chr D = y) := ⟨_, hid rfl⟩
          rw [HY.out] at hix
          have HKB : Hid (T2 ≤ 200000000000000) := by show _ ≤ _; have := HT2.out; omega
          have HR3 := hid (HR2.out.digit (k := 4) (d := D) rfl (by omega) (by have := HD.out; simpa using this))
          rw [HY.out] at HR3
          go_wp2_with (refine wpList_append_byte (w0 := w) rfl _ _ rfl pb T2 c2 rfl _ HL3.out (HM2.out.next (below_new _ _)) _ rfl y (one_arg _ _) HKB.out ?_; intro p1 c1 W1 hm1; have M1 := hid hm1; clear hm1)
          go_roundw
          case rel =>
            refine ⟨T2 + 1, c1, 4, p1, l2 ++ [y], rfl, rfl, .inr (by decide), ?_, ?_, M1, HR3⟩
            · have := HT2.out; show _ = _; omega
            · show _ = _; rw [List.length_append, HL3.out]; rfl
          case measure => simp [intOf]
        · have hand := and63 (B' / 64) (by omega) (by omega)
          obtain ⟨D, HD⟩ : ∃ D, Hid (B' / 64 % 64 = D) := ⟨_, hid rfl⟩
          have hD0 : 0 ≤ D := by have := HD.out; omega
          have hD1 : D < 64 := by have := HD.out; omega
          rw [HD.out] at hand
          have hix := at_abcI .u32 D hD0 hD1
          unfold abc at hix
          obtain ⟨y, HY⟩ : ∃ y, Hid (chr D = y) := ⟨_, hid rfl⟩
          rw [HY.out] at hix
          have HKB : Hid (T2 ≤ 200000000000000) := by show _ ≤ _; have := HT2.out; omega
          have HR3 := hid (HR2.out.digit (k := 6) (d := D) rfl (by omega) (by have := HD.out; simpa using this))
          rw [HY.out] at HR3
          go_wp2_with (refine wpList_append_byte (w0 := w) rfl _ _ rfl pb T2 c2 rfl _ HL3.out (HM2.out.next (below_new _ _)) _ rfl y (one_arg _ _) HKB.out ?_; intro p1 c1 W1 hm1; have M1 := hid hm1; clear hm1)
          go_roundw
          case rel =>
            refine ⟨T2 + 1, c1, 6, p1, l2 ++ [y], rfl, rfl, .inr (by decide), ?_, ?_, M1, HR3⟩
            · have := HT2.out; show _ = _; omega
            · show _ = _; rw [List.length_append, HL3.out]; rfl
          case measure => simp [intOf]
    · have hlt' : ¬ (k : Int) < N := by omega
      have hcc := HC.out
      rcases hcc with rfl | rfl | rfl
      · have e := HR.out.done0 (by rw [HN.out]; omega)
        have hcv := HM.out.arg.conv
        rw [HLN.out, e] at hcv
        have HB := hid HM.out.below
        go_wp2
        go_ret
        exact ⟨rfl, HB.out⟩
      · have hand := and63 (B * 16 % 4294967296) (by omega) (by omega)
        obtain ⟨D, HD⟩ : ∃ D, Hid (B * 16 % 4294967296 % 64 = D) := ⟨_, hid rfl⟩
        have hD0 : 0 ≤ D := by have := HD.out; omega
        have hD1 : D < 64 := by have := HD.out; omega
        rw [HD.out] at hand
        have hix := at_abcI .u32 D hD0 hD1
        unfold abc at hix
        have HE := hid (HR.out.done2 (by rw [HN.out]; omega) HD.out)
        obtain ⟨y, HY⟩ : ∃ y, Hid (chr D = y) := ⟨_, hid rfl⟩
        rw [HY.out] at hix HE
        have HKB : Hid (T ≤ 200000000000000) := by show _ ≤ _; have := HT.out; omega
        have HTX : Hid ((textL bs).length = T + 1) := by show _ = _; rw [← HE.out, List.length_append, HLN.out]; rfl
        go_wp2_with (first
          | (refine wpList_append_byte (w0 := w) rfl _ _ rfl pa T c' rfl _ HLN.out (HM.out.next (below_new _ _)) _ rfl y (one_arg _ _) HKB.out ?_; intro p1 c1 W1 hm1; rw [HE.out] at hm1; have hcv := hm1.arg.conv; rw [HTX.out] at hcv; have HB := hid hm1.below; clear hm1))
        go_ret
        exact ⟨rfl, HB.out⟩
      · have hand := and63 (B * 4 % 4294967296) (by omega) (by omega)
        obtain ⟨D, HD⟩ : ∃ D, Hid (B * 4 % 4294967296 % 64 = D) := ⟨_, hid rfl⟩
        have hD0 : 0 ≤ D := by have := HD.out; omega
        have hD1 : D < 64 := by have := HD.out; omega
        rw [HD.out] at hand
        have hix := at_abcI .u32 D hD0 hD1
        unfold abc at hix
        have HE := hid (HR.out.done4 (by rw [HN.out]; omega) HD.out)
        obtain ⟨y, HY⟩ : ∃ y, Hid (chr D = y) := ⟨_, hid rfl⟩
        rw [HY.out] at hix HE
        have HKB : Hid (T ≤ 200000000000000) := by show _ ≤ _; have := HT.out; omega
        have HTX : Hid ((textL bs).length = T + 1) := by show _ = _; rw [← HE.out, List.length_append, HLN.out]; rfl
        go_wp2_with (first
          | (refine wpList_append_byte (w0 := w) rfl _ _ rfl pa T c' rfl _ HLN.out (HM.out.next (below_new _ _)) _ rfl y (one_arg _ _) HKB.out ?_; intro p1 c1 W1 hm1; rw [HE.out] at hm1; have hcv := hm1.arg.conv; rw [HTX.out] at hcv; have HB := hid hm1.below; clear hm1))
        go_ret
        exact ⟨rfl, HB.out⟩
theorem encode_any {w : World} {v : Value} {bs : List Int} (hv : ArgAt w v bs) (ho : Oct bs) (hM : bs.length ≤ 140737488355328) :
    Calls Try.prog 4 #[v] w fun e w' => e = .returned (.string (strOfNums (textL bs))) ∧ Below w.heap.size w w' := by
  obtain ⟨p, N, c, rfl, hN⟩ := hv.form
  exact encode_core p N c bs w hv hN ho (by omega)
end Go.Proofs.Ytnpijgpjakmkdaa
