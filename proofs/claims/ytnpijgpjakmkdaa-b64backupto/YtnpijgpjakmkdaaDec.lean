/- Package b64's bytes of a text. -/
import Derived.Test.YtnpijgpjakmkdaaEnc
namespace Go.Proofs.Ytnpijgpjakmkdaa
open Go.RowKit

def numsS (s : ByteArray) : List Int := s.data.toList.map fun b => (b.toNat : Int)
theorem numsS_len (s : ByteArray) : (numsS s).length = s.size := by simp [numsS]
theorem numsS_at (s : ByteArray) (k : Nat) (h : k < s.size) : (numsS s).getD k 0 = (s[k].toNat : Int) := by
  unfold numsS
  rw [List.getD_eq_getElem?_getD, List.getElem?_map, List.getElem?_eq_getElem (by simpa using h)]
  rfl
/-- What is still to be read: cnt bits of B stand in no byte yet, xs is to come. -/
def left (cnt : Nat) (B : Int) (xs : List Int) : Option (List Int) := match cnt with
  | 0 => decS 0 0 xs
  | 6 => decS 1 (B % 64) xs
  | 4 => decS 2 (B % 16) xs
  | 2 => decS 3 (B % 4) xs
  | _ => none
def DRel (s : List Int) (k : Nat) (l : List Int) (B : Int) (cnt : Nat) : Prop := decS 0 0 s = (left cnt B (s.drop k)).map (l ++ ·)
theorem DRel.start (s : List Int) : DRel s 0 [] 0 0 := by
  unfold DRel left
  simp
section
variable {s l : List Int} {k : Nat} {B x d B' : Int}
theorem DRel.step0 (h : DRel s k l B 0) (hk : k < s.length) (hx : s.getD k 0 = x) (hv : val x = some d) (hB : B * 64 % 4294967296 + d = B') : DRel s (k + 1) l B' 6 := by
  obtain ⟨_, h0, h1⟩ := chr_val x d hv
  unfold DRel at h ⊢
  rw [h, drop_at s k hk, hx]
  simp only [left, decS, hv, if_true]
  rw [show B' % 64 = d by omega]
theorem DRel.step6 (h : DRel s k l B 6) (hk : k < s.length) (hx : s.getD k 0 = x) (hv : val x = some d) (hB : B * 64 % 4294967296 + d = B') : DRel s (k + 1) (l ++ [B' / 16 % 256]) B' 4 := by
  obtain ⟨_, h0, h1⟩ := chr_val x d hv
  unfold DRel at h ⊢
  rw [h, drop_at s k hk, hx]
  simp only [left, decS, hv, Nat.one_ne_zero, if_false, if_true]
  rw [show B' % 16 = d % 16 by omega, show B' / 16 % 256 = B % 64 * 4 + d / 16 by omega, Option.map_map]
  congr 1
  funext y
  simp
theorem DRel.step4 (h : DRel s k l B 4) (hk : k < s.length) (hx : s.getD k 0 = x) (hv : val x = some d) (hB : B * 64 % 4294967296 + d = B') : DRel s (k + 1) (l ++ [B' / 4 % 256]) B' 2 := by
  obtain ⟨_, h0, h1⟩ := chr_val x d hv
  unfold DRel at h ⊢
  rw [h, drop_at s k hk, hx]
  simp only [left, decS, hv]
  rw [show B' % 4 = d % 4 by omega, show B' / 4 % 256 = B % 16 * 16 + d / 4 by omega]
  simp [Option.map_map]
  congr 1
theorem DRel.step2 (h : DRel s k l B 2) (hk : k < s.length) (hx : s.getD k 0 = x) (hv : val x = some d) (hB : B * 64 % 4294967296 + d = B') : DRel s (k + 1) (l ++ [B' % 256]) B' 0 := by
  obtain ⟨_, h0, h1⟩ := chr_val x d hv
  unfold DRel at h ⊢
  rw [h, drop_at s k hk, hx]
  simp only [left, decS, hv]
  rw [show B' % 256 = B % 4 * 64 + d by omega]
  simp [Option.map_map]
  congr 1
theorem DRel.bad {cnt : Nat} (h : DRel s k l B cnt) (hk : k < s.length) (hx : s.getD k 0 = x) (hv : val x = none) : decS 0 0 s = none := by
  unfold DRel at h
  rw [h, drop_at s k hk, hx]
  unfold left
  split <;> simp [decS, hv]
theorem DRel.end0 (h : DRel s k l B 0) (hk : s.length ≤ k) : decS 0 0 s = some l := by
  unfold DRel at h
  rw [h, List.drop_of_length_le hk]
  simp [left, decS]
theorem DRel.end4 (h : DRel s k l B 4) (hk : s.length ≤ k) (hz : B % 16 = 0) : decS 0 0 s = some l := by
  unfold DRel at h
  rw [h, List.drop_of_length_le hk]
  simp [left, decS, hz]
theorem DRel.end2 (h : DRel s k l B 2) (hk : s.length ≤ k) (hz : B % 4 = 0) : decS 0 0 s = some l := by
  unfold DRel at h
  rw [h, List.drop_of_length_le hk]
  simp [left, decS, hz]
theorem DRel.bad4 (h : DRel s k l B 4) (hk : s.length ≤ k) (hz : ¬ B % 16 = 0) : decS 0 0 s = none := by
  unfold DRel at h
  rw [h, List.drop_of_length_le hk]
  simp [left, decS, hz]
theorem DRel.bad2 (h : DRel s k l B 2) (hk : s.length ≤ k) (hz : ¬ B % 4 = 0) : decS 0 0 s = none := by
  unfold DRel at h
  rw [h, List.drop_of_length_le hk]
  simp [left, decS, hz]
theorem bytes_of (hq : s.length % 4 ≠ 1) (h : decS 0 0 s = some l) : bytesL s = some l := by rw [bytesL, if_neg hq, h]
theorem bytes_none (h : decS 0 0 s = none) : bytesL s = none := by
  unfold bytesL
  split
  · rfl
  · exact h
end
/-- What Decode answers: bytes, or nothing and error 3. -/
def Told (s l : List Int) (k : Int) : Prop := (bytesL s = some l ∧ k = 0) ∨ (bytesL s = none ∧ l = [] ∧ k = 3)
theorem Mine.over {w w' : World} (_ : Mine w w none 0 []) (h : Below w.heap.size w w') : Mine w w' none 0 [] := ⟨h, Nat.le_refl _, Nat.zero_le _, fun _ => ⟨rfl, rfl⟩, fun a ha => by simp at ha⟩
theorem and0 (y : Int) (h0 : 0 ≤ y) (h1 : y < 4294967296) : bits .and .u32 y 0 = 0 := (bits_mask .u32 32 (by decide) wraps_u32 0 (by decide) y h0 (by omega)).trans (by omega)
theorem and3 (y : Int) (h0 : 0 ≤ y) (h1 : y < 4294967296) : bits .and .u32 y 3 = y % 4 := bits_mask .u32 32 (by decide) wraps_u32 2 (by decide) y h0 (by omega)
theorem and15 (y : Int) (h0 : 0 ≤ y) (h1 : y < 4294967296) : bits .and .u32 y 15 = y % 16 := bits_mask .u32 32 (by decide) wraps_u32 4 (by decide) y h0 (by omega)
set_option maxRecDepth 20000 in
set_option maxHeartbeats 4000000 in
theorem decode_any (s : ByteArray) (w : World) (hM : s.size ≤ 140737488355328) :
    Calls Try.prog 5 #[.string s] w fun e w' => ∃ pa c l k, e = .returned (.tuple #[.slice pa l.length c, errV k]) ∧ Mine w w' pa c l ∧ Told (numsS s) l k := by
  have hMb : (s.size : Int) ≤ 140737488355328 := by omega
  by_cases hq : s.size % 4 = 1
  · have hq' : (s.size : Int) % 4 = 1 := by omega
    have HE : Hid (bytesL (numsS s) = none) := by show _ = _; rw [bytesL, if_pos (by rw [numsS_len]; exact hq)]
    go_enter Try.func5, Try.ntmps5
    go_wp2
    go_ret2
    exact ⟨none, 0, [], 3, rfl, mine_nil _, .inr ⟨HE.out, rfl, rfl⟩⟩
  have hq' : ¬ (s.size : Int) % 4 = 1 := by omega
  have HQ : Hid ((numsS s).length % 4 ≠ 1) := by show _ ≠ _; rw [numsS_len]; exact hq
  obtain ⟨R, hR⟩ : ∃ R : Nat, R = s.size * 3 / 4 := ⟨_, rfl⟩
  have hR' : (s.size : Int) * 3 / 4 = R := by omega
  have HRR : Hid (R ≤ 281474976710656) := by show _ ≤ _; omega
  clear hR hM hq
  go_enter Try.func5, Try.ntmps5
  go_wp2_with (refine wpList_make_int rfl _ _ rfl rfl _ rfl R hR' HRR.out ?_; intro p0 W0 hm0; have M0 := hid hm0; clear hm0)
  go_loopw [4, 5, 6, 22] (fun v bv n i W => ∃ (T c cnt k : Nat) (pa : Option Addr) (B : Int) (l : List Int), v = .slice pa T c ∧ bv = .int .u32 B ∧ n = .int .i64 cnt ∧ i = .int .i64 k ∧ k ≤ s.size ∧ 0 ≤ B ∧ B < 4294967296 ∧
      Hid (cnt = 0 ∨ cnt = 2 ∨ cnt = 4 ∨ cnt = 6) ∧ Hid (8 * T + cnt = 6 * k) ∧ Hid (l.length = T) ∧ Hid (Mine w W pa c l) ∧ Hid (DRel (numsS s) k l B cnt)) (fun _ _ _ i _ => s.size - (intOf i).toNat)
  case atStart => exact ⟨0, _, 0, 0, p0, 0, [], rfl, rfl, rfl, rfl, Nat.zero_le _, by omega, by omega, .inl rfl, rfl, rfl, M0, DRel.start _⟩
  case round =>
    obtain ⟨T, c', cnt, k, pa, B, l, rfl, rfl, rfl, rfl, hk, hB0, hB1, HC, HT, HLN, HM, HR⟩ := hrel
    obtain ⟨V, hV⟩ : ∃ V, V = wr := ⟨_, rfl⟩
    rw [← hV] at HM ⊢
    clear hV
    by_cases hlt : k < s.size
    · have hlt' : (k : Int) < s.size := by omega
      have hxn := s[k].toNat_lt
      have hx0 : (0 : Int) ≤ (s[k].toNat : Int) := by omega
      have hx1 : (s[k].toNat : Int) < 256 := by omega
      cases hvl : val (s[k].toNat : Int) with
      | none =>
        have HVL := hid hvl
        have HE := hid (HR.out.bad (by rw [numsS_len]; exact hlt) (numsS_at s k hlt) hvl)
        clear hvl
        go_wp2_with (go_at_call 9; (with_reducible refine (digit_any _ hx0 hx1 _).mono ?_); rintro e w' ⟨rfl, hw'⟩; have hw2 := hw'.symm; subst hw2; rw [HVL.out])
        go_ret2
        exact ⟨none, 0, [], 3, rfl, (mine_nil _).over HM.out.below, .inr ⟨bytes_none HE.out, rfl, rfl⟩⟩
      | some d =>
        have HVL := hid hvl
        obtain ⟨_, hd0, hd1⟩ := chr_val _ d hvl
        clear hvl
        have hor := or6 B d hd0 hd1
        obtain ⟨B', HB'⟩ : ∃ B', Hid (B * 64 % 4294967296 + d = B') := ⟨_, hid rfl⟩
        rw [HB'.out] at hor
        have hB'0 : 0 ≤ B' := by have := HB'.out; omega
        have hB'1 : B' < 4294967296 := by have := HB'.out; omega
        have hcc := HC.out
        rcases hcc with rfl | rfl | rfl | rfl
        · have HR' := hid (HR.out.step0 (by rw [numsS_len]; exact hlt) (numsS_at s k hlt) HVL.out HB'.out)
          go_wp2_with (go_at_call 9; (with_reducible refine (digit_any _ hx0 hx1 _).mono ?_); rintro e w' ⟨rfl, hw'⟩; have hw2 := hw'.symm; subst hw2; rw [HVL.out])
          go_roundw
          case rel => exact ⟨T, c', 6, k + 1, pa, B', l, rfl, rfl, rfl, by go_num, by omega, hB'0, hB'1, hid (by decide), by have := HT.out; show _ = _; omega, HLN, HM, HR'⟩
          case measure => simp [intOf]; omega
        · have HR' := hid (HR.out.step2 (by rw [numsS_len]; exact hlt) (numsS_at s k hlt) HVL.out HB'.out)
          obtain ⟨y, HY⟩ : ∃ y, Hid (B' % 256 = y) := ⟨_, hid rfl⟩
          have hy := HY.out
          rw [HY.out] at HR'
          have HKB : Hid (T ≤ 200000000000000) := by show _ ≤ _; have := HT.out; omega
          go_wp2_with (first
            | (go_at_call 9; (with_reducible refine (digit_any _ hx0 hx1 _).mono ?_); rintro e w' ⟨rfl, hw'⟩; have hw2 := hw'.symm; subst hw2; rw [HVL.out])
            | (refine wpList_append_byte (w0 := w) rfl _ _ rfl pa T c' rfl _ HLN.out (HM.out.next (below_new _ _)) _ rfl y (one_arg _ _) HKB.out ?_; intro p1 c1 W1 hm1; have M1 := hid hm1; clear hm1))
          go_roundw
          case rel =>
            refine ⟨T + 1, c1, 0, k + 1, p1, B', l ++ [y], rfl, rfl, rfl, by go_num, by omega, hB'0, hB'1, hid (by decide), ?_, ?_, M1, HR'⟩
            · have := HT.out; show _ = _; omega
            · show _ = _; rw [List.length_append, HLN.out]; rfl
          case measure => simp [intOf]; omega
        · have HR' := hid (HR.out.step4 (by rw [numsS_len]; exact hlt) (numsS_at s k hlt) HVL.out HB'.out)
          obtain ⟨y, HY⟩ : ∃ y, Hid (B' / 4 % 256 = y) := ⟨_, hid rfl⟩
          have hy := HY.out
          rw [HY.out] at HR'
          have HKB : Hid (T ≤ 200000000000000) := by show _ ≤ _; have := HT.out; omega
          go_wp2_with (first
            | (go_at_call 9; (with_reducible refine (digit_any _ hx0 hx1 _).mono ?_); rintro e w' ⟨rfl, hw'⟩; have hw2 := hw'.symm; subst hw2; rw [HVL.out])
            | (refine wpList_append_byte (w0 := w) rfl _ _ rfl pa T c' rfl _ HLN.out (HM.out.next (below_new _ _)) _ rfl y (one_arg _ _) HKB.out ?_; intro p1 c1 W1 hm1; have M1 := hid hm1; clear hm1))
          go_roundw
          case rel =>
            refine ⟨T + 1, c1, 2, k + 1, p1, B', l ++ [y], rfl, rfl, rfl, by go_num, by omega, hB'0, hB'1, hid (by decide), ?_, ?_, M1, HR'⟩
            · have := HT.out; show _ = _; omega
            · show _ = _; rw [List.length_append, HLN.out]; rfl
          case measure => simp [intOf]; omega
        · have HR' := hid (HR.out.step6 (by rw [numsS_len]; exact hlt) (numsS_at s k hlt) HVL.out HB'.out)
          obtain ⟨y, HY⟩ : ∃ y, Hid (B' / 16 % 256 = y) := ⟨_, hid rfl⟩
          have hy := HY.out
          rw [HY.out] at HR'
          have HKB : Hid (T ≤ 200000000000000) := by show _ ≤ _; have := HT.out; omega
          go_wp2_with (first
            | (go_at_call 9; (with_reducible refine (digit_any _ hx0 hx1 _).mono ?_); rintro e w' ⟨rfl, hw'⟩; have hw2 := hw'.symm; subst hw2; rw [HVL.out])
            | (refine wpList_append_byte (w0 := w) rfl _ _ rfl pa T c' rfl _ HLN.out (HM.out.next (below_new _ _)) _ rfl y (one_arg _ _) HKB.out ?_; intro p1 c1 W1 hm1; have M1 := hid hm1; clear hm1))
          go_roundw
          case rel =>
            refine ⟨T + 1, c1, 4, k + 1, p1, B', l ++ [y], rfl, rfl, rfl, by go_num, by omega, hB'0, hB'1, hid (by decide), ?_, ?_, M1, HR'⟩
            · have := HT.out; show _ = _; omega
            · show _ = _; rw [List.length_append, HLN.out]; rfl
          case measure => simp [intOf]; omega
    · have hlt' : ¬ (k : Int) < s.size := by omega
      have HQ2 : Hid (k % 4 ≠ 1) := by
        have := HQ.out
        rw [numsS_len] at this
        show _ ≠ _
        rw [show k = s.size by omega]
        exact this
      have hcc := HC.out
      rcases hcc with rfl | rfl | rfl | rfl
      · have HE := hid (HR.out.end0 (by rw [numsS_len]; omega))
        have hand := and0 B hB0 hB1
        go_wp2
        go_ret2
        refine ⟨pa, c', l, 0, ?_, HM.out, .inl ⟨bytes_of HQ.out HE.out, rfl⟩⟩
        rw [HLN.out]
        rfl
      · have hand := and3 B hB0 hB1
        by_cases hz : B % 4 = 0
        · rw [hz] at hand
          have HE := hid (HR.out.end2 (by rw [numsS_len]; omega) hz)
          clear hz
          go_wp2
          go_ret2
          refine ⟨pa, c', l, 0, ?_, HM.out, .inl ⟨bytes_of HQ.out HE.out, rfl⟩⟩
          rw [HLN.out]
          rfl
        · have HE := hid (HR.out.bad2 (by rw [numsS_len]; omega) hz)
          obtain ⟨z, hz'⟩ : ∃ z, B % 4 = z := ⟨_, rfl⟩
          rw [hz'] at hand hz
          clear hz'
          go_wp2
          go_ret2
          exact ⟨none, 0, [], 3, rfl, (mine_nil _).over HM.out.below, .inr ⟨bytes_none HE.out, rfl, rfl⟩⟩
      · have hand := and15 B hB0 hB1
        by_cases hz : B % 16 = 0
        · rw [hz] at hand
          have HE := hid (HR.out.end4 (by rw [numsS_len]; omega) hz)
          clear hz
          go_wp2
          go_ret2
          refine ⟨pa, c', l, 0, ?_, HM.out, .inl ⟨bytes_of HQ.out HE.out, rfl⟩⟩
          rw [HLN.out]
          rfl
        · have HE := hid (HR.out.bad4 (by rw [numsS_len]; omega) hz)
          obtain ⟨z, hz'⟩ : ∃ z, B % 16 = z := ⟨_, rfl⟩
          rw [hz'] at hand hz
          clear hz'
          go_wp2
          go_ret2
          exact ⟨none, 0, [], 3, rfl, (mine_nil _).over HM.out.below, .inr ⟨bytes_none HE.out, rfl, rfl⟩⟩
      · exfalso
        have := HT.out
        have := HQ2.out
        omega
end Go.Proofs.Ytnpijgpjakmkdaa
