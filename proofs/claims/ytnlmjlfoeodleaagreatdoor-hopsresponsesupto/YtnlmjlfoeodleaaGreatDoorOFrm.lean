/- Numbers as texts on both sides; fields held against others, field by field, and copied. -/
import Derived.Test.YtnlmjlfoeodleaaGreatDoorOAdd
import Derived.Test.YtnlmjlfoeodleaaGreatDoorWWritten
namespace Go.Proofs.YtnlmjlfoeodleaaGreatDoor
open Go.RowKit

theorem itoa_pos (k : Nat) (h : k < 18446744073709551616) : (⟨(told 10 k).toArray⟩ : ByteArray) = ⟨(Lib.itoa (k : Int)).toArray⟩ := by
  rw [Lib.itoa_nonneg, told_dec k h]
theorem itoa_minus (k : Nat) (h1 : 1 ≤ k) (h : k < 18446744073709551616) : ({ data := #[45] } : ByteArray) ++ { data := (told 10 k).toArray } = ⟨(Lib.itoa (-(k : Int))).toArray⟩ := by
  rw [Lib.itoa_neg k h1, told_dec k h]
  apply ByteArray.ext
  simp
theorem told_len10 : ∀ (f u : Nat) (l : List UInt8), (toldL 10 f u l).length ≤ f + l.length
  | 0, u, l => by unfold toldL; simp
  | f + 1, u, l => by
    unfold toldL
    split
    · simp; omega
    · have h := told_len10 f (u / 10) (digC (u % 10) :: l)
      simp only [List.length_cons] at h
      omega
theorem told_few (k : Nat) : (told 10 k).length ≤ 64 := by
  have h := told_len10 64 k []
  simpa [told] using h
theorem itoa_few (n : Int) : (Lib.itoa n).length ≤ 65 ∨ 9223372036854775809 ≤ n.natAbs := by
  by_cases h0 : 9223372036854775809 ≤ n.natAbs
  · exact .inr h0
  · left
    by_cases h : n < 0
    · obtain ⟨k, rfl⟩ : ∃ k : Nat, n = -(k : Int) := ⟨n.natAbs, by omega⟩
      rw [Lib.itoa_neg k (by omega), ← told_dec k (by omega), List.length_cons]
      have := told_few k
      omega
    · obtain ⟨k, rfl⟩ : ∃ k : Nat, n = k := ⟨n.toNat, by omega⟩
      rw [Lib.itoa_nonneg, ← told_dec k (by omega)]
      have := told_few k
      omega
set_option maxHeartbeats 400000 in
theorem ptext (n : Int) (w : World) (h0 : -9223372036854775808 ≤ n) (h1 : n ≤ 9223372036854775807) (hE : EnvP w) :
    Calls Tryz.prog 43 #[.int .i64 n] w fun e w' => e = .returned (.string (str (Lib.itoa n))) ∧ Below w.heap.size w w' := by
  have HC := hid (Tryz.strconv_Itoa n h0 h1 w hE)
  go_enter Tryz.func43, Tryz.ntmps43
  go_wp2_with (go_at_call 81; (with_reducible refine HC.out.mono ?_); rintro e w' ⟨rfl, k, os, rfl⟩)
  go_ret
  exact ⟨rfl, Lib.below_grow _ _ (Nat.le_refl _) _ _⟩
set_option maxHeartbeats 1000000 in
theorem dtext (n : Int) (w : World) (h0 : -9223372036854775808 ≤ n) (h1 : n ≤ 9223372036854775807) :
    Calls Tryz.prog 54 #[.int .i64 n] w fun e w' => e = .returned (.string (str (Lib.itoa n))) ∧ Below w.heap.size w w' := by
  by_cases h : n < 0
  · obtain ⟨k, rfl⟩ : ∃ k : Nat, n = -(k : Int) := ⟨n.natAbs, by omega⟩
    have hx := Lib.hid (itoa_minus k (by omega) (by omega))
    have hw : IntKind.u64.wrap (-IntKind.u64.wrap (-(k : Int))) = k := by rw [IntKind.wrap_u64, IntKind.wrap_u64]; omega
    have hlen : (told 10 k).length ≤ 64 := told_few k
    go_enter Tryz.func54, Tryz.ntmps54
    go_wp2_with (go_at_call 92; refine (told10_any k _ (by omega)).mono ?_; rintro e w' ⟨rfl, m, rfl⟩)
    go_ret
    exact ⟨congrArg (fun s => Ending.returned (Value.string s)) hx.out, below_drewN' _ _⟩
  · obtain ⟨k, rfl⟩ : ∃ k : Nat, n = k := ⟨n.toNat, by omega⟩
    have hx := Lib.hid (itoa_pos k (by omega))
    have hw : IntKind.u64.wrap (k : Int) = k := by rw [IntKind.wrap_u64]; omega
    go_enter Tryz.func54, Tryz.ntmps54
    go_wp2_with (go_at_call 92; refine (told10_any k _ (by omega)).mono ?_; rintro e w' ⟨rfl, m, rfl⟩)
    go_ret
    exact ⟨congrArg (fun s => Ending.returned (Value.string s)) hx.out, below_drewN' _ _⟩
structure RdL (U : World) (g o g' o' : Nat) (N V : ByteArray) : Prop where
  a0 : U.cell? ⟨g, o, none⟩ = some (.string N)
  a1 : U.cell? ⟨g, o + 1, none⟩ = some (.string V)
  b0 : U.cell? ⟨g', o', none⟩ = some (.string N)
  b1 : U.cell? ⟨g', o' + 1, none⟩ = some (.string V)
set_option maxRecDepth 20000 in
set_option maxHeartbeats 8000000 in
theorem fields14 (fs : List (B × B)) (p p' : Option Addr) (n c c' : Nat) (hn : fs.length = n) (w : World) (hF : FAt w p fs) (hF' : FAt w p' fs) (hnn : n ≤ 140737488355328) :
    Calls Tryz.prog 23 #[.slice p n c, .slice p' n c'] w fun e w' => e = .returned (.bool true) ∧ Below w.heap.size w w' := by
  have HF := hid hF
  have HF' := hid hF'
  have HN := hid hn
  clear hF hF' hn
  go_enter Tryz.func23, Tryz.ntmps23
  go_wp2
  go_loopg [5] (n + 1) (fun gk s5 wr => ∃ i : Nat, s5 = .int .i64 (i : Int) ∧ i ≤ n ∧ gk = n - i + 1 ∧ Below w.heap.size w wr)
  case atStart => exact ⟨0, rfl, by omega, rfl, Below.refl _ _⟩
  case round =>
    obtain ⟨i, rfl, hin, rfl, hb⟩ := hrel
    have HB := hid hb
    clear hb
    by_cases hlt : i < n
    · obtain ⟨f, hf⟩ : ∃ f, fs[i]? = some f := ⟨fs[i]'(by rw [HN.out]; exact hlt), List.getElem?_eq_getElem (by rw [HN.out]; exact hlt)⟩
      obtain ⟨g, o, hp, c0, c1⟩ := (HF.out.next HB.out) i f hf
      obtain ⟨g', o', hp', d0, d1⟩ := (HF'.out.next HB.out) i f hf
      subst hp hp'
      have hltI : (i : Int) < (n : Int) := by omega
      obtain ⟨N, hN⟩ : ∃ N, str f.1 = N := ⟨_, rfl⟩
      obtain ⟨V, hV⟩ : ∃ V, str f.2 = V := ⟨_, rfl⟩
      rw [hN] at c0 d0
      rw [hV] at c1 d1
      have hS0 : RdL wr.drew g (o + i * 2) g' (o' + i * 2) N V := ⟨c0, c1, d0, d1⟩
      clear hf hN hV
      go_wp2
      refine wp_region_noPanic ?_
      refine any_begin 9 (by kernel_rfl) (by kernel_rfl) ?_
      refine late_begin (fun U => RdL U g (o + i * 2) g' (o' + i * 2) N V) (fun _ => false) hS0 (fun hS => ?_)
      refine late_take (i := 0) (some 17) rfl rfl (by kernel_rfl) (by kernel_rfl) (by kernel_rfl) (by kernel_rfl) (by kernel_rfl) (fun _ _ _ h => h) (by rfl) (v := ?v0f) ?hy0f hS ?rest0f
      case hy0f => intro w0 hSw; obtain ⟨a0, a1, b0, b1⟩ := hSw; go_simp; try with_reducible rfl
      simp only [Act.put, List.setIfInBounds_toArray, List.set_cons_zero, List.set_cons_succ]
      refine late_take (i := 1) (some 18) rfl rfl (by kernel_rfl) (by kernel_rfl) (by kernel_rfl) (by kernel_rfl) (by kernel_rfl) (fun _ _ _ h => h) (by rfl) (v := ?v1f) ?hy1f hS ?rest1f
      case hy1f => intro w0 hSw; obtain ⟨a0, a1, b0, b1⟩ := hSw; go_simp; try with_reducible rfl
      simp only [Act.put, List.setIfInBounds_toArray, List.set_cons_zero, List.set_cons_succ]
      refine late_take (i := 2) (some 19) rfl rfl (by kernel_rfl) (by kernel_rfl) (by kernel_rfl) (by kernel_rfl) (by kernel_rfl) (fun _ _ _ h => h) (by rfl) (v := ?v2f) ?hy2f hS ?rest2f
      case hy2f => intro w0 hSw; obtain ⟨a0, a1, b0, b1⟩ := hSw; go_simp; try with_reducible rfl
      simp only [Act.put, List.setIfInBounds_toArray, List.set_cons_zero, List.set_cons_succ]
      refine late_take (i := 3) (some 20) rfl rfl (by kernel_rfl) (by kernel_rfl) (by kernel_rfl) (by kernel_rfl) (by kernel_rfl) (fun _ _ _ h => h) (by rfl) (v := ?v3f) ?hy3f hS ?rest3f
      case hy3f => intro w0 hSw; obtain ⟨a0, a1, b0, b1⟩ := hSw; go_simp; try with_reducible rfl
      simp only [Act.put, List.setIfInBounds_toArray, List.set_cons_zero, List.set_cons_succ]
      refine late_take (i := 4) (some 21) rfl rfl (by kernel_rfl) (by kernel_rfl) (by kernel_rfl) (by kernel_rfl) (by kernel_rfl) (fun _ _ _ h => h) (by rfl) (v := ?v4f) ?hy4f hS ?rest4f
      case hy4f => intro w0 hSw; obtain ⟨a0, a1, b0, b1⟩ := hSw; go_simp; try with_reducible rfl
      simp only [Act.put, List.setIfInBounds_toArray, List.set_cons_zero, List.set_cons_succ]
      refine late_take (i := 5) (some 22) rfl rfl (by kernel_rfl) (by kernel_rfl) (by kernel_rfl) (by kernel_rfl) (by kernel_rfl) (fun _ _ _ h => h) (by rfl) (v := ?v5f) ?hy5f hS ?rest5f
      case hy5f => intro w0 hSw; obtain ⟨a0, a1, b0, b1⟩ := hSw; go_simp; try with_reducible rfl
      simp only [Act.put, List.setIfInBounds_toArray, List.set_cons_zero, List.set_cons_succ]
      refine late_take (i := 6) (some 23) rfl rfl (by kernel_rfl) (by kernel_rfl) (by kernel_rfl) (by kernel_rfl) (by kernel_rfl) (fun _ _ _ h => h) (by rfl) (v := ?v6f) ?hy6f hS ?rest6f
      case hy6f => intro w0 hSw; obtain ⟨a0, a1, b0, b1⟩ := hSw; go_simp; try with_reducible rfl
      simp only [Act.put, List.setIfInBounds_toArray, List.set_cons_zero, List.set_cons_succ]
      refine late_take (i := 7) (some 24) rfl rfl (by kernel_rfl) (by kernel_rfl) (by kernel_rfl) (by kernel_rfl) (by kernel_rfl) (fun _ _ _ h => h) (by rfl) (v := ?v7f) ?hy7f hS ?rest7f
      case hy7f => intro w0 hSw; obtain ⟨a0, a1, b0, b1⟩ := hSw; go_simp; try with_reducible rfl
      simp only [Act.put, List.setIfInBounds_toArray, List.set_cons_zero, List.set_cons_succ]
      refine late_take (i := 8) (some 25) rfl rfl (by kernel_rfl) (by kernel_rfl) (by kernel_rfl) (by kernel_rfl) (by kernel_rfl) (fun _ _ _ h => h) (by rfl) (v := ?v8f) ?hy8f hS ?rest8f
      case hy8f => intro w0 hSw; obtain ⟨a0, a1, b0, b1⟩ := hSw; go_simp; try with_reducible rfl
      simp only [Act.put, List.setIfInBounds_toArray, List.set_cons_zero, List.set_cons_succ]
      refine late_done (by kernel_rfl) ?_ _
      refine NoPanic.normal ?_
      go_wp2
      go_roundg (n - (i + 1) + 1)
      case measure => omega
      case rel => exact ⟨i + 1, by go_num, by omega, rfl, HB.out.drew⟩
    · obtain rfl : i = n := by omega
      have hltI : ¬ (i : Int) < (i : Int) := by omega
      clear hlt
      go_wp2
      go_ret
      exact ⟨rfl, HB.out⟩
end Go.Proofs.YtnlmjlfoeodleaaGreatDoor
/- Framing fields, one more Via, one more client, by the program. -/
namespace Go.Proofs.YtnlmjlfoeodleaaGreatDoor
open Go.RowKit

def clB : B := [67, 111, 110, 116, 101, 110, 116, 45, 76, 101, 110, 103, 116, 104]
def teB : B := [84, 114, 97, 110, 115, 102, 101, 114, 45, 69, 110, 99, 111, 100, 105, 110, 103]
def chB : B := [99, 104, 117, 110, 107, 101, 100]
def viaN : B := [86, 105, 97]
def xfB : B := [88, 45, 70, 111, 114, 119, 97, 114, 100, 101, 100, 45, 70, 111, 114]
def frmA (K L : Int) : List (B × B) := if K = 1 then [(clB, Lib.itoa L)] else if K = 2 then [(teB, chB)] else []
def bareF (fs : List (B × B)) : List (B × B) := delB (delB fs (str clB)) (str teB)
def framF (fs : List (B × B)) (K L : Int) : List (B × B) := bareF fs ++ frmA K L
def viaV (M : Int) : B := if M = 1 then [49, 46, 49, 32, 116, 117, 114, 110, 115, 116, 105, 108, 101] else [49, 46, 48, 32, 116, 117, 114, 110, 115, 116, 105, 108, 101]
def viaF (fs : List (B × B)) (M : Int) : List (B × B) := fs ++ [(viaN, viaV M)]
def fwdV (fs : List (B × B)) (cl : B) : B := if (getB fs (str xfB)).1.data.toList = [] then cl else (getB fs (str xfB)).1.data.toList ++ ([44, 32] ++ cl)
def fwdF (fs : List (B × B)) (cl : B) : List (B × B) := setB fs (str xfB) (xfB, fwdV fs cl)
theorem bareF_len (fs : List (B × B)) : (bareF fs).length ≤ fs.length := Nat.le_trans (del_le _ _) (del_le _ _)
theorem szW_bare {fs : List (B × B)} (h : szW fs) : szW (bareF fs) := szW_del _ (szW_del _ h)
theorem itoa_ok {n : Int} (h0 : -9223372036854775808 ≤ n) (h1 : n ≤ 9223372036854775807) : (Lib.itoa n).length ≤ 140737488351232 := by
  rcases itoa_few n with h | h
  · omega
  · omega
set_option maxRecDepth 20000 in
set_option maxHeartbeats 8000000 in
theorem pfrm1 (fs : List (B × B)) (K L : Int) (p : Option Addr) (n c : Nat) (hn : fs.length = n) (w : World) (hF : FAt w p fs) (hsz : szW fs) (hnn : n ≤ 100000) (hL0 : -9223372036854775808 ≤ L) (hL1 : L ≤ 9223372036854775807) (hE : EnvP w) (hit : (Lib.itoa L).length ≤ 140737488351232) (hK : K = 1) :
    Calls Tryz.prog 37 #[.slice p n c, .agg #[.int .i64 K, .int .i64 L]] w fun e w' => ∃ g' m, e = .returned (.slice (some ⟨g', 0, none⟩) m m) ∧ (framF fs K L).length = m ∧ w.heap.size ≤ g' ∧ BlkF w' g' (framF fs K L) ∧ Below w.heap.size w w' := by
  have HB0 := hid (below_new w (.cells #[.int .i64 K, .int .i64 L] 23 (0, 0)))
  have HX0 := hid (heap_alloc_new w (.cells #[.int .i64 K, .int .i64 L] 23 (0, 0)))
  have hl1 := del_le fs (str clB)
  have HD1 := hid (show ∀ W : World, Below w.heap.size w W → _ from fun W hb => pdel_any fs p n c hn clB W (hF.next hb) hsz (by decide) (by omega))
  have HD2 := hid (show ∀ (W : World) (g m : Nat), (delB fs (str clB)).length = m → BlkF W g (delB fs (str clB)) → _ from fun W g m hm h => pdel_any (delB fs (str clB)) (some ⟨g, 0, none⟩) m m hm teB W h.fat (szW_del _ hsz) (by decide) (by omega))
  rw [show delB (delB fs (str clB)) (str teB) = bareF fs from rfl] at HD2
  have hl2 := bareF_len fs
  have hzb := szW_bare hsz
  obtain ⟨X, hX⟩ : ∃ X, bareF fs = X := ⟨_, rfl⟩
  rw [hX] at HD2 hl2 hzb
  have HE := hid (show framF fs K L = X ++ [(clB, Lib.itoa L)] from by unfold framF frmA; rw [hX, if_pos hK])
  rw [HE.out]
  have HTx := hid (show ∀ W : World, Below w.heap.size w W → _ from fun W hb => ptext L W hL0 hL1 (hE.next hb))
  have HAd0 := hid (show ∀ (W : World) (g m : Nat), X.length = m → BlkF W g X → _ from fun W g m hm h => padd_some X g 0 m m hm (Nat.le_refl _) clB (Lib.itoa L) W h.fat hzb (by decide) hit (by omega))
  obtain ⟨T, hT⟩ : ∃ T, str (Lib.itoa L) = T := ⟨_, rfl⟩
  rw [hT] at HTx HAd0
  have HAd := hid (show ∀ (W : World) (g m : Nat), X.length = m → BlkF W g X → Calls Tryz.prog 42 #[.slice (some ⟨g, 0, none⟩) m m, .string (⟨#[67, 111, 110, 116, 101, 110, 116, 45, 76, 101, 110, 103, 116, 104]⟩ : ByteArray), .string T] W _ from HAd0.out)
  subst hK
  have HD1b := hid (show ∀ W : World, Below w.heap.size w W → Calls Tryz.prog 38 #[.slice p n c, .string (⟨#[67, 111, 110, 116, 101, 110, 116, 45, 76, 101, 110, 103, 116, 104]⟩ : ByteArray)] W _ from HD1.out)
  have HD2b := hid (show ∀ (W : World) (g m : Nat), (delB fs (str clB)).length = m → BlkF W g (delB fs (str clB)) → Calls Tryz.prog 38 #[.slice (some ⟨g, 0, none⟩) m m, .string (⟨#[84, 114, 97, 110, 115, 102, 101, 114, 45, 69, 110, 99, 111, 100, 105, 110, 103]⟩ : ByteArray)] W _ from HD2.out)
  clear hF hsz hn HD1 HD2 hX hzb hT HAd0 HE hE
  go_enter Tryz.func37, Tryz.ntmps37
  go_wp2_with (first | (go_at_call 38; (with_reducible refine (HD1b.out _ HB0.out).mono ?_); rintro e w1 ⟨g1, m1, rfl, hm1, hg1, hk1, hb⟩; have HB1 := hid (below_out HB0.out hb); have HM1 := hid hm1; have HK1 := hid hk1; obtain ⟨x0, x1⟩ := box2W ((hb.block _ (lt_of_heap HX0.out)).trans HX0.out); clear hb hm1 hg1 hk1 HD1b HB0) | (go_at_call 38; (with_reducible refine (HD2b.out _ _ _ HM1.out HK1.out).mono ?_); rintro e w2 ⟨g2, m2, rfl, hm2, hg2, hk2, hb⟩; have HB2 := hid (below_out HB1.out hb); have HM2 := hid hm2; have HK2 := hid hk2; have HG2 := hid (Nat.le_trans HB1.out.size hg2); have y0 := cell_keep hb x0; have y1 := cell_keep hb x1; clear hb hm2 hg2 hk2 HD2b HK1 x0 x1) | (go_at_call 43; (with_reducible refine (HTx.out _ HB2.out).mono ?_); rintro e w3 ⟨rfl, hb⟩; have HB3 := hid (below_out HB2.out hb); have HK3 := hid (HK2.out.next hb); clear hb HTx) | (go_at_call 42; (with_reducible refine (HAd.out _ _ _ HM2.out HK3.out).mono ?_); rintro e w9 ⟨g9, m9, rfl, hl9, hg9, hk9, hb⟩; have HL9 := hid hl9; have HK9 := hid hk9; have HG9 := hid (Nat.le_trans HB3.out.size hg9); have HB9 := hid (below_out HB3.out hb); clear hb hl9 hg9 hk9 HAd))
  go_ret
  exact ⟨_, _, rfl, HL9.out, HG9.out, HK9.out, HB9.out⟩
set_option maxRecDepth 20000 in
set_option maxHeartbeats 8000000 in
theorem pfrm2 (fs : List (B × B)) (K L : Int) (p : Option Addr) (n c : Nat) (hn : fs.length = n) (w : World) (hF : FAt w p fs) (hsz : szW fs) (hnn : n ≤ 100000) (hK : K = 2) :
    Calls Tryz.prog 37 #[.slice p n c, .agg #[.int .i64 K, .int .i64 L]] w fun e w' => ∃ g' m, e = .returned (.slice (some ⟨g', 0, none⟩) m m) ∧ (framF fs K L).length = m ∧ w.heap.size ≤ g' ∧ BlkF w' g' (framF fs K L) ∧ Below w.heap.size w w' := by
  have HB0 := hid (below_new w (.cells #[.int .i64 K, .int .i64 L] 23 (0, 0)))
  have HX0 := hid (heap_alloc_new w (.cells #[.int .i64 K, .int .i64 L] 23 (0, 0)))
  have hl1 := del_le fs (str clB)
  have HD1 := hid (show ∀ W : World, Below w.heap.size w W → _ from fun W hb => pdel_any fs p n c hn clB W (hF.next hb) hsz (by decide) (by omega))
  have HD2 := hid (show ∀ (W : World) (g m : Nat), (delB fs (str clB)).length = m → BlkF W g (delB fs (str clB)) → _ from fun W g m hm h => pdel_any (delB fs (str clB)) (some ⟨g, 0, none⟩) m m hm teB W h.fat (szW_del _ hsz) (by decide) (by omega))
  rw [show delB (delB fs (str clB)) (str teB) = bareF fs from rfl] at HD2
  have hl2 := bareF_len fs
  have hzb := szW_bare hsz
  obtain ⟨X, hX⟩ : ∃ X, bareF fs = X := ⟨_, rfl⟩
  rw [hX] at HD2 hl2 hzb
  have HE := hid (show framF fs K L = X ++ [(teB, chB)] from by unfold framF frmA; rw [hX, if_neg (by omega), if_pos hK])
  rw [HE.out]
  have HAd0 := hid (show ∀ (W : World) (g m : Nat), X.length = m → BlkF W g X → _ from fun W g m hm h => padd_some X g 0 m m hm (Nat.le_refl _) teB chB W h.fat hzb (by decide) (by decide) (by omega))
  have HAd := hid (show ∀ (W : World) (g m : Nat), X.length = m → BlkF W g X → Calls Tryz.prog 42 #[.slice (some ⟨g, 0, none⟩) m m, .string (⟨#[84, 114, 97, 110, 115, 102, 101, 114, 45, 69, 110, 99, 111, 100, 105, 110, 103]⟩ : ByteArray), .string (⟨#[99, 104, 117, 110, 107, 101, 100]⟩ : ByteArray)] W _ from HAd0.out)
  subst hK
  have HD1b := hid (show ∀ W : World, Below w.heap.size w W → Calls Tryz.prog 38 #[.slice p n c, .string (⟨#[67, 111, 110, 116, 101, 110, 116, 45, 76, 101, 110, 103, 116, 104]⟩ : ByteArray)] W _ from HD1.out)
  have HD2b := hid (show ∀ (W : World) (g m : Nat), (delB fs (str clB)).length = m → BlkF W g (delB fs (str clB)) → Calls Tryz.prog 38 #[.slice (some ⟨g, 0, none⟩) m m, .string (⟨#[84, 114, 97, 110, 115, 102, 101, 114, 45, 69, 110, 99, 111, 100, 105, 110, 103]⟩ : ByteArray)] W _ from HD2.out)
  clear hF hsz hn HD1 HD2 hX hzb HAd0 HE
  go_enter Tryz.func37, Tryz.ntmps37
  go_wp2_with (first | (go_at_call 38; (with_reducible refine (HD1b.out _ HB0.out).mono ?_); rintro e w1 ⟨g1, m1, rfl, hm1, hg1, hk1, hb⟩; have HB1 := hid (below_out HB0.out hb); have HM1 := hid hm1; have HK1 := hid hk1; obtain ⟨x0, x1⟩ := box2W ((hb.block _ (lt_of_heap HX0.out)).trans HX0.out); clear hb hm1 hg1 hk1 HD1b HB0) | (go_at_call 38; (with_reducible refine (HD2b.out _ _ _ HM1.out HK1.out).mono ?_); rintro e w2 ⟨g2, m2, rfl, hm2, hg2, hk2, hb⟩; have HB2 := hid (below_out HB1.out hb); have HM2 := hid hm2; have HK2 := hid hk2; have HG2 := hid (Nat.le_trans HB1.out.size hg2); have y0 := cell_keep hb x0; have y1 := cell_keep hb x1; clear hb hm2 hg2 hk2 HD2b HK1 x0 x1) | (go_at_call 42; (with_reducible refine (HAd.out _ _ _ HM2.out HK2.out).mono ?_); rintro e w9 ⟨g9, m9, rfl, hl9, hg9, hk9, hb⟩; have HL9 := hid hl9; have HK9 := hid hk9; have HG9 := hid (Nat.le_trans HB2.out.size hg9); have HB9 := hid (below_out HB2.out hb); clear hb hl9 hg9 hk9 HAd))
  go_ret
  exact ⟨_, _, rfl, HL9.out, HG9.out, HK9.out, HB9.out⟩
set_option maxRecDepth 20000 in
set_option maxHeartbeats 8000000 in
theorem pfrm0 (fs : List (B × B)) (K L : Int) (p : Option Addr) (n c : Nat) (hn : fs.length = n) (w : World) (hF : FAt w p fs) (hsz : szW fs) (hnn : n ≤ 100000) (hK1 : ¬ K = 1) (hK2 : ¬ K = 2) :
    Calls Tryz.prog 37 #[.slice p n c, .agg #[.int .i64 K, .int .i64 L]] w fun e w' => ∃ g' m, e = .returned (.slice (some ⟨g', 0, none⟩) m m) ∧ (framF fs K L).length = m ∧ w.heap.size ≤ g' ∧ BlkF w' g' (framF fs K L) ∧ Below w.heap.size w w' := by
  have HB0 := hid (below_new w (.cells #[.int .i64 K, .int .i64 L] 23 (0, 0)))
  have HX0 := hid (heap_alloc_new w (.cells #[.int .i64 K, .int .i64 L] 23 (0, 0)))
  have hl1 := del_le fs (str clB)
  have HD1 := hid (show ∀ W : World, Below w.heap.size w W → _ from fun W hb => pdel_any fs p n c hn clB W (hF.next hb) hsz (by decide) (by omega))
  have HD2 := hid (show ∀ (W : World) (g m : Nat), (delB fs (str clB)).length = m → BlkF W g (delB fs (str clB)) → _ from fun W g m hm h => pdel_any (delB fs (str clB)) (some ⟨g, 0, none⟩) m m hm teB W h.fat (szW_del _ hsz) (by decide) (by omega))
  rw [show delB (delB fs (str clB)) (str teB) = bareF fs from rfl] at HD2
  have hl2 := bareF_len fs
  have hzb := szW_bare hsz
  obtain ⟨X, hX⟩ : ∃ X, bareF fs = X := ⟨_, rfl⟩
  rw [hX] at HD2 hl2 hzb
  have HE := hid (show framF fs K L = X from by unfold framF frmA; rw [hX, if_neg hK1, if_neg hK2, List.append_nil])
  have HD1b := hid (show ∀ W : World, Below w.heap.size w W → Calls Tryz.prog 38 #[.slice p n c, .string (⟨#[67, 111, 110, 116, 101, 110, 116, 45, 76, 101, 110, 103, 116, 104]⟩ : ByteArray)] W _ from HD1.out)
  have HD2b := hid (show ∀ (W : World) (g m : Nat), (delB fs (str clB)).length = m → BlkF W g (delB fs (str clB)) → Calls Tryz.prog 38 #[.slice (some ⟨g, 0, none⟩) m m, .string (⟨#[84, 114, 97, 110, 115, 102, 101, 114, 45, 69, 110, 99, 111, 100, 105, 110, 103]⟩ : ByteArray)] W _ from HD2.out)
  clear hF hsz hn HD1 HD2 hX hzb 
  go_enter Tryz.func37, Tryz.ntmps37
  go_wp2_with (first | (go_at_call 38; (with_reducible refine (HD1b.out _ HB0.out).mono ?_); rintro e w1 ⟨g1, m1, rfl, hm1, hg1, hk1, hb⟩; have HB1 := hid (below_out HB0.out hb); have HM1 := hid hm1; have HK1 := hid hk1; obtain ⟨x0, x1⟩ := box2W ((hb.block _ (lt_of_heap HX0.out)).trans HX0.out); clear hb hm1 hg1 hk1 HD1b HB0) | (go_at_call 38; (with_reducible refine (HD2b.out _ _ _ HM1.out HK1.out).mono ?_); rintro e w2 ⟨g2, m2, rfl, hm2, hg2, hk2, hb⟩; have HB2 := hid (below_out HB1.out hb); have HM2 := hid hm2; have HK2 := hid hk2; have HG2 := hid (Nat.le_trans HB1.out.size hg2); have y0 := cell_keep hb x0; have y1 := cell_keep hb x1; clear hb hm2 hg2 hk2 HD2b HK1 x0 x1))
  go_ret
  exact ⟨_, _, rfl, (by rw [HE.out]; exact HM2.out), HG2.out, (by rw [HE.out]; exact HK2.out), HB2.out⟩
theorem pframing (fs : List (B × B)) (K L : Int) (p : Option Addr) (n c : Nat) (hn : fs.length = n) (w : World) (hF : FAt w p fs) (hsz : szW fs) (hnn : n ≤ 100000) (hL0 : -9223372036854775808 ≤ L) (hL1 : L ≤ 9223372036854775807) (hE : EnvP w) :
    Calls Tryz.prog 37 #[.slice p n c, .agg #[.int .i64 K, .int .i64 L]] w fun e w' => ∃ g' m, e = .returned (.slice (some ⟨g', 0, none⟩) m m) ∧ (framF fs K L).length = m ∧ w.heap.size ≤ g' ∧ BlkF w' g' (framF fs K L) ∧ Below w.heap.size w w' := by
  by_cases h1 : K = 1
  · exact pfrm1 fs K L p n c hn w hF hsz hnn hL0 hL1 hE (itoa_ok hL0 hL1) h1
  · by_cases h2 : K = 2
    · exact pfrm2 fs K L p n c hn w hF hsz hnn h2
    · exact pfrm0 fs K L p n c hn w hF hsz hnn h1 h2
set_option maxRecDepth 20000 in
set_option maxHeartbeats 8000000 in
theorem pvia1 (fs : List (B × B)) (M : Int) (p : Option Addr) (n c : Nat) (hn : fs.length = n) (hc : n ≤ c) (hc0 : p = none → c = 0) (hpl : ∀ ad, p = some ad → ad.spot = none) (w : World) (hF : FAt w p fs) (hsz : szW fs) (hnn : n ≤ 100000) (hE : EnvP w) (hM : M = 1) :
    Calls Tryz.prog 39 #[.slice p n c, .int .i64 M] w fun e w' => ∃ g' m, e = .returned (.slice (some ⟨g', 0, none⟩) m m) ∧ (viaF fs M).length = m ∧ w.heap.size ≤ g' ∧ BlkF w' g' (viaF fs M) ∧ Below w.heap.size w w' := by
  have HTx0 := hid (show ∀ W : World, Below w.heap.size w W → _ from fun W hb => ptext 1 W (by decide) (by decide) (hE.next hb))
  have HTx := hid (show ∀ W : World, Below w.heap.size w W → Calls Tryz.prog 43 #[.int .i64 1] W fun e w' => e = .returned (.string (⟨#[49]⟩ : ByteArray)) ∧ Below W.heap.size W w' from fun W hb => by
    have h := HTx0.out W hb
    rw [show str (Lib.itoa 1) = (⟨#[49]⟩ : ByteArray) from by decide +kernel] at h
    exact h)
  have HAd0 := hid (show ∀ W : World, Below w.heap.size w W → _ from fun W hb => padd_any fs p n c hn hc hc0 viaN [49, 46, 49, 32, 116, 117, 114, 110, 115, 116, 105, 108, 101] W (hF.next hb) hsz (by decide) (by decide) (by omega) hpl)
  have HE := hid (show viaF fs M = fs ++ [(viaN, [49, 46, 49, 32, 116, 117, 114, 110, 115, 116, 105, 108, 101])] from by unfold viaF viaV; rw [if_pos hM])
  rw [HE.out]
  obtain ⟨V, hV⟩ : ∃ V, str [49, 46, 49, 32, 116, 117, 114, 110, 115, 116, 105, 108, 101] = V := ⟨_, rfl⟩
  rw [hV] at HAd0
  have HAd := hid (show ∀ W : World, Below w.heap.size w W → Calls Tryz.prog 42 #[.slice p n c, .string (⟨#[86, 105, 97]⟩ : ByteArray), .string V] W _ from HAd0.out)
  have HC := hid (show (((⟨#[49, 46]⟩ : ByteArray) ++ (⟨#[49]⟩ : ByteArray)) ++ (⟨#[32]⟩ : ByteArray)) ++ (⟨#[116, 117, 114, 110, 115, 116, 105, 108, 101]⟩ : ByteArray) = V from by rw [← hV]; decide +kernel)
  subst hM
  clear hF hsz hn HTx0 HAd0 HE hV hE
  go_enter Tryz.func39, Tryz.ntmps39
  go_wp2_with (first | (go_at_call 43; (with_reducible refine (HTx.out _ (Below.refl _ _)).mono ?_); rintro e w3 ⟨rfl, hb⟩; have HB3 := hid hb; clear hb HTx) | (go_at_call 42; (try rw [HC.out]); (with_reducible refine (HAd.out _ HB3.out).mono ?_); rintro e w9 ⟨g9, m9, rfl, hl9, hg9, hk9, hb⟩; have HL9 := hid hl9; have HK9 := hid hk9; have HG9 := hid (Nat.le_trans HB3.out.size hg9); have HB9 := hid (below_out HB3.out hb); clear hb hl9 hg9 hk9 HAd))
  go_ret
  exact ⟨_, _, rfl, HL9.out, HG9.out, HK9.out, HB9.out⟩
set_option maxRecDepth 20000 in
set_option maxHeartbeats 8000000 in
theorem pvia0 (fs : List (B × B)) (M : Int) (p : Option Addr) (n c : Nat) (hn : fs.length = n) (hc : n ≤ c) (hc0 : p = none → c = 0) (hpl : ∀ ad, p = some ad → ad.spot = none) (w : World) (hF : FAt w p fs) (hsz : szW fs) (hnn : n ≤ 100000) (hE : EnvP w) (hM : ¬ M = 1) :
    Calls Tryz.prog 39 #[.slice p n c, .int .i64 M] w fun e w' => ∃ g' m, e = .returned (.slice (some ⟨g', 0, none⟩) m m) ∧ (viaF fs M).length = m ∧ w.heap.size ≤ g' ∧ BlkF w' g' (viaF fs M) ∧ Below w.heap.size w w' := by
  have HTx0 := hid (show ∀ W : World, Below w.heap.size w W → _ from fun W hb => ptext 0 W (by decide) (by decide) (hE.next hb))
  have HTx := hid (show ∀ W : World, Below w.heap.size w W → Calls Tryz.prog 43 #[.int .i64 0] W fun e w' => e = .returned (.string (⟨#[48]⟩ : ByteArray)) ∧ Below W.heap.size W w' from fun W hb => by
    have h := HTx0.out W hb
    rw [show str (Lib.itoa 0) = (⟨#[48]⟩ : ByteArray) from by decide +kernel] at h
    exact h)
  have HAd0 := hid (show ∀ W : World, Below w.heap.size w W → _ from fun W hb => padd_any fs p n c hn hc hc0 viaN [49, 46, 48, 32, 116, 117, 114, 110, 115, 116, 105, 108, 101] W (hF.next hb) hsz (by decide) (by decide) (by omega) hpl)
  have HE := hid (show viaF fs M = fs ++ [(viaN, [49, 46, 48, 32, 116, 117, 114, 110, 115, 116, 105, 108, 101])] from by unfold viaF viaV; rw [if_neg hM])
  rw [HE.out]
  obtain ⟨V, hV⟩ : ∃ V, str [49, 46, 48, 32, 116, 117, 114, 110, 115, 116, 105, 108, 101] = V := ⟨_, rfl⟩
  rw [hV] at HAd0
  have HAd := hid (show ∀ W : World, Below w.heap.size w W → Calls Tryz.prog 42 #[.slice p n c, .string (⟨#[86, 105, 97]⟩ : ByteArray), .string V] W _ from HAd0.out)
  have HC := hid (show (((⟨#[49, 46]⟩ : ByteArray) ++ (⟨#[48]⟩ : ByteArray)) ++ (⟨#[32]⟩ : ByteArray)) ++ (⟨#[116, 117, 114, 110, 115, 116, 105, 108, 101]⟩ : ByteArray) = V from by rw [← hV]; decide +kernel)
  clear hF hsz hn HTx0 HAd0 HE hV hE
  go_enter Tryz.func39, Tryz.ntmps39
  go_wp2_with (first | (go_at_call 43; (with_reducible refine (HTx.out _ (Below.refl _ _)).mono ?_); rintro e w3 ⟨rfl, hb⟩; have HB3 := hid hb; clear hb HTx) | (go_at_call 42; (try rw [HC.out]); (with_reducible refine (HAd.out _ HB3.out).mono ?_); rintro e w9 ⟨g9, m9, rfl, hl9, hg9, hk9, hb⟩; have HL9 := hid hl9; have HK9 := hid hk9; have HG9 := hid (Nat.le_trans HB3.out.size hg9); have HB9 := hid (below_out HB3.out hb); clear hb hl9 hg9 hk9 HAd))
  go_ret
  exact ⟨_, _, rfl, HL9.out, HG9.out, HK9.out, HB9.out⟩
theorem pvia (fs : List (B × B)) (M : Int) (p : Option Addr) (n c : Nat) (hn : fs.length = n) (hc : n ≤ c) (hc0 : p = none → c = 0) (hpl : ∀ ad, p = some ad → ad.spot = none) (w : World) (hF : FAt w p fs) (hsz : szW fs) (hnn : n ≤ 100000) (hE : EnvP w) :
    Calls Tryz.prog 39 #[.slice p n c, .int .i64 M] w fun e w' => ∃ g' m, e = .returned (.slice (some ⟨g', 0, none⟩) m m) ∧ (viaF fs M).length = m ∧ w.heap.size ≤ g' ∧ BlkF w' g' (viaF fs M) ∧ Below w.heap.size w w' := by
  by_cases h1 : M = 1
  · exact pvia1 fs M p n c hn hc hc0 hpl w hF hsz hnn hE h1
  · exact pvia0 fs M p n c hn hc hc0 hpl w hF hsz hnn hE h1
theorem str_back (S : ByteArray) : str S.data.toList = S := by
  apply ByteArray.ext
  simp
theorem getB_small {fs : List (B × B)} {nm : ByteArray} {C : Nat} (h : ∀ f ∈ fs, f.2.length ≤ C) : (getB fs nm).1.size ≤ C := by
  unfold getB
  split
  · rename_i f hf
    dsimp only
    rw [str_size]
    exact h f (List.mem_of_find?_eq_some hf)
  · exact Nat.zero_le _
set_option maxRecDepth 20000 in
set_option maxHeartbeats 8000000 in
theorem pfwd0 (fs : List (B × B)) (cl : B) (p : Option Addr) (n c : Nat) (hn : fs.length = n) (hc : n ≤ c) (hc0 : p = none → c = 0) (hpl : ∀ ad, p = some ad → ad.spot = none) (w : World) (hF : FAt w p fs) (hsz : szW fs) (hnn : n ≤ 100000) (hcl : cl.length ≤ 35184372088832) (hvz : ∀ f ∈ fs, f.2.length ≤ 35184372088832) (hG : (getB fs (str xfB)).1.data.toList = []) :
    Calls Tryz.prog 40 #[.slice p n c, .string (str cl)] w fun e w' => ∃ g' m, e = .returned (.slice (some ⟨g', 0, none⟩) m m) ∧ (fwdF fs cl).length = m ∧ w.heap.size ≤ g' ∧ BlkF w' g' (fwdF fs cl) ∧ Below w.heap.size w w' := by
  have hgz := getB_small (nm := str xfB) hvz
  have HGe1 := hid (pget fs p n c hn (str xfB) w hF hsz (by decide) (by omega))
  have HV := hid (show fwdV fs cl = cl from by unfold fwdV; rw [if_pos hG])
  have HSt0 := hid (show ∀ W : World, Below w.heap.size w W → _ from fun W hb => pset_any fs p n c hn hc hc0 hpl xfB (fwdV fs cl) W (hF.next hb) hsz (by decide) (by rw [HV.out]; omega) (by omega))
  rw [show setB fs (str xfB) (xfB, fwdV fs cl) = fwdF fs cl from rfl] at HSt0
  obtain ⟨R, hR⟩ : ∃ R, fwdF fs cl = R := ⟨_, rfl⟩
  rw [hR] at HSt0
  rw [hR]
  rw [HV.out] at HSt0
  have HAd := hid (show ∀ W : World, Below w.heap.size w W → Calls Tryz.prog 79 #[.slice p n c, .string (⟨#[88, 45, 70, 111, 114, 119, 97, 114, 100, 101, 100, 45, 70, 111, 114]⟩ : ByteArray), .string (str cl)] W _ from HSt0.out)
  have hS0 : (getB fs (str xfB)).1 = ⟨#[]⟩ := by
    rw [← str_back (getB fs (str xfB)).1, hG]
  obtain ⟨S2, hS2⟩ : ∃ S2, (getB fs (str xfB)).2 = S2 := ⟨_, rfl⟩
  have HGe := hid (show Calls Tryz.prog 78 #[.slice p n c, .string (⟨#[88, 45, 70, 111, 114, 119, 97, 114, 100, 101, 100, 45, 70, 111, 114]⟩ : ByteArray)] w fun e w' => e = .returned (.tuple #[.string ⟨#[]⟩, .bool S2]) ∧ Below w.heap.size w w' from by
    have h := HGe1.out
    rw [hS0, hS2] at h
    exact h)
  have HC := hid (rfl : (0 : Nat) = 0)
  clear hS0 hS2 HSt0 hR hG hgz
  clear hF hsz hn HGe1
  go_enter Tryz.func40, Tryz.ntmps40
  go_wp2_with (first | (go_at_call 78; (with_reducible refine HGe.out.mono ?_); rintro e w3 ⟨rfl, hb⟩; have HB3 := hid hb; clear hb HGe) | (go_at_call 79; (try rw [HC.out]); (with_reducible refine (HAd.out _ HB3.out).mono ?_); rintro e w9 ⟨g9, m9, rfl, hl9, hg9, hk9, hb⟩; have HL9 := hid hl9; have HK9 := hid hk9; have HG9 := hid (Nat.le_trans HB3.out.size hg9); have HB9 := hid (below_out HB3.out hb); clear hb hl9 hg9 hk9 HAd))
  go_ret
  exact ⟨_, _, rfl, HL9.out, HG9.out, HK9.out, HB9.out⟩
set_option maxRecDepth 20000 in
set_option maxHeartbeats 8000000 in
theorem pfwd1 (fs : List (B × B)) (cl : B) (p : Option Addr) (n c : Nat) (hn : fs.length = n) (hc : n ≤ c) (hc0 : p = none → c = 0) (hpl : ∀ ad, p = some ad → ad.spot = none) (w : World) (hF : FAt w p fs) (hsz : szW fs) (hnn : n ≤ 100000) (hcl : cl.length ≤ 35184372088832) (hvz : ∀ f ∈ fs, f.2.length ≤ 35184372088832) (hG : ¬ (getB fs (str xfB)).1.data.toList = []) :
    Calls Tryz.prog 40 #[.slice p n c, .string (str cl)] w fun e w' => ∃ g' m, e = .returned (.slice (some ⟨g', 0, none⟩) m m) ∧ (fwdF fs cl).length = m ∧ w.heap.size ≤ g' ∧ BlkF w' g' (fwdF fs cl) ∧ Below w.heap.size w w' := by
  have hgz := getB_small (nm := str xfB) hvz
  have HGe1 := hid (pget fs p n c hn (str xfB) w hF hsz (by decide) (by omega))
  obtain ⟨S, hS⟩ : ∃ S, (getB fs (str xfB)).1 = S := ⟨_, rfl⟩
  obtain ⟨S2, hS2⟩ : ∃ S2, (getB fs (str xfB)).2 = S2 := ⟨_, rfl⟩
  rw [hS] at hG hgz
  have HV := hid (show str (fwdV fs cl) = (S ++ (⟨#[44, 32]⟩ : ByteArray)) ++ str cl from by
    unfold fwdV
    rw [hS, if_neg hG]
    apply ByteArray.ext
    simp [str])
  have hvl : (fwdV fs cl).length ≤ 140737488351232 := by
    unfold fwdV
    rw [hS, if_neg hG]
    have h9 : S.data.toList.length = S.size := Array.length_toList
    simp only [List.length_append, h9, List.length_cons, List.length_nil]
    omega
  have HSt0 := hid (show ∀ W : World, Below w.heap.size w W → _ from fun W hb => pset_any fs p n c hn hc hc0 hpl xfB (fwdV fs cl) W (hF.next hb) hsz (by decide) hvl (by omega))
  rw [show setB fs (str xfB) (xfB, fwdV fs cl) = fwdF fs cl from rfl] at HSt0
  obtain ⟨R, hR⟩ : ∃ R, fwdF fs cl = R := ⟨_, rfl⟩
  rw [hR] at HSt0
  rw [hR]
  rw [HV.out] at HSt0
  have hcs : (str cl).size ≤ 35184372088832 := by rw [str_size]; exact hcl
  obtain ⟨C, hC⟩ : ∃ C, str cl = C := ⟨_, rfl⟩
  rw [hC] at HSt0 hcs
  rw [hC]
  have HAd := hid (show ∀ W : World, Below w.heap.size w W → Calls Tryz.prog 79 #[.slice p n c, .string (⟨#[88, 45, 70, 111, 114, 119, 97, 114, 100, 101, 100, 45, 70, 111, 114]⟩ : ByteArray), .string ((S ++ (⟨#[44, 32]⟩ : ByteArray)) ++ C)] W _ from HSt0.out)
  have hne : ¬ S = ⟨#[]⟩ := fun e => hG (by rw [e])
  have hn1 : (S.toList == (⟨#[]⟩ : ByteArray).toList) = false := ne_list hne
  have hn4 : ¬ S.toList = [] := by rw [Lib.toList_data]; exact hG
  have hn2 : (S.toList == []) = false := by
    cases h : S.toList with
    | nil => exact absurd h hn4
    | cons a l => rfl
  have hn3 : S.toList.isEmpty = false := by
    cases h : S.toList with
    | nil => exact absurd h hn4
    | cons a l => rfl
  have HGe := hid (show Calls Tryz.prog 78 #[.slice p n c, .string (⟨#[88, 45, 70, 111, 114, 119, 97, 114, 100, 101, 100, 45, 70, 111, 114]⟩ : ByteArray)] w fun e w' => e = .returned (.tuple #[.string S, .bool S2]) ∧ Below w.heap.size w w' from by
    have h := HGe1.out
    rw [hS, hS2] at h
    exact h)
  have HC := hid (rfl : (0 : Nat) = 0)
  clear hS hS2 HSt0 hR hG hC hne HV hvl
  clear hF hsz hn HGe1
  go_enter Tryz.func40, Tryz.ntmps40
  go_wp2_with (first | (go_at_call 78; (with_reducible refine HGe.out.mono ?_); rintro e w3 ⟨rfl, hb⟩; have HB3 := hid hb; clear hb HGe) | (go_at_call 79; (try rw [HC.out]); (with_reducible refine (HAd.out _ HB3.out).mono ?_); rintro e w9 ⟨g9, m9, rfl, hl9, hg9, hk9, hb⟩; have HL9 := hid hl9; have HK9 := hid hk9; have HG9 := hid (Nat.le_trans HB3.out.size hg9); have HB9 := hid (below_out HB3.out hb); clear hb hl9 hg9 hk9 HAd))
  go_ret
  exact ⟨_, _, rfl, HL9.out, HG9.out, HK9.out, HB9.out⟩
theorem pforwarded (fs : List (B × B)) (cl : B) (p : Option Addr) (n c : Nat) (hn : fs.length = n) (hc : n ≤ c) (hc0 : p = none → c = 0) (hpl : ∀ ad, p = some ad → ad.spot = none) (w : World) (hF : FAt w p fs) (hsz : szW fs) (hnn : n ≤ 100000) (hcl : cl.length ≤ 35184372088832) (hvz : ∀ f ∈ fs, f.2.length ≤ 35184372088832) :
    Calls Tryz.prog 40 #[.slice p n c, .string (str cl)] w fun e w' => ∃ g' m, e = .returned (.slice (some ⟨g', 0, none⟩) m m) ∧ (fwdF fs cl).length = m ∧ w.heap.size ≤ g' ∧ BlkF w' g' (fwdF fs cl) ∧ Below w.heap.size w w' := by
  by_cases h1 : (getB fs (str xfB)).1.data.toList = []
  · exact pfwd0 fs cl p n c hn hc hc0 hpl w hF hsz hnn hcl hvz h1
  · exact pfwd1 fs cl p n c hn hc hc0 hpl w hF hsz hnn hcl hvz h1
end Go.Proofs.YtnlmjlfoeodleaaGreatDoor
