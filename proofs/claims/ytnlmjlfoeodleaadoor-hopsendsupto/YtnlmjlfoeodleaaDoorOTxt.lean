/- Numbers as texts on both sides; fields held against others, field by field, and copied. -/
import Derived.Test.YtnlmjlfoeodleaaDoorOAdd
import Derived.Test.YtnlmjlfoeodleaaDoorWWritten
namespace Go.Proofs.YtnlmjlfoeodleaaDoor
open Go.RowKit

theorem itoa_pos (k : Nat) (h : k < 18446744073709551616) : (⟨(told 10 k).toArray⟩ : ByteArray) = ⟨(Lib.itoa (k : Int)).toArray⟩ := by
  rw [Lib.itoa_nonneg, told_dec k h]
theorem itoa_minus (k : Nat) (h1 : 1 ≤ k) (h : k < 18446744073709551616) : ({ data := #[45] } : ByteArray) ++ { data := (told 10 k).toArray } = ⟨(Lib.itoa (-(k : Int))).toArray⟩ := by
  rw [Lib.itoa_neg k h1, told_dec k h]
  apply ByteArray.ext
  simp
theorem told_len10 : ∀ (f u : Nat) (l : List UInt8), (toldL 10 f u l).length ≤ f + l.length
  | 0, u, l => by unfold toldL; simp
  | f + 1, u, l => by
    unfold toldL
    split
    · simp; omega
    · have h := told_len10 f (u / 10) (digC (u % 10) :: l)
      simp only [List.length_cons] at h
      omega
theorem told_few (k : Nat) : (told 10 k).length ≤ 64 := by
  have h := told_len10 64 k []
  simpa [told] using h
theorem itoa_few (n : Int) : (Lib.itoa n).length ≤ 65 ∨ 9223372036854775809 ≤ n.natAbs := by
  by_cases h0 : 9223372036854775809 ≤ n.natAbs
  · exact .inr h0
  · left
    by_cases h : n < 0
    · obtain ⟨k, rfl⟩ : ∃ k : Nat, n = -(k : Int) := ⟨n.natAbs, by omega⟩
      rw [Lib.itoa_neg k (by omega), ← told_dec k (by omega), List.length_cons]
      have := told_few k
      omega
    · obtain ⟨k, rfl⟩ : ∃ k : Nat, n = k := ⟨n.toNat, by omega⟩
      rw [Lib.itoa_nonneg, ← told_dec k (by omega)]
      have := told_few k
      omega
set_option maxHeartbeats 400000 in
theorem ptext (n : Int) (w : World) (h0 : -9223372036854775808 ≤ n) (h1 : n ≤ 9223372036854775807) (hE : EnvP w) :
    Calls Tryd.prog 29 #[.int .i64 n] w fun e w' => e = .returned (.string (str (Lib.itoa n))) ∧ Below w.heap.size w w' := by
  have HC := hid (Tryd.strconv_Itoa n h0 h1 w hE)
  go_enter Tryd.func29, Tryd.ntmps29
  go_wp2_with (go_at_call 49; (with_reducible refine HC.out.mono ?_); rintro e w' ⟨rfl, k, os, rfl⟩)
  go_ret
  exact ⟨rfl, Lib.below_grow _ _ (Nat.le_refl _) _ _⟩
set_option maxHeartbeats 1000000 in
theorem dtext (n : Int) (w : World) (h0 : -9223372036854775808 ≤ n) (h1 : n ≤ 9223372036854775807) :
    Calls Tryd.prog 31 #[.int .i64 n] w fun e w' => e = .returned (.string (str (Lib.itoa n))) ∧ Below w.heap.size w w' := by
  by_cases h : n < 0
  · obtain ⟨k, rfl⟩ : ∃ k : Nat, n = -(k : Int) := ⟨n.natAbs, by omega⟩
    have hx := Lib.hid (itoa_minus k (by omega) (by omega))
    have hw : IntKind.u64.wrap (-IntKind.u64.wrap (-(k : Int))) = k := by rw [IntKind.wrap_u64, IntKind.wrap_u64]; omega
    have hlen : (told 10 k).length ≤ 64 := told_few k
    go_enter Tryd.func31, Tryd.ntmps31
    go_wp2_with (go_at_call 50; refine (told10_any k _ (by omega)).mono ?_; rintro e w' ⟨rfl, m, rfl⟩)
    go_ret
    exact ⟨congrArg (fun s => Ending.returned (Value.string s)) hx.out, below_drewN' _ _⟩
  · obtain ⟨k, rfl⟩ : ∃ k : Nat, n = k := ⟨n.toNat, by omega⟩
    have hx := Lib.hid (itoa_pos k (by omega))
    have hw : IntKind.u64.wrap (k : Int) = k := by rw [IntKind.wrap_u64]; omega
    go_enter Tryd.func31, Tryd.ntmps31
    go_wp2_with (go_at_call 50; refine (told10_any k _ (by omega)).mono ?_; rintro e w' ⟨rfl, m, rfl⟩)
    go_ret
    exact ⟨congrArg (fun s => Ending.returned (Value.string s)) hx.out, below_drewN' _ _⟩
structure RdL (U : World) (g o g' o' : Nat) (N V : ByteArray) : Prop where
  a0 : U.cell? ⟨g, o, none⟩ = some (.string N)
  a1 : U.cell? ⟨g, o + 1, none⟩ = some (.string V)
  b0 : U.cell? ⟨g', o', none⟩ = some (.string N)
  b1 : U.cell? ⟨g', o' + 1, none⟩ = some (.string V)
set_option maxRecDepth 20000 in
set_option maxHeartbeats 8000000 in
theorem fields14 (fs : List (B × B)) (p p' : Option Addr) (n c c' : Nat) (hn : fs.length = n) (w : World) (hF : FAt w p fs) (hF' : FAt w p' fs) (hnn : n ≤ 140737488355328) :
    Calls Tryd.prog 9 #[.slice p n c, .slice p' n c'] w fun e w' => e = .returned (.bool true) ∧ Below w.heap.size w w' := by
  have HF := hid hF
  have HF' := hid hF'
  have HN := hid hn
  clear hF hF' hn
  go_enter Tryd.func9, Tryd.ntmps9
  go_wp2
  go_loopg [5] (n + 1) (fun gk s5 wr => ∃ i : Nat, s5 = .int .i64 (i : Int) ∧ i ≤ n ∧ gk = n - i + 1 ∧ Below w.heap.size w wr)
  case atStart => exact ⟨0, rfl, by omega, rfl, Below.refl _ _⟩
  case round =>
    obtain ⟨i, rfl, hin, rfl, hb⟩ := hrel
    have HB := hid hb
    clear hb
    by_cases hlt : i < n
    · obtain ⟨f, hf⟩ : ∃ f, fs[i]? = some f := ⟨fs[i]'(by rw [HN.out]; exact hlt), List.getElem?_eq_getElem (by rw [HN.out]; exact hlt)⟩
      obtain ⟨g, o, hp, c0, c1⟩ := (HF.out.next HB.out) i f hf
      obtain ⟨g', o', hp', d0, d1⟩ := (HF'.out.next HB.out) i f hf
      subst hp hp'
      have hltI : (i : Int) < (n : Int) := by omega
      obtain ⟨N, hN⟩ : ∃ N, str f.1 = N := ⟨_, rfl⟩
      obtain ⟨V, hV⟩ : ∃ V, str f.2 = V := ⟨_, rfl⟩
      rw [hN] at c0 d0
      rw [hV] at c1 d1
      have hS0 : RdL wr.drew g (o + i * 2) g' (o' + i * 2) N V := ⟨c0, c1, d0, d1⟩
      clear hf hN hV
      go_wp2
      refine wp_region_noPanic ?_
      refine any_begin 9 (by kernel_rfl) (by kernel_rfl) ?_
      refine late_begin (fun U => RdL U g (o + i * 2) g' (o' + i * 2) N V) (fun _ => false) hS0 (fun hS => ?_)
      refine late_take (i := 0) (some 17) rfl rfl (by kernel_rfl) (by kernel_rfl) (by kernel_rfl) (by kernel_rfl) (by kernel_rfl) (fun _ _ _ h => h) (by rfl) (v := ?v0f) ?hy0f hS ?rest0f
      case hy0f => intro w0 hSw; obtain ⟨a0, a1, b0, b1⟩ := hSw; go_simp; try with_reducible rfl
      simp only [Act.put, List.setIfInBounds_toArray, List.set_cons_zero, List.set_cons_succ]
      refine late_take (i := 1) (some 18) rfl rfl (by kernel_rfl) (by kernel_rfl) (by kernel_rfl) (by kernel_rfl) (by kernel_rfl) (fun _ _ _ h => h) (by rfl) (v := ?v1f) ?hy1f hS ?rest1f
      case hy1f => intro w0 hSw; obtain ⟨a0, a1, b0, b1⟩ := hSw; go_simp; try with_reducible rfl
      simp only [Act.put, List.setIfInBounds_toArray, List.set_cons_zero, List.set_cons_succ]
      refine late_take (i := 2) (some 19) rfl rfl (by kernel_rfl) (by kernel_rfl) (by kernel_rfl) (by kernel_rfl) (by kernel_rfl) (fun _ _ _ h => h) (by rfl) (v := ?v2f) ?hy2f hS ?rest2f
      case hy2f => intro w0 hSw; obtain ⟨a0, a1, b0, b1⟩ := hSw; go_simp; try with_reducible rfl
      simp only [Act.put, List.setIfInBounds_toArray, List.set_cons_zero, List.set_cons_succ]
      refine late_take (i := 3) (some 20) rfl rfl (by kernel_rfl) (by kernel_rfl) (by kernel_rfl) (by kernel_rfl) (by kernel_rfl) (fun _ _ _ h => h) (by rfl) (v := ?v3f) ?hy3f hS ?rest3f
      case hy3f => intro w0 hSw; obtain ⟨a0, a1, b0, b1⟩ := hSw; go_simp; try with_reducible rfl
      simp only [Act.put, List.setIfInBounds_toArray, List.set_cons_zero, List.set_cons_succ]
      refine late_take (i := 4) (some 21) rfl rfl (by kernel_rfl) (by kernel_rfl) (by kernel_rfl) (by kernel_rfl) (by kernel_rfl) (fun _ _ _ h => h) (by rfl) (v := ?v4f) ?hy4f hS ?rest4f
      case hy4f => intro w0 hSw; obtain ⟨a0, a1, b0, b1⟩ := hSw; go_simp; try with_reducible rfl
      simp only [Act.put, List.setIfInBounds_toArray, List.set_cons_zero, List.set_cons_succ]
      refine late_take (i := 5) (some 22) rfl rfl (by kernel_rfl) (by kernel_rfl) (by kernel_rfl) (by kernel_rfl) (by kernel_rfl) (fun _ _ _ h => h) (by rfl) (v := ?v5f) ?hy5f hS ?rest5f
      case hy5f => intro w0 hSw; obtain ⟨a0, a1, b0, b1⟩ := hSw; go_simp; try with_reducible rfl
      simp only [Act.put, List.setIfInBounds_toArray, List.set_cons_zero, List.set_cons_succ]
      refine late_take (i := 6) (some 23) rfl rfl (by kernel_rfl) (by kernel_rfl) (by kernel_rfl) (by kernel_rfl) (by kernel_rfl) (fun _ _ _ h => h) (by rfl) (v := ?v6f) ?hy6f hS ?rest6f
      case hy6f => intro w0 hSw; obtain ⟨a0, a1, b0, b1⟩ := hSw; go_simp; try with_reducible rfl
      simp only [Act.put, List.setIfInBounds_toArray, List.set_cons_zero, List.set_cons_succ]
      refine late_take (i := 7) (some 24) rfl rfl (by kernel_rfl) (by kernel_rfl) (by kernel_rfl) (by kernel_rfl) (by kernel_rfl) (fun _ _ _ h => h) (by rfl) (v := ?v7f) ?hy7f hS ?rest7f
      case hy7f => intro w0 hSw; obtain ⟨a0, a1, b0, b1⟩ := hSw; go_simp; try with_reducible rfl
      simp only [Act.put, List.setIfInBounds_toArray, List.set_cons_zero, List.set_cons_succ]
      refine late_take (i := 8) (some 25) rfl rfl (by kernel_rfl) (by kernel_rfl) (by kernel_rfl) (by kernel_rfl) (by kernel_rfl) (fun _ _ _ h => h) (by rfl) (v := ?v8f) ?hy8f hS ?rest8f
      case hy8f => intro w0 hSw; obtain ⟨a0, a1, b0, b1⟩ := hSw; go_simp; try with_reducible rfl
      simp only [Act.put, List.setIfInBounds_toArray, List.set_cons_zero, List.set_cons_succ]
      refine late_done (by kernel_rfl) ?_ _
      refine NoPanic.normal ?_
      go_wp2
      go_roundg (n - (i + 1) + 1)
      case measure => omega
      case rel => exact ⟨i + 1, by go_num, by omega, rfl, HB.out.drew⟩
    · obtain rfl : i = n := by omega
      have hltI : ¬ (i : Int) < (i : Int) := by omega
      clear hlt
      go_wp2
      go_ret
      exact ⟨rfl, HB.out⟩
end Go.Proofs.YtnlmjlfoeodleaaDoor
