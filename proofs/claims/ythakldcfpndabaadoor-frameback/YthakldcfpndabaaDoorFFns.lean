/- The law package's own: fields part by part, an error's number; the texts of numbers. -/
import Derived.Test.YthakldcfpndabaaDoorHFine
import Derived.Test.YthakldcfpndabaaDoorAs
import Derived.Test.YthakldcfpndabaaDoorCTold
import Derived.Test.YthakldcfpndabaaDoorShelf
import Derived.Lib.AppendIntMem
namespace Go.Proofs.YthakldcfpndabaaDoor
open Go.RowKit

/-- What the law's num asks of memory. -/
def EnvE (w : World) : Prop := w.cell? ⟨0, 0, none⟩ = some (.iface 124 (.agg #[.pointer (some ⟨7, 36, none⟩)]))
theorem EnvE.next {w w' : World} (h : EnvE w) (hb : Below w.heap.size w w') : EnvE w' := cell_keep hb h
theorem num_any (k : Nat) (w : World) (he : EnvE w) : Calls Tryd.prog 24 #[errOf k] w fun e w' => e = .returned (.int .i64 (k : Int)) ∧ Below w.heap.size w w' := by
  by_cases hk : k = 0
  · subst hk
    exact num_nil w
  · rw [errOf_pos hk]
    exact num_err (k : Int) w he
structure RdL (U : World) (g o g' o' : Nat) (N V : ByteArray) : Prop where
  a0 : U.cell? ⟨g, o, none⟩ = some (.string N)
  a1 : U.cell? ⟨g, o + 1, none⟩ = some (.string V)
  b0 : U.cell? ⟨g', o', none⟩ = some (.string N)
  b1 : U.cell? ⟨g', o' + 1, none⟩ = some (.string V)
set_option maxRecDepth 20000 in
set_option maxHeartbeats 8000000 in
theorem fields_same (fs : List (B × B)) (p p' : Option Addr) (n c c' : Nat) (hn : fs.length = n) (w : World) (hF : FAt w p fs) (hF' : FAt w p' fs) (hnn : n ≤ 140737488355328) :
    Calls Tryd.prog 25 #[.slice p n c, .slice p' n c'] w fun e w' => e = .returned (.bool true) ∧ Below w.heap.size w w' := by
  have HF := hid hF
  have HF' := hid hF'
  have HN := hid hn
  clear hF hF' hn
  go_enter Tryd.func25, Tryd.ntmps25
  go_wp2
  go_loopg [5] (n + 1) (fun gk s5 wr => ∃ i : Nat, s5 = .int .i64 (i : Int) ∧ i ≤ n ∧ gk = n - i + 1 ∧ Below w.heap.size w wr)
  case atStart => exact ⟨0, rfl, by omega, rfl, Below.refl _ _⟩
  case round =>
    obtain ⟨i, rfl, hin, rfl, hb⟩ := hrel
    have HB := hid hb
    clear hb
    by_cases hlt : i < n
    · obtain ⟨f, hf⟩ : ∃ f, fs[i]? = some f := ⟨fs[i]'(by rw [HN.out]; exact hlt), List.getElem?_eq_getElem (by rw [HN.out]; exact hlt)⟩
      obtain ⟨g, o, hp, c0, c1⟩ := (HF.out.next HB.out) i f hf
      obtain ⟨g', o', hp', d0, d1⟩ := (HF'.out.next HB.out) i f hf
      subst hp hp'
      have hltI : (i : Int) < (n : Int) := by omega
      obtain ⟨N, hN⟩ : ∃ N, str f.1 = N := ⟨_, rfl⟩
      obtain ⟨V, hV⟩ : ∃ V, str f.2 = V := ⟨_, rfl⟩
      rw [hN] at c0 d0
      rw [hV] at c1 d1
      have hS0 : RdL wr.drew g (o + i * 2) g' (o' + i * 2) N V := ⟨c0, c1, d0, d1⟩
      clear hf hN hV
      go_wp2
      refine wp_region_noPanic ?_
      refine any_begin 9 (by kernel_rfl) (by kernel_rfl) ?_
      refine late_begin (fun U => RdL U g (o + i * 2) g' (o' + i * 2) N V) (fun _ => false) hS0 (fun hS => ?_)
      refine late_take (i := 0) (some 17) rfl rfl (by kernel_rfl) (by kernel_rfl) (by kernel_rfl) (by kernel_rfl) (by kernel_rfl) (fun _ _ _ h => h) (by rfl) (v := ?v0f) ?hy0f hS ?rest0f
      case hy0f => intro w0 hSw; obtain ⟨a0, a1, b0, b1⟩ := hSw; go_simp; try with_reducible rfl
      simp only [Act.put, List.setIfInBounds_toArray, List.set_cons_zero, List.set_cons_succ]
      refine late_take (i := 1) (some 18) rfl rfl (by kernel_rfl) (by kernel_rfl) (by kernel_rfl) (by kernel_rfl) (by kernel_rfl) (fun _ _ _ h => h) (by rfl) (v := ?v1f) ?hy1f hS ?rest1f
      case hy1f => intro w0 hSw; obtain ⟨a0, a1, b0, b1⟩ := hSw; go_simp; try with_reducible rfl
      simp only [Act.put, List.setIfInBounds_toArray, List.set_cons_zero, List.set_cons_succ]
      refine late_take (i := 2) (some 19) rfl rfl (by kernel_rfl) (by kernel_rfl) (by kernel_rfl) (by kernel_rfl) (by kernel_rfl) (fun _ _ _ h => h) (by rfl) (v := ?v2f) ?hy2f hS ?rest2f
      case hy2f => intro w0 hSw; obtain ⟨a0, a1, b0, b1⟩ := hSw; go_simp; try with_reducible rfl
      simp only [Act.put, List.setIfInBounds_toArray, List.set_cons_zero, List.set_cons_succ]
      refine late_take (i := 3) (some 20) rfl rfl (by kernel_rfl) (by kernel_rfl) (by kernel_rfl) (by kernel_rfl) (by kernel_rfl) (fun _ _ _ h => h) (by rfl) (v := ?v3f) ?hy3f hS ?rest3f
      case hy3f => intro w0 hSw; obtain ⟨a0, a1, b0, b1⟩ := hSw; go_simp; try with_reducible rfl
      simp only [Act.put, List.setIfInBounds_toArray, List.set_cons_zero, List.set_cons_succ]
      refine late_take (i := 4) (some 21) rfl rfl (by kernel_rfl) (by kernel_rfl) (by kernel_rfl) (by kernel_rfl) (by kernel_rfl) (fun _ _ _ h => h) (by rfl) (v := ?v4f) ?hy4f hS ?rest4f
      case hy4f => intro w0 hSw; obtain ⟨a0, a1, b0, b1⟩ := hSw; go_simp; try with_reducible rfl
      simp only [Act.put, List.setIfInBounds_toArray, List.set_cons_zero, List.set_cons_succ]
      refine late_take (i := 5) (some 22) rfl rfl (by kernel_rfl) (by kernel_rfl) (by kernel_rfl) (by kernel_rfl) (by kernel_rfl) (fun _ _ _ h => h) (by rfl) (v := ?v5f) ?hy5f hS ?rest5f
      case hy5f => intro w0 hSw; obtain ⟨a0, a1, b0, b1⟩ := hSw; go_simp; try with_reducible rfl
      simp only [Act.put, List.setIfInBounds_toArray, List.set_cons_zero, List.set_cons_succ]
      refine late_take (i := 6) (some 23) rfl rfl (by kernel_rfl) (by kernel_rfl) (by kernel_rfl) (by kernel_rfl) (by kernel_rfl) (fun _ _ _ h => h) (by rfl) (v := ?v6f) ?hy6f hS ?rest6f
      case hy6f => intro w0 hSw; obtain ⟨a0, a1, b0, b1⟩ := hSw; go_simp; try with_reducible rfl
      simp only [Act.put, List.setIfInBounds_toArray, List.set_cons_zero, List.set_cons_succ]
      refine late_take (i := 7) (some 24) rfl rfl (by kernel_rfl) (by kernel_rfl) (by kernel_rfl) (by kernel_rfl) (by kernel_rfl) (fun _ _ _ h => h) (by rfl) (v := ?v7f) ?hy7f hS ?rest7f
      case hy7f => intro w0 hSw; obtain ⟨a0, a1, b0, b1⟩ := hSw; go_simp; try with_reducible rfl
      simp only [Act.put, List.setIfInBounds_toArray, List.set_cons_zero, List.set_cons_succ]
      refine late_take (i := 8) (some 25) rfl rfl (by kernel_rfl) (by kernel_rfl) (by kernel_rfl) (by kernel_rfl) (by kernel_rfl) (fun _ _ _ h => h) (by rfl) (v := ?v8f) ?hy8f hS ?rest8f
      case hy8f => intro w0 hSw; obtain ⟨a0, a1, b0, b1⟩ := hSw; go_simp; try with_reducible rfl
      simp only [Act.put, List.setIfInBounds_toArray, List.set_cons_zero, List.set_cons_succ]
      refine late_done (by kernel_rfl) ?_ _
      refine NoPanic.normal ?_
      go_wp2
      go_roundg (n - (i + 1) + 1)
      case measure => omega
      case rel => exact ⟨i + 1, by go_num, by omega, rfl, HB.out.drew⟩
    · obtain rfl : i = n := by omega
      have hltI : ¬ (i : Int) < (i : Int) := by omega
      clear hlt
      go_wp2
      go_ret
      exact ⟨rfl, HB.out⟩
/-- What the walks ask of the library's table of powers of ten. -/
def EnvP (w : World) : Prop := Lib.TabIs Tryd.prog w "internal/strconv.uint64pow10" .u64 Lib.pow10Tab
theorem EnvP.next {w w' : World} (h : EnvP w) (hb : Below w.heap.size w w') : EnvP w' := Lib.tabBelow_of_tabIs h _ hb
theorem toldL_dec : ∀ (f u : Nat) (l : List UInt8), u < 10 ^ (f + 1) → toldL 10 (f + 1) u l = Lib.decDigits u ++ l
  | 0, u, l, h => by
    have hu : u < 10 := by simpa using h
    rw [toldL, if_pos (by omega), Lib.decDigits_one hu, Nat.mod_eq_of_lt hu]
    simp [digC, hu]
  | f + 1, u, l, h => by
    rw [toldL]
    by_cases hu : u < 10
    · rw [if_pos (by omega), Lib.decDigits_one hu, Nat.mod_eq_of_lt hu]
      simp [digC, hu]
    · have h1 : u / 10 < 10 ^ (f + 1) := by
        rw [Nat.div_lt_iff_lt_mul (by omega)]
        rw [Nat.pow_succ] at h
        exact h
      have h3 : u % 10 < 10 := Nat.mod_lt _ (by omega)
      have h4 : Lib.decDigits u = Lib.decDigits (u / 10) ++ [UInt8.ofNat (48 + u % 10)] := by
        conv => lhs; rw [Lib.decDigits, dif_neg hu]
      rw [if_neg (by omega), toldL_dec f _ _ h1, h4]
      simp [digC, h3]
theorem told_dec (u : Nat) (h : u < 18446744073709551616) : told 10 u = Lib.decDigits u := by
  have := toldL_dec 63 u [] (Nat.lt_trans h (by decide))
  simpa [told] using this
theorem text_any (k : Nat) (hk : k < 9223372036854775808) (w : World) (hE : EnvP w) : Calls Tryd.prog 50 #[.int .i64 (k : Int)] w fun e w' => e = .returned (.string (str (told 10 k))) ∧ Below w.heap.size w w' := by
  have HC := hid (Tryd.strconv_Itoa (k : Int) (by omega) (by omega) w hE)
  have HT := hid (show (⟨(Lib.itoa (k : Int)).toArray⟩ : ByteArray) = str (told 10 k) from by rw [Lib.itoa_nonneg, told_dec k (by omega)])
  go_enter Tryd.func50, Tryd.ntmps50
  go_wp2_with (go_at_call 71; (with_reducible refine HC.out.mono ?_); rintro e w' ⟨rfl, k, os, rfl⟩)
  go_ret
  exact ⟨by rw [HT.out]; rfl, Lib.below_grow _ _ (Nat.le_refl _) _ _⟩
end Go.Proofs.YthakldcfpndabaaDoor
