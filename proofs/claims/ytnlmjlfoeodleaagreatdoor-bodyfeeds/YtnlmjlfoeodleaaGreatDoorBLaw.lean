/- The law package's own: an error's number, fields one by one, what must come whatever the input is. -/
import Derived.Test.YtnlmjlfoeodleaaGreatDoorBEnd
import Derived.Test.YtnlmjlfoeodleaaGreatDoorAs
import Derived.Lib.SlBytesConst
namespace Go.Proofs.YtnlmjlfoeodleaaGreatDoor
open Go.RowKit

theorem convA {W : World} {q : Option Addr} {X : B} {k d : Nat} (ha : ArgAt W q X) (hk : X.length = k) : (convert 32 9 (.slice q k d)).run Tryz.prog W = .ok (.string (str X)) W := by
  cases q with
  | none =>
    have hX : X = [] := by
      cases X with
      | nil => rfl
      | cons y r => obtain ⟨_, _, e, _⟩ := ha 0 y rfl; cases e
    subst hX
    exact run_convert_bytes_nil W 32 5 Tryz.underlying32 Tryz.underlying5 k d 9 Tryz.underlying9
  | some ad =>
    subst hk
    refine run_convert_bytes_back W 32 9 5 ad d X Tryz.underlying32 Tryz.underlying5 Tryz.underlying9 (fun j hj => ?_)
    obtain ⟨g, o, e, hc⟩ := ha j X[j] (List.getElem?_eq_getElem hj)
    obtain rfl := Option.some.inj e
    rw [show (⟨g, o, none⟩ : Addr).add j = ⟨g, o + j, none⟩ by unfold Addr.add; split <;> simp_all]
    exact hc
/-- What the law's num asks of memory. -/
def EnvE (w : World) : Prop := w.cell? ⟨0, 0, none⟩ = some (.iface 148 (.agg #[.pointer (some ⟨7, 29, none⟩)]))
theorem EnvE.next {w w' : World} (h : EnvE w) (hb : Below w.heap.size w w') : EnvE w' := cell_keep hb h
theorem bnum_any (k : Nat) (w : World) (he : EnvE w) : Calls Tryz.prog 8 #[errOf k] w fun e w' => e = .returned (.int .i64 (k : Int)) ∧ Below w.heap.size w w' := by
  by_cases hk : k = 0
  · subst hk
    exact num_nil w
  · rw [errOf_pos hk]
    exact num_err (k : Int) w he
set_option maxRecDepth 20000 in
set_option maxHeartbeats 8000000 in
theorem bfields_same (fs : List (B × B)) (p p' : Option Addr) (n c c' : Nat) (hn : fs.length = n) (w : World) (hF : FAt w p fs) (hF' : FAt w p' fs) (hnn : n ≤ 140737488355328) :
    Calls Tryz.prog 16 #[.slice p n c, .slice p' n c'] w fun e w' => e = .returned (.bool true) ∧ Below w.heap.size w w' := by
  have HF := hid hF
  have HF' := hid hF'
  have HN := hid hn
  clear hF hF' hn
  go_enter Tryz.func16, Tryz.ntmps16
  go_wp2
  go_loopg [5] (n + 1) (fun gk s5 wr => ∃ i : Nat, s5 = .int .i64 (i : Int) ∧ i ≤ n ∧ gk = n - i + 1 ∧ Below w.heap.size w wr)
  case atStart => exact ⟨0, rfl, by omega, rfl, Below.refl _ _⟩
  case round =>
    obtain ⟨i, rfl, hin, rfl, hb⟩ := hrel
    have HB := hid hb
    clear hb
    by_cases hlt : i < n
    · obtain ⟨f, hf⟩ : ∃ f, fs[i]? = some f := ⟨fs[i]'(by rw [HN.out]; exact hlt), List.getElem?_eq_getElem (by rw [HN.out]; exact hlt)⟩
      obtain ⟨g, o, hp, c0, c1⟩ := (HF.out.next HB.out) i f hf
      obtain ⟨g', o', hp', d0, d1⟩ := (HF'.out.next HB.out) i f hf
      subst hp hp'
      have hltI : (i : Int) < (n : Int) := by omega
      obtain ⟨N, hN⟩ : ∃ N, str f.1 = N := ⟨_, rfl⟩
      obtain ⟨V, hV⟩ : ∃ V, str f.2 = V := ⟨_, rfl⟩
      rw [hN] at c0 d0
      rw [hV] at c1 d1
      have hS0 : RdL wr.drew g (o + i * 2) g' (o' + i * 2) N V := ⟨c0, c1, d0, d1⟩
      clear hf hN hV
      go_wp2
      refine wp_region_noPanic ?_
      refine any_begin 9 (by kernel_rfl) (by kernel_rfl) ?_
      refine late_begin (fun U => RdL U g (o + i * 2) g' (o' + i * 2) N V) (fun _ => false) hS0 (fun hS => ?_)
      refine late_take (i := 0) (some 17) rfl rfl (by kernel_rfl) (by kernel_rfl) (by kernel_rfl) (by kernel_rfl) (by kernel_rfl) (fun _ _ _ h => h) (by rfl) (v := ?v0f) ?hy0f hS ?rest0f
      case hy0f => intro w0 hSw; obtain ⟨a0, a1, b0, b1⟩ := hSw; go_simp; try with_reducible rfl
      simp only [Act.put, List.setIfInBounds_toArray, List.set_cons_zero, List.set_cons_succ]
      refine late_take (i := 1) (some 18) rfl rfl (by kernel_rfl) (by kernel_rfl) (by kernel_rfl) (by kernel_rfl) (by kernel_rfl) (fun _ _ _ h => h) (by rfl) (v := ?v1f) ?hy1f hS ?rest1f
      case hy1f => intro w0 hSw; obtain ⟨a0, a1, b0, b1⟩ := hSw; go_simp; try with_reducible rfl
      simp only [Act.put, List.setIfInBounds_toArray, List.set_cons_zero, List.set_cons_succ]
      refine late_take (i := 2) (some 19) rfl rfl (by kernel_rfl) (by kernel_rfl) (by kernel_rfl) (by kernel_rfl) (by kernel_rfl) (fun _ _ _ h => h) (by rfl) (v := ?v2f) ?hy2f hS ?rest2f
      case hy2f => intro w0 hSw; obtain ⟨a0, a1, b0, b1⟩ := hSw; go_simp; try with_reducible rfl
      simp only [Act.put, List.setIfInBounds_toArray, List.set_cons_zero, List.set_cons_succ]
      refine late_take (i := 3) (some 20) rfl rfl (by kernel_rfl) (by kernel_rfl) (by kernel_rfl) (by kernel_rfl) (by kernel_rfl) (fun _ _ _ h => h) (by rfl) (v := ?v3f) ?hy3f hS ?rest3f
      case hy3f => intro w0 hSw; obtain ⟨a0, a1, b0, b1⟩ := hSw; go_simp; try with_reducible rfl
      simp only [Act.put, List.setIfInBounds_toArray, List.set_cons_zero, List.set_cons_succ]
      refine late_take (i := 4) (some 21) rfl rfl (by kernel_rfl) (by kernel_rfl) (by kernel_rfl) (by kernel_rfl) (by kernel_rfl) (fun _ _ _ h => h) (by rfl) (v := ?v4f) ?hy4f hS ?rest4f
      case hy4f => intro w0 hSw; obtain ⟨a0, a1, b0, b1⟩ := hSw; go_simp; try with_reducible rfl
      simp only [Act.put, List.setIfInBounds_toArray, List.set_cons_zero, List.set_cons_succ]
      refine late_take (i := 5) (some 22) rfl rfl (by kernel_rfl) (by kernel_rfl) (by kernel_rfl) (by kernel_rfl) (by kernel_rfl) (fun _ _ _ h => h) (by rfl) (v := ?v5f) ?hy5f hS ?rest5f
      case hy5f => intro w0 hSw; obtain ⟨a0, a1, b0, b1⟩ := hSw; go_simp; try with_reducible rfl
      simp only [Act.put, List.setIfInBounds_toArray, List.set_cons_zero, List.set_cons_succ]
      refine late_take (i := 6) (some 23) rfl rfl (by kernel_rfl) (by kernel_rfl) (by kernel_rfl) (by kernel_rfl) (by kernel_rfl) (fun _ _ _ h => h) (by rfl) (v := ?v6f) ?hy6f hS ?rest6f
      case hy6f => intro w0 hSw; obtain ⟨a0, a1, b0, b1⟩ := hSw; go_simp; try with_reducible rfl
      simp only [Act.put, List.setIfInBounds_toArray, List.set_cons_zero, List.set_cons_succ]
      refine late_take (i := 7) (some 24) rfl rfl (by kernel_rfl) (by kernel_rfl) (by kernel_rfl) (by kernel_rfl) (by kernel_rfl) (fun _ _ _ h => h) (by rfl) (v := ?v7f) ?hy7f hS ?rest7f
      case hy7f => intro w0 hSw; obtain ⟨a0, a1, b0, b1⟩ := hSw; go_simp; try with_reducible rfl
      simp only [Act.put, List.setIfInBounds_toArray, List.set_cons_zero, List.set_cons_succ]
      refine late_take (i := 8) (some 25) rfl rfl (by kernel_rfl) (by kernel_rfl) (by kernel_rfl) (by kernel_rfl) (by kernel_rfl) (fun _ _ _ h => h) (by rfl) (v := ?v8f) ?hy8f hS ?rest8f
      case hy8f => intro w0 hSw; obtain ⟨a0, a1, b0, b1⟩ := hSw; go_simp; try with_reducible rfl
      simp only [Act.put, List.setIfInBounds_toArray, List.set_cons_zero, List.set_cons_succ]
      refine late_done (by kernel_rfl) ?_ _
      refine NoPanic.normal ?_
      go_wp2
      go_roundg (n - (i + 1) + 1)
      case measure => omega
      case rel => exact ⟨i + 1, by go_num, by omega, rfl, HB.out.drew⟩
    · obtain rfl : i = n := by omega
      have hltI : ¬ (i : Int) < (i : Int) := by omega
      clear hlt
      go_wp2
      go_ret
      exact ⟨rfl, HB.out⟩
theorem whole_yes (K N m : Int) (h9 : m ≤ 9223372036854775807) (l : B) (p : Option Addr) (n c : Nat) (hn : l.length = n) (hnc : n ≤ c) (hpc : p = none → c = 0) (hl : n ≤ 140737488355328) (w : World) (ha : ArgAt w p l) (hE : EnvP w) {S : B} {M T : Nat} (h0 : wholeX K N m l = 0) (hS : saidX (newX K N m) l = S) (hM : S.length = M) (hT : tookX (newX K N m) l = T) : Calls Tryz.prog 32 #[.agg #[.int .i64 K, .int .i64 N], .int .i64 m, .slice p n c] w fun e w' => ∃ q d, e = .returned (.tuple #[.slice q M d, .int .i64 (T : Int), .nilIface]) ∧ Own w' w.heap.size (.slice q M d) S ∧ Below w.heap.size w w' := by
  refine (wholex_any K N m h9 l p n c hn hnc hpc hl w ha hE).mono ?_
  rintro e w' (⟨h1, _⟩ | ⟨_, q, d, rfl, ho, hb⟩)
  · exact absurd h0 h1
  · rw [hS, hM] at ho
    rw [hS, hM, hT]
    exact ⟨q, d, rfl, ho, hb⟩
theorem whole_err (K N m : Int) (h9 : m ≤ 9223372036854775807) (l : B) (p : Option Addr) (n c : Nat) (hn : l.length = n) (hnc : n ≤ c) (hpc : p = none → c = 0) (hl : n ≤ 140737488355328) (w : World) (ha : ArgAt w p l) (hE : EnvP w) {k : Nat} (h0 : wholeX K N m l = k) (hk : k ≠ 0) : Calls Tryz.prog 32 #[.agg #[.int .i64 K, .int .i64 N], .int .i64 m, .slice p n c] w fun e w' => e = .returned (.tuple #[.slice none 0 0, .int .i64 0, .iface 72 (.int .i64 (k : Int))]) ∧ Below w.heap.size w w' := by
  refine (wholex_any K N m h9 l p n c hn hnc hpc hl w ha hE).mono ?_
  subst h0
  rintro e w' (⟨h1, rfl, hb⟩ | ⟨h1, _⟩)
  · rw [errOf_pos hk]; exact ⟨rfl, hb⟩
  · exact absurd h1 hk
theorem sure_w : wholeX 1 3 9 [97, 98, 99, 100] = 0 ∧ saidX (newX 1 3 9) [97, 98, 99, 100] = [97, 98, 99] ∧ tookX (newX 1 3 9) [97, 98, 99, 100] = 3 := by decide +kernel
set_option maxRecDepth 20000 in
set_option maxHeartbeats 8000000 in
theorem sure_any (w : World) (hE : EnvP w) : Calls Tryz.prog 9 #[] w fun e w' => e = .returned (.bool true) ∧ Below w.heap.size w w' := by
  have hcv : (convert 32 32 (.slice (some ⟨w.heap.size, 0, none⟩) 4 4)).run Tryz.prog (w.alloc (.cells #[.int .u8 97, .int .u8 98, .int .u8 99, .int .u8 100] 5)) = .ok (.slice (some ⟨w.heap.size, 0, none⟩) 4 4) (w.alloc (.cells #[.int .u8 97, .int .u8 98, .int .u8 99, .int .u8 100] 5 (4, 5))) := Lib.run_convert_bytes_const w 32 5 _ 4 4 Tryz.underlying32 Tryz.underlying5
  have HW := hid (whole_yes 1 3 9 (by decide) [97, 98, 99, 100] (some ⟨w.heap.size, 0, none⟩) 4 4 rfl (by decide) (fun e => by cases e) (by decide) (w.alloc (.cells #[.int .u8 97, .int .u8 98, .int .u8 99, .int .u8 100] 5 (4, 5))) (const_arg w _ _ _ rfl) (hE.next (below_new _ _)) sure_w.1 sure_w.2.1 (M := 3) rfl sure_w.2.2)
  have HB0 := hid (below_new w (.cells #[.int .u8 97, .int .u8 98, .int .u8 99, .int .u8 100] 5 (4, 5)))
  clear hE
  go_enter Tryz.func9, Tryz.ntmps9
  go_wp2_with (go_at_call 32; (with_reducible refine HW.out.mono ?_); rintro e w1 ⟨q, d, rfl, ho, hb⟩; have HB1 := hid (below_out HB0.out hb); have hs := conv_own ho; clear hcv ho hb HW)
  go_ret
  exact ⟨rfl, HB1.out⟩
end Go.Proofs.YtnlmjlfoeodleaaGreatDoor
