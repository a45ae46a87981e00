/- The law's own functions: the number of an error, fields compared. -/
import Derived.Test.YthakldcfpndabaaDoorWReq
namespace Go.Proofs.YthakldcfpndabaaDoor
open Go.RowKit

theorem assertE (v : Value) (w : World) : (Instr.typeAssert (.iface 83 v) 36 83 true).run Tryd.prog w = .ok (.tuple #[v, .bool true]) w := by kernel_rfl
set_option maxRecDepth 20000 in
set_option maxHeartbeats 8000000 in
theorem num10_any (k : Nat) (w : World) : Calls Tryd.prog 41 #[errOf k] w fun e w' => e = .returned (.int .i64 (k : Int)) ∧ w' = w := by
  by_cases hk : k = 0
  · subst hk
    rw [errOf_zero]
    go_enter Tryd.func41, Tryd.ntmps41
    go_wp2
    go_ret
    exact ⟨rfl, rfl⟩
  · rw [errOf_pos hk]
    clear hk
    have ha := assertE (.int .i64 (k : Int))
    go_enter Tryd.func41, Tryd.ntmps41
    go_wp2
    go_ret
    exact ⟨rfl, rfl⟩
structure RdL2 (U : World) (g o g' o' : Nat) (N V N' V' : ByteArray) : Prop where
  a0 : U.cell? ⟨g, o, none⟩ = some (.string N)
  a1 : U.cell? ⟨g, o + 1, none⟩ = some (.string V)
  b0 : U.cell? ⟨g', o', none⟩ = some (.string N')
  b1 : U.cell? ⟨g', o' + 1, none⟩ = some (.string V')
theorem take_next {fs fs' : List (B × B)} {i : Nat} {f f' : B × B} (h : fs.take i = fs'.take i) (hf : fs[i]? = some f) (hf' : fs'[i]? = some f') (e : f = f') : fs.take (i + 1) = fs'.take (i + 1) := by
  rw [List.take_add_one, List.take_add_one, h, hf, hf', e]
set_option maxRecDepth 20000 in
set_option maxHeartbeats 8000000 in
theorem fields10_any (fs fs' : List (B × B)) (p p' : Option Addr) (n n' c c' : Nat) (hn : fs.length = n) (hn' : fs'.length = n') (w : World) (hF : FAt w p fs) (hF' : FAt w p' fs') (hnn : n ≤ 140737488355328) :
    Calls Tryd.prog 13 #[.slice p n c, .slice p' n' c'] w fun e w' => e = .returned (.bool (decide (fs = fs'))) ∧ Below w.heap.size w w' := by
  have HF := hid hF
  have HF' := hid hF'
  have HN := hid hn
  have HN' := hid hn'
  obtain ⟨R, hR⟩ : ∃ R, decide (fs = fs') = R := ⟨_, rfl⟩
  have HR := hid hR
  rw [hR]
  clear hF hF' hn hn' hR
  by_cases hnl : n = n'
  · subst hnl
    go_enter Tryd.func13, Tryd.ntmps13
    go_wp2
    go_loopg [5] (n + 1) (fun gk s5 wr => ∃ i : Nat, s5 = .int .i64 (i : Int) ∧ i ≤ n ∧ gk = n - i + 1 ∧ fs.take i = fs'.take i ∧ Below w.heap.size w wr)
    case atStart => exact ⟨0, rfl, by omega, rfl, by simp, Below.refl _ _⟩
    case round =>
      obtain ⟨i, rfl, hin, rfl, hsame, hb⟩ := hrel
      have HB := hid hb
      have HSame := hid hsame
      clear hb hsame
      by_cases hlt : i < n
      · obtain ⟨f, hf⟩ : ∃ f, fs[i]? = some f := ⟨fs[i]'(by rw [HN.out]; exact hlt), List.getElem?_eq_getElem (by rw [HN.out]; exact hlt)⟩
        obtain ⟨f', hf'⟩ : ∃ f, fs'[i]? = some f := ⟨fs'[i]'(by rw [HN'.out]; exact hlt), List.getElem?_eq_getElem (by rw [HN'.out]; exact hlt)⟩
        obtain ⟨g, o, hp, c0, c1⟩ := (HF.out.next HB.out) i f hf
        obtain ⟨g', o', hp', d0, d1⟩ := (HF'.out.next HB.out) i f' hf'
        subst hp hp'
        have hltI : (i : Int) < (n : Int) := by omega
        have HNe := hid (show f ≠ f' → R = false from fun h => by
          rw [← HR.out]
          refine decide_eq_false (fun e => h ?_)
          rw [e] at hf
          exact Option.some.inj (hf.symm.trans hf'))
        have HNx := hid (show f = f' → fs.take (i + 1) = fs'.take (i + 1) from fun h => take_next HSame.out hf hf' h)
        clear hf hf'
        by_cases h1 : f.1 = f'.1
        · by_cases h2 : f.2 = f'.2
          · have HX := hid (HNx.out (Prod.ext h1 h2))
            rw [← h1] at d0
            rw [← h2] at d1
            obtain ⟨N, hN⟩ : ∃ N, str f.1 = N := ⟨_, rfl⟩
            obtain ⟨V, hV⟩ : ∃ V, str f.2 = V := ⟨_, rfl⟩
            rw [hN] at c0 d0
            rw [hV] at c1 d1
            have hS0 : RdL2 wr.drew g (o + i * 2) g' (o' + i * 2) N V N V := ⟨c0, c1, d0, d1⟩
            clear hN hV h1 h2
            go_wp2
            refine wp_region_noPanic ?_
            refine any_begin 9 (by kernel_rfl) (by kernel_rfl) ?_
            refine late_begin (fun U => RdL2 U g (o + i * 2) g' (o' + i * 2) N V N V) (fun _ => false) hS0 (fun hS => ?_)
            refine late_take (i := 0) (some 17) rfl rfl (by kernel_rfl) (by kernel_rfl) (by kernel_rfl) (by kernel_rfl) (by kernel_rfl) (fun _ _ _ h => h) (by rfl) (v := ?v0a) ?hy0a hS ?rest0a
            case hy0a => intro w0 hSw; obtain ⟨a0, a1, b0, b1⟩ := hSw; go_simp; try with_reducible rfl
            simp only [Act.put, List.setIfInBounds_toArray, List.set_cons_zero, List.set_cons_succ]
            refine late_take (i := 1) (some 18) rfl rfl (by kernel_rfl) (by kernel_rfl) (by kernel_rfl) (by kernel_rfl) (by kernel_rfl) (fun _ _ _ h => h) (by rfl) (v := ?v1a) ?hy1a hS ?rest1a
            case hy1a => intro w0 hSw; obtain ⟨a0, a1, b0, b1⟩ := hSw; go_simp; try with_reducible rfl
            simp only [Act.put, List.setIfInBounds_toArray, List.set_cons_zero, List.set_cons_succ]
            refine late_take (i := 2) (some 19) rfl rfl (by kernel_rfl) (by kernel_rfl) (by kernel_rfl) (by kernel_rfl) (by kernel_rfl) (fun _ _ _ h => h) (by rfl) (v := ?v2a) ?hy2a hS ?rest2a
            case hy2a => intro w0 hSw; obtain ⟨a0, a1, b0, b1⟩ := hSw; go_simp; try with_reducible rfl
            simp only [Act.put, List.setIfInBounds_toArray, List.set_cons_zero, List.set_cons_succ]
            refine late_take (i := 3) (some 20) rfl rfl (by kernel_rfl) (by kernel_rfl) (by kernel_rfl) (by kernel_rfl) (by kernel_rfl) (fun _ _ _ h => h) (by rfl) (v := ?v3a) ?hy3a hS ?rest3a
            case hy3a => intro w0 hSw; obtain ⟨a0, a1, b0, b1⟩ := hSw; go_simp; try with_reducible rfl
            simp only [Act.put, List.setIfInBounds_toArray, List.set_cons_zero, List.set_cons_succ]
            refine late_take (i := 4) (some 21) rfl rfl (by kernel_rfl) (by kernel_rfl) (by kernel_rfl) (by kernel_rfl) (by kernel_rfl) (fun _ _ _ h => h) (by rfl) (v := ?v4a) ?hy4a hS ?rest4a
            case hy4a => intro w0 hSw; obtain ⟨a0, a1, b0, b1⟩ := hSw; go_simp; try with_reducible rfl
            simp only [Act.put, List.setIfInBounds_toArray, List.set_cons_zero, List.set_cons_succ]
            refine late_take (i := 5) (some 22) rfl rfl (by kernel_rfl) (by kernel_rfl) (by kernel_rfl) (by kernel_rfl) (by kernel_rfl) (fun _ _ _ h => h) (by rfl) (v := ?v5a) ?hy5a hS ?rest5a
            case hy5a => intro w0 hSw; obtain ⟨a0, a1, b0, b1⟩ := hSw; go_simp; try with_reducible rfl
            simp only [Act.put, List.setIfInBounds_toArray, List.set_cons_zero, List.set_cons_succ]
            refine late_take (i := 6) (some 23) rfl rfl (by kernel_rfl) (by kernel_rfl) (by kernel_rfl) (by kernel_rfl) (by kernel_rfl) (fun _ _ _ h => h) (by rfl) (v := ?v6a) ?hy6a hS ?rest6a
            case hy6a => intro w0 hSw; obtain ⟨a0, a1, b0, b1⟩ := hSw; go_simp; try with_reducible rfl
            simp only [Act.put, List.setIfInBounds_toArray, List.set_cons_zero, List.set_cons_succ]
            refine late_take (i := 7) (some 24) rfl rfl (by kernel_rfl) (by kernel_rfl) (by kernel_rfl) (by kernel_rfl) (by kernel_rfl) (fun _ _ _ h => h) (by rfl) (v := ?v7a) ?hy7a hS ?rest7a
            case hy7a => intro w0 hSw; obtain ⟨a0, a1, b0, b1⟩ := hSw; go_simp; try with_reducible rfl
            simp only [Act.put, List.setIfInBounds_toArray, List.set_cons_zero, List.set_cons_succ]
            refine late_take (i := 8) (some 25) rfl rfl (by kernel_rfl) (by kernel_rfl) (by kernel_rfl) (by kernel_rfl) (by kernel_rfl) (fun _ _ _ h => h) (by rfl) (v := ?v8a) ?hy8a hS ?rest8a
            case hy8a => intro w0 hSw; obtain ⟨a0, a1, b0, b1⟩ := hSw; go_simp; try with_reducible rfl
            simp only [Act.put, List.setIfInBounds_toArray, List.set_cons_zero, List.set_cons_succ]
            refine late_done (by kernel_rfl) ?_ _
            refine NoPanic.normal ?_
            go_wp2
            go_roundg (n - (i + 1) + 1)
            case measure => omega
            case rel => exact ⟨i + 1, by go_num, by omega, rfl, HX.out, HB.out.drew⟩
          · have HV := hid (HNe.out (fun e => h2 (congrArg Prod.snd e)))
            have hne : ((str f.2).toList == (str f'.2).toList) = false := ne_list (str_ne h2)
            rw [← h1] at d0
            obtain ⟨N, hN⟩ : ∃ N, str f.1 = N := ⟨_, rfl⟩
            obtain ⟨V, hV⟩ : ∃ V, str f.2 = V := ⟨_, rfl⟩
            obtain ⟨V', hV'⟩ : ∃ V, str f'.2 = V := ⟨_, rfl⟩
            rw [hN] at c0 d0
            rw [hV] at c1 hne
            rw [hV'] at d1 hne
            have hS0 : RdL2 wr.drew g (o + i * 2) g' (o' + i * 2) N V N V' := ⟨c0, c1, d0, d1⟩
            clear hN hV hV' h1 h2
            go_wp2
            refine wp_region_noPanic ?_
            refine any_begin 9 (by kernel_rfl) (by kernel_rfl) ?_
            refine late_begin (fun U => RdL2 U g (o + i * 2) g' (o' + i * 2) N V N V') (fun _ => false) hS0 (fun hS => ?_)
            refine late_take (i := 0) (some 17) rfl rfl (by kernel_rfl) (by kernel_rfl) (by kernel_rfl) (by kernel_rfl) (by kernel_rfl) (fun _ _ _ h => h) (by rfl) (v := ?v0b) ?hy0b hS ?rest0b
            case hy0b => intro w0 hSw; obtain ⟨a0, a1, b0, b1⟩ := hSw; go_simp; try with_reducible rfl
            simp only [Act.put, List.setIfInBounds_toArray, List.set_cons_zero, List.set_cons_succ]
            refine late_take (i := 1) (some 18) rfl rfl (by kernel_rfl) (by kernel_rfl) (by kernel_rfl) (by kernel_rfl) (by kernel_rfl) (fun _ _ _ h => h) (by rfl) (v := ?v1b) ?hy1b hS ?rest1b
            case hy1b => intro w0 hSw; obtain ⟨a0, a1, b0, b1⟩ := hSw; go_simp; try with_reducible rfl
            simp only [Act.put, List.setIfInBounds_toArray, List.set_cons_zero, List.set_cons_succ]
            refine late_take (i := 2) (some 19) rfl rfl (by kernel_rfl) (by kernel_rfl) (by kernel_rfl) (by kernel_rfl) (by kernel_rfl) (fun _ _ _ h => h) (by rfl) (v := ?v2b) ?hy2b hS ?rest2b
            case hy2b => intro w0 hSw; obtain ⟨a0, a1, b0, b1⟩ := hSw; go_simp; try with_reducible rfl
            simp only [Act.put, List.setIfInBounds_toArray, List.set_cons_zero, List.set_cons_succ]
            refine late_take (i := 3) (some 20) rfl rfl (by kernel_rfl) (by kernel_rfl) (by kernel_rfl) (by kernel_rfl) (by kernel_rfl) (fun _ _ _ h => h) (by rfl) (v := ?v3b) ?hy3b hS ?rest3b
            case hy3b => intro w0 hSw; obtain ⟨a0, a1, b0, b1⟩ := hSw; go_simp; try with_reducible rfl
            simp only [Act.put, List.setIfInBounds_toArray, List.set_cons_zero, List.set_cons_succ]
            refine late_take (i := 4) (some 21) rfl rfl (by kernel_rfl) (by kernel_rfl) (by kernel_rfl) (by kernel_rfl) (by kernel_rfl) (fun _ _ _ h => h) (by rfl) (v := ?v4b) ?hy4b hS ?rest4b
            case hy4b => intro w0 hSw; obtain ⟨a0, a1, b0, b1⟩ := hSw; go_simp; try with_reducible rfl
            simp only [Act.put, List.setIfInBounds_toArray, List.set_cons_zero, List.set_cons_succ]
            refine late_take (i := 5) (some 22) rfl rfl (by kernel_rfl) (by kernel_rfl) (by kernel_rfl) (by kernel_rfl) (by kernel_rfl) (fun _ _ _ h => h) (by rfl) (v := ?v5b) ?hy5b hS ?rest5b
            case hy5b => intro w0 hSw; obtain ⟨a0, a1, b0, b1⟩ := hSw; go_simp; try with_reducible rfl
            simp only [Act.put, List.setIfInBounds_toArray, List.set_cons_zero, List.set_cons_succ]
            refine late_take (i := 6) (some 23) rfl rfl (by kernel_rfl) (by kernel_rfl) (by kernel_rfl) (by kernel_rfl) (by kernel_rfl) (fun _ _ _ h => h) (by rfl) (v := ?v6b) ?hy6b hS ?rest6b
            case hy6b => intro w0 hSw; obtain ⟨a0, a1, b0, b1⟩ := hSw; go_simp; try with_reducible rfl
            simp only [Act.put, List.setIfInBounds_toArray, List.set_cons_zero, List.set_cons_succ]
            refine late_take (i := 7) (some 24) rfl rfl (by kernel_rfl) (by kernel_rfl) (by kernel_rfl) (by kernel_rfl) (by kernel_rfl) (fun _ _ _ h => h) (by rfl) (v := ?v7b) ?hy7b hS ?rest7b
            case hy7b => intro w0 hSw; obtain ⟨a0, a1, b0, b1⟩ := hSw; go_simp; try with_reducible rfl
            simp only [Act.put, List.setIfInBounds_toArray, List.set_cons_zero, List.set_cons_succ]
            refine late_take (i := 8) (some 25) rfl rfl (by kernel_rfl) (by kernel_rfl) (by kernel_rfl) (by kernel_rfl) (by kernel_rfl) (fun _ _ _ h => h) (by rfl) (v := ?v8b) ?hy8b hS ?rest8b
            case hy8b => intro w0 hSw; obtain ⟨a0, a1, b0, b1⟩ := hSw; go_simp; try with_reducible rfl
            simp only [Act.put, List.setIfInBounds_toArray, List.set_cons_zero, List.set_cons_succ]
            refine late_done (by kernel_rfl) ?_ _
            refine NoPanic.normal ?_
            go_wp2
            go_ret
            exact ⟨ret_bool HV.out.symm, HB.out.drew⟩
        · have HV := hid (HNe.out (fun e => h1 (congrArg Prod.fst e)))
          have hne : ((str f.1).toList == (str f'.1).toList) = false := ne_list (str_ne h1)
          obtain ⟨N, hN⟩ : ∃ N, str f.1 = N := ⟨_, rfl⟩
          obtain ⟨N', hN'⟩ : ∃ N, str f'.1 = N := ⟨_, rfl⟩
          obtain ⟨V, hV⟩ : ∃ V, str f.2 = V := ⟨_, rfl⟩
          obtain ⟨V', hV'⟩ : ∃ V, str f'.2 = V := ⟨_, rfl⟩
          rw [hN] at c0 hne
          rw [hN'] at d0 hne
          rw [hV] at c1
          rw [hV'] at d1
          have hS0 : RdL2 wr.drew g (o + i * 2) g' (o' + i * 2) N V N' V' := ⟨c0, c1, d0, d1⟩
          clear hN hN' hV hV' h1
          go_wp2
          refine wp_region_noPanic ?_
          refine any_begin 9 (by kernel_rfl) (by kernel_rfl) ?_
          refine late_begin (fun U => RdL2 U g (o + i * 2) g' (o' + i * 2) N V N' V') (fun _ => false) hS0 (fun hS => ?_)
          refine late_take (i := 0) (some 17) rfl rfl (by kernel_rfl) (by kernel_rfl) (by kernel_rfl) (by kernel_rfl) (by kernel_rfl) (fun _ _ _ h => h) (by rfl) (v := ?v0c) ?hy0c hS ?rest0c
          case hy0c => intro w0 hSw; obtain ⟨a0, a1, b0, b1⟩ := hSw; go_simp; try with_reducible rfl
          simp only [Act.put, List.setIfInBounds_toArray, List.set_cons_zero, List.set_cons_succ]
          refine late_take (i := 1) (some 18) rfl rfl (by kernel_rfl) (by kernel_rfl) (by kernel_rfl) (by kernel_rfl) (by kernel_rfl) (fun _ _ _ h => h) (by rfl) (v := ?v1c) ?hy1c hS ?rest1c
          case hy1c => intro w0 hSw; obtain ⟨a0, a1, b0, b1⟩ := hSw; go_simp; try with_reducible rfl
          simp only [Act.put, List.setIfInBounds_toArray, List.set_cons_zero, List.set_cons_succ]
          refine late_take (i := 2) (some 19) rfl rfl (by kernel_rfl) (by kernel_rfl) (by kernel_rfl) (by kernel_rfl) (by kernel_rfl) (fun _ _ _ h => h) (by rfl) (v := ?v2c) ?hy2c hS ?rest2c
          case hy2c => intro w0 hSw; obtain ⟨a0, a1, b0, b1⟩ := hSw; go_simp; try with_reducible rfl
          simp only [Act.put, List.setIfInBounds_toArray, List.set_cons_zero, List.set_cons_succ]
          refine late_take (i := 3) (some 20) rfl rfl (by kernel_rfl) (by kernel_rfl) (by kernel_rfl) (by kernel_rfl) (by kernel_rfl) (fun _ _ _ h => h) (by rfl) (v := ?v3c) ?hy3c hS ?rest3c
          case hy3c => intro w0 hSw; obtain ⟨a0, a1, b0, b1⟩ := hSw; go_simp; try with_reducible rfl
          simp only [Act.put, List.setIfInBounds_toArray, List.set_cons_zero, List.set_cons_succ]
          refine late_take (i := 4) (some 21) rfl rfl (by kernel_rfl) (by kernel_rfl) (by kernel_rfl) (by kernel_rfl) (by kernel_rfl) (fun _ _ _ h => h) (by rfl) (v := ?v4c) ?hy4c hS ?rest4c
          case hy4c => intro w0 hSw; obtain ⟨a0, a1, b0, b1⟩ := hSw; go_simp; try with_reducible rfl
          simp only [Act.put, List.setIfInBounds_toArray, List.set_cons_zero, List.set_cons_succ]
          refine late_take (i := 5) (some 22) rfl rfl (by kernel_rfl) (by kernel_rfl) (by kernel_rfl) (by kernel_rfl) (by kernel_rfl) (fun _ _ _ h => h) (by rfl) (v := ?v5c) ?hy5c hS ?rest5c
          case hy5c => intro w0 hSw; obtain ⟨a0, a1, b0, b1⟩ := hSw; go_simp; try with_reducible rfl
          simp only [Act.put, List.setIfInBounds_toArray, List.set_cons_zero, List.set_cons_succ]
          refine late_take (i := 6) (some 23) rfl rfl (by kernel_rfl) (by kernel_rfl) (by kernel_rfl) (by kernel_rfl) (by kernel_rfl) (fun _ _ _ h => h) (by rfl) (v := ?v6c) ?hy6c hS ?rest6c
          case hy6c => intro w0 hSw; obtain ⟨a0, a1, b0, b1⟩ := hSw; go_simp; try with_reducible rfl
          simp only [Act.put, List.setIfInBounds_toArray, List.set_cons_zero, List.set_cons_succ]
          refine late_take (i := 7) (some 24) rfl rfl (by kernel_rfl) (by kernel_rfl) (by kernel_rfl) (by kernel_rfl) (by kernel_rfl) (fun _ _ _ h => h) (by rfl) (v := ?v7c) ?hy7c hS ?rest7c
          case hy7c => intro w0 hSw; obtain ⟨a0, a1, b0, b1⟩ := hSw; go_simp; try with_reducible rfl
          simp only [Act.put, List.setIfInBounds_toArray, List.set_cons_zero, List.set_cons_succ]
          refine late_take (i := 8) (some 25) rfl rfl (by kernel_rfl) (by kernel_rfl) (by kernel_rfl) (by kernel_rfl) (by kernel_rfl) (fun _ _ _ h => h) (by rfl) (v := ?v8c) ?hy8c hS ?rest8c
          case hy8c => intro w0 hSw; obtain ⟨a0, a1, b0, b1⟩ := hSw; go_simp; try with_reducible rfl
          simp only [Act.put, List.setIfInBounds_toArray, List.set_cons_zero, List.set_cons_succ]
          refine late_done (by kernel_rfl) ?_ _
          refine NoPanic.normal ?_
          go_wp2
          go_ret
          exact ⟨ret_bool HV.out.symm, HB.out.drew⟩
      · obtain rfl : i = n := by omega
        have hltI : ¬ (i : Int) < (i : Int) := by omega
        have HV := hid (show R = true from by
          rw [← HR.out]
          have h9 := HSame.out
          rw [List.take_of_length_le (by rw [HN.out]; exact Nat.le_refl _), List.take_of_length_le (by rw [HN'.out]; exact Nat.le_refl _)] at h9
          exact decide_eq_true h9)
        clear hlt
        go_wp2
        go_ret
        exact ⟨ret_bool HV.out.symm, HB.out⟩
  · have HV := hid (show R = false from by rw [← HR.out]; exact decide_eq_false (fun e => hnl (by rw [← HN.out, ← HN'.out, e])))
    have hnI : ((n : Int) != (n' : Int)) = true := by simp; omega
    clear hnl
    go_enter Tryd.func13, Tryd.ntmps13
    go_wp2
    go_ret
    exact ⟨ret_bool HV.out.symm, Below.refl _ _⟩
end Go.Proofs.YthakldcfpndabaaDoor
