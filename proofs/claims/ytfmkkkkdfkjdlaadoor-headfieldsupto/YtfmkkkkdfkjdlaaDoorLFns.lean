/- The law's own: fields, requests and responses part by part; a reader of a kind; an error's number. -/
import Derived.Test.YtfmkkkkdfkjdlaaDoorPSure
import Derived.Test.YtfmkkkkdfkjdlaaDoorHFine
import Derived.Test.YtfmkkkkdfkjdlaaDoorLSizes
namespace Go.Proofs.YtfmkkkkdfkjdlaaDoor
open Go.RowKit

structure RdL (U : World) (g o g' o' : Nat) (N V : ByteArray) : Prop where
  a0 : U.cell? ⟨g, o, none⟩ = some (.string N)
  a1 : U.cell? ⟨g, o + 1, none⟩ = some (.string V)
  b0 : U.cell? ⟨g', o', none⟩ = some (.string N)
  b1 : U.cell? ⟨g', o' + 1, none⟩ = some (.string V)
set_option maxRecDepth 20000 in
set_option maxHeartbeats 8000000 in
theorem fields_same (fs : List (B × B)) (p p' : Option Addr) (n c c' : Nat) (hn : fs.length = n) (w : World) (hF : FAt w p fs) (hF' : FAt w p' fs) (hnn : n ≤ 140737488355328) :
    Calls Tryd.prog 29 #[.slice p n c, .slice p' n c'] w fun e w' => e = .returned (.bool true) ∧ Below w.heap.size w w' := by
  have HF := hid hF
  have HF' := hid hF'
  have HN := hid hn
  clear hF hF' hn
  go_enter Tryd.func29, Tryd.ntmps29
  go_wp2
  go_loopg [5] (n + 1) (fun gk s5 wr => ∃ i : Nat, s5 = .int .i64 (i : Int) ∧ i ≤ n ∧ gk = n - i + 1 ∧ Below w.heap.size w wr)
  case atStart => exact ⟨0, rfl, by omega, rfl, Below.refl _ _⟩
  case round =>
    obtain ⟨i, rfl, hin, rfl, hb⟩ := hrel
    have HB := hid hb
    clear hb
    by_cases hlt : i < n
    · obtain ⟨f, hf⟩ : ∃ f, fs[i]? = some f := ⟨fs[i]'(by rw [HN.out]; exact hlt), List.getElem?_eq_getElem (by rw [HN.out]; exact hlt)⟩
      obtain ⟨g, o, hp, c0, c1⟩ := (HF.out.next HB.out) i f hf
      obtain ⟨g', o', hp', d0, d1⟩ := (HF'.out.next HB.out) i f hf
      subst hp hp'
      have hltI : (i : Int) < (n : Int) := by omega
      obtain ⟨N, hN⟩ : ∃ N, str f.1 = N := ⟨_, rfl⟩
      obtain ⟨V, hV⟩ : ∃ V, str f.2 = V := ⟨_, rfl⟩
      rw [hN] at c0 d0
      rw [hV] at c1 d1
      have hS0 : RdL wr.drew g (o + i * 2) g' (o' + i * 2) N V := ⟨c0, c1, d0, d1⟩
      clear hf hN hV
      go_wp2
      refine wp_region_noPanic ?_
      refine any_begin 9 (by kernel_rfl) (by kernel_rfl) ?_
      refine late_begin (fun U => RdL U g (o + i * 2) g' (o' + i * 2) N V) (fun _ => false) hS0 (fun hS => ?_)
      refine late_take (i := 0) (some 17) rfl rfl (by kernel_rfl) (by kernel_rfl) (by kernel_rfl) (by kernel_rfl) (by kernel_rfl) (fun _ _ _ h => h) (by rfl) (v := ?v0f) ?hy0f hS ?rest0f
      case hy0f => intro w0 hSw; obtain ⟨a0, a1, b0, b1⟩ := hSw; go_simp; try with_reducible rfl
      simp only [Act.put, List.setIfInBounds_toArray, List.set_cons_zero, List.set_cons_succ]
      refine late_take (i := 1) (some 18) rfl rfl (by kernel_rfl) (by kernel_rfl) (by kernel_rfl) (by kernel_rfl) (by kernel_rfl) (fun _ _ _ h => h) (by rfl) (v := ?v1f) ?hy1f hS ?rest1f
      case hy1f => intro w0 hSw; obtain ⟨a0, a1, b0, b1⟩ := hSw; go_simp; try with_reducible rfl
      simp only [Act.put, List.setIfInBounds_toArray, List.set_cons_zero, List.set_cons_succ]
      refine late_take (i := 2) (some 19) rfl rfl (by kernel_rfl) (by kernel_rfl) (by kernel_rfl) (by kernel_rfl) (by kernel_rfl) (fun _ _ _ h => h) (by rfl) (v := ?v2f) ?hy2f hS ?rest2f
      case hy2f => intro w0 hSw; obtain ⟨a0, a1, b0, b1⟩ := hSw; go_simp; try with_reducible rfl
      simp only [Act.put, List.setIfInBounds_toArray, List.set_cons_zero, List.set_cons_succ]
      refine late_take (i := 3) (some 20) rfl rfl (by kernel_rfl) (by kernel_rfl) (by kernel_rfl) (by kernel_rfl) (by kernel_rfl) (fun _ _ _ h => h) (by rfl) (v := ?v3f) ?hy3f hS ?rest3f
      case hy3f => intro w0 hSw; obtain ⟨a0, a1, b0, b1⟩ := hSw; go_simp; try with_reducible rfl
      simp only [Act.put, List.setIfInBounds_toArray, List.set_cons_zero, List.set_cons_succ]
      refine late_take (i := 4) (some 21) rfl rfl (by kernel_rfl) (by kernel_rfl) (by kernel_rfl) (by kernel_rfl) (by kernel_rfl) (fun _ _ _ h => h) (by rfl) (v := ?v4f) ?hy4f hS ?rest4f
      case hy4f => intro w0 hSw; obtain ⟨a0, a1, b0, b1⟩ := hSw; go_simp; try with_reducible rfl
      simp only [Act.put, List.setIfInBounds_toArray, List.set_cons_zero, List.set_cons_succ]
      refine late_take (i := 5) (some 22) rfl rfl (by kernel_rfl) (by kernel_rfl) (by kernel_rfl) (by kernel_rfl) (by kernel_rfl) (fun _ _ _ h => h) (by rfl) (v := ?v5f) ?hy5f hS ?rest5f
      case hy5f => intro w0 hSw; obtain ⟨a0, a1, b0, b1⟩ := hSw; go_simp; try with_reducible rfl
      simp only [Act.put, List.setIfInBounds_toArray, List.set_cons_zero, List.set_cons_succ]
      refine late_take (i := 6) (some 23) rfl rfl (by kernel_rfl) (by kernel_rfl) (by kernel_rfl) (by kernel_rfl) (by kernel_rfl) (fun _ _ _ h => h) (by rfl) (v := ?v6f) ?hy6f hS ?rest6f
      case hy6f => intro w0 hSw; obtain ⟨a0, a1, b0, b1⟩ := hSw; go_simp; try with_reducible rfl
      simp only [Act.put, List.setIfInBounds_toArray, List.set_cons_zero, List.set_cons_succ]
      refine late_take (i := 7) (some 24) rfl rfl (by kernel_rfl) (by kernel_rfl) (by kernel_rfl) (by kernel_rfl) (by kernel_rfl) (fun _ _ _ h => h) (by rfl) (v := ?v7f) ?hy7f hS ?rest7f
      case hy7f => intro w0 hSw; obtain ⟨a0, a1, b0, b1⟩ := hSw; go_simp; try with_reducible rfl
      simp only [Act.put, List.setIfInBounds_toArray, List.set_cons_zero, List.set_cons_succ]
      refine late_take (i := 8) (some 25) rfl rfl (by kernel_rfl) (by kernel_rfl) (by kernel_rfl) (by kernel_rfl) (by kernel_rfl) (fun _ _ _ h => h) (by rfl) (v := ?v8f) ?hy8f hS ?rest8f
      case hy8f => intro w0 hSw; obtain ⟨a0, a1, b0, b1⟩ := hSw; go_simp; try with_reducible rfl
      simp only [Act.put, List.setIfInBounds_toArray, List.set_cons_zero, List.set_cons_succ]
      refine late_done (by kernel_rfl) ?_ _
      refine NoPanic.normal ?_
      go_wp2
      go_roundg (n - (i + 1) + 1)
      case measure => omega
      case rel => exact ⟨i + 1, by go_num, by omega, rfl, HB.out.drew⟩
    · obtain rfl : i = n := by omega
      have hltI : ¬ (i : Int) < (i : Int) := by omega
      clear hlt
      go_wp2
      go_ret
      exact ⟨rfl, HB.out⟩
set_option maxRecDepth 20000 in
set_option maxHeartbeats 8000000 in
theorem requests_same (M : ByteArray) (T : ByteArray) (k : Int) (fs : List (B × B)) (p p' : Option Addr) (n c c' : Nat) (hn : fs.length = n) (w : World) (hF : FAt w p fs) (hF' : FAt w p' fs) (hnn : n ≤ 140737488355328) :
    Calls Tryd.prog 11 #[.agg #[.string M, .string T, .int .i64 k, .slice p n c], .agg #[.string M, .string T, .int .i64 k, .slice p' n c']] w fun e w' => e = .returned (.bool true) ∧ Below w.heap.size w w' := by
  obtain ⟨W0, hW0⟩ : ∃ W0, W0 = (w.alloc (.cells #[.string M, .string T, .int .i64 k, .slice p n c] 25 (0, 0))).alloc (.cells #[.string M, .string T, .int .i64 k, .slice p' n c'] 25 (0, 0)) := ⟨_, rfl⟩
  have HB0 := hid (show Below w.heap.size w W0 from by rw [hW0]; exact below_two _ _ _)
  have HC := hid (fields_same fs p p' n c c' hn W0 (hF.next HB0.out) (hF'.next HB0.out) hnn)
  rw [hW0] at HC
  have HB1 := hid (below_two w (.cells #[.string M, .string T, .int .i64 k, .slice p n c] 25 (0, 0)) (.cells #[.string M, .string T, .int .i64 k, .slice p' n c'] 25 (0, 0)))
  clear hF hF' hn hW0 HB0
  go_enter Tryd.func11, Tryd.ntmps11
  go_wp2_with (go_at_call 29; (with_reducible refine HC.out.mono ?_); rintro e w1 ⟨rfl, hb⟩; have HB2 := hid (HB1.out.trans (hb.mono HB1.out.size)); clear hb)
  go_ret
  exact ⟨rfl, HB2.out⟩
set_option maxRecDepth 20000 in
set_option maxHeartbeats 8000000 in
theorem responses_same (s : Int) (T : ByteArray) (k : Int) (fs : List (B × B)) (p p' : Option Addr) (n c c' : Nat) (hn : fs.length = n) (w : World) (hF : FAt w p fs) (hF' : FAt w p' fs) (hnn : n ≤ 140737488355328) :
    Calls Tryd.prog 13 #[.agg #[.int .i64 s, .string T, .int .i64 k, .slice p n c], .agg #[.int .i64 s, .string T, .int .i64 k, .slice p' n c']] w fun e w' => e = .returned (.bool true) ∧ Below w.heap.size w w' := by
  obtain ⟨W0, hW0⟩ : ∃ W0, W0 = (w.alloc (.cells #[.int .i64 s, .string T, .int .i64 k, .slice p n c] 38 (0, 0))).alloc (.cells #[.int .i64 s, .string T, .int .i64 k, .slice p' n c'] 38 (0, 0)) := ⟨_, rfl⟩
  have HB0 := hid (show Below w.heap.size w W0 from by rw [hW0]; exact below_two _ _ _)
  have HC := hid (fields_same fs p p' n c c' hn W0 (hF.next HB0.out) (hF'.next HB0.out) hnn)
  rw [hW0] at HC
  have HB1 := hid (below_two w (.cells #[.int .i64 s, .string T, .int .i64 k, .slice p n c] 38 (0, 0)) (.cells #[.int .i64 s, .string T, .int .i64 k, .slice p' n c'] 38 (0, 0)))
  clear hF hF' hn hW0 HB0
  go_enter Tryd.func13, Tryd.ntmps13
  go_wp2_with (go_at_call 29; (with_reducible refine HC.out.mono ?_); rintro e w1 ⟨rfl, hb⟩; have HB2 := hid (HB1.out.trans (hb.mono HB1.out.size)); clear hb)
  go_ret
  exact ⟨rfl, HB2.out⟩
set_option maxRecDepth 20000 in
set_option maxHeartbeats 8000000 in
theorem reader_no (r : Bool) (m : Int) (w : World) (hm : ¬ (1 ≤ m ∧ m ≤ 65536)) : Calls Tryd.prog 15 #[.bool r, .int .i64 m] w fun e w' => e = .returned (.tuple #[.pointer none, errOf 1]) ∧ w' = w := by
  cases r with
  | true =>
    have HC := hid (NewResponse_no m w hm)
    obtain ⟨E, hE⟩ : ∃ E, errOf 1 = E := ⟨_, rfl⟩
    rw [hE] at HC
    rw [hE]
    clear hm hE
    go_enter Tryd.func15, Tryd.ntmps15
    go_wp2_with (go_at_call 34; (with_reducible refine HC.out.mono ?_); rintro e w1 ⟨rfl, hw1⟩; subst w1)
    go_ret2
    exact ⟨rfl, rfl⟩
  | false =>
    have HC := hid (NewRequest_no m w hm)
    obtain ⟨E, hE⟩ : ∃ E, errOf 1 = E := ⟨_, rfl⟩
    rw [hE] at HC
    rw [hE]
    clear hm hE
    go_enter Tryd.func15, Tryd.ntmps15
    go_wp2_with (go_at_call 30; (with_reducible refine HC.out.mono ?_); rintro e w1 ⟨rfl, hw1⟩; subst w1)
    go_ret2
    exact ⟨rfl, rfl⟩
set_option maxRecDepth 20000 in
set_option maxHeartbeats 8000000 in
theorem reader_yes (r : Bool) (m : Int) (w : World) (hm : 1 ≤ m ∧ m ≤ 65536) : Calls Tryd.prog 15 #[.bool r, .int .i64 m] w fun e w' => e = .returned (.tuple #[.pointer (some ⟨w.heap.size, 0, none⟩), .nilIface]) ∧ RdAt (fun k => k = w.heap.size) w' w.heap.size (newP r m) ∧ Below w.heap.size w w' ∧ w'.heap.size = w.heap.size + 1 := by
  cases r with
  | true =>
    have HC := hid (NewResponse_yes m w hm)
    rw [errOf_zero] at HC
    clear hm
    go_enter Tryd.func15, Tryd.ntmps15
    go_wp2_with (go_at_call 34; (with_reducible refine HC.out.mono ?_); rintro e w1 ⟨rfl, hq⟩; have HQ := hid hq; clear hq)
    go_ret2
    exact ⟨rfl, HQ.out⟩
  | false =>
    have HC := hid (NewRequest_yes m w hm)
    rw [errOf_zero] at HC
    clear hm
    go_enter Tryd.func15, Tryd.ntmps15
    go_wp2_with (go_at_call 30; (with_reducible refine HC.out.mono ?_); rintro e w1 ⟨rfl, hq⟩; have HQ := hid hq; clear hq)
    go_ret2
    exact ⟨rfl, HQ.out⟩
end Go.Proofs.YtfmkkkkdfkjdlaaDoor
