/- The law of unlike requests. -/
import Derived.Test.YtpcfcpeokkbfmaaDoorWBack
namespace Go.Proofs.YtpcfcpeokkbfmaaDoor
open Go.RowKit

theorem apart {m t m' t' : B} {k k' : Int} {fs fs' : List (B × B)} (h : mayQ m t k fs = true) (h' : mayQ m' t' k' fs' = true) (e : headW (firstQ m t (verC k)) fs = headW (firstQ m' t' (verC k')) fs') : m = m' ∧ t = t' ∧ k = k' ∧ fs = fs' := by
  unfold mayQ at h h'
  rw [Bool.and_eq_true] at h h'
  have hl : (headW (firstQ m t (verC k)) fs).length ≤ 65536 := of_decide_eq_true h.2
  have hl' : (headW (firstQ m' t' (verC k')) fs').length ≤ 65536 := of_decide_eq_true h'.2
  obtain ⟨s, e1, e2, e3, e4, e5, e6, e7, e8, e9⟩ := read_request (most := 65536) h.1 (by omega)
  obtain ⟨s', f1, f2, f3, f4, f5, f6, f7, f8, f9⟩ := read_request (most := 65536) h'.1 (by omega)
  have hs : s = s' := by rw [← e1, ← f1, e]
  subst hs
  refine ⟨e6.symm.trans f6, e7.symm.trans f7, ?_, e9.symm.trans f9⟩
  have := e8.symm.trans f8
  rw [verC_num (okQ_parts h.1).2.2.2.1, verC_num (okQ_parts h'.1).2.2.2.1] at this
  exact this
/-- Two requests' blocks, and what lies below. -/
structure TwoQ (w W : World) (A C : Array Value) : Prop where
  low : Below w.heap.size w W
  a : W.heap[w.heap.size]? = some (.cells A 24 (0, 0))
  c : W.heap[w.heap.size + 1]? = some (.cells C 24 (0, 0))
theorem TwoQ.next {w W W' : World} {A C : Array Value} (h : TwoQ w W A C) (hb : Below W.heap.size W W') : TwoQ w W' A C := ⟨h.low.trans (hb.mono h.low.size), (hb.block _ (lt_of_heap h.a)).trans h.a, (hb.block _ (lt_of_heap h.c)).trans h.c⟩
set_option maxRecDepth 20000 in
set_option maxHeartbeats 8000000 in
theorem wapart_a (m t : B) (k : Int) (fs : List (B × B)) (p : Option Addr) (n c : Nat) (hn : fs.length = n) (m' t' : B) (k' : Int) (fs' : List (B × B)) (p' : Option Addr) (n' c' : Nat) (hn' : fs'.length = n') (w : World) (hE : EnvP w) (hF : FAt w p fs) (hsz : ∀ f ∈ fs, f.1.length ≤ 140737488355328 ∧ f.2.length ≤ 140737488355328) (hnn : n ≤ 140737488355328) (hm : m.length ≤ 140737488355328) (ht : t.length ≤ 140737488355328) (hF' : FAt w p' fs') (hsz' : ∀ f ∈ fs', f.1.length ≤ 140737488355328 ∧ f.2.length ≤ 140737488355328) (hnn' : n' ≤ 140737488355328) (hm' : m'.length ≤ 140737488355328) (ht' : t'.length ≤ 140737488355328) (hq : reqE m t k fs ≠ 0)  : Calls Tryd.prog 7 #[.agg #[.string (str m), .string (str t), .int .i64 k, .slice p n c], .agg #[.string (str m'), .string (str t'), .int .i64 k', .slice p' n' c']] w fun e w' => e = .returned (.bool true) ∧ Below w.heap.size w w' := by
  subst hn hn'
  obtain ⟨W0, hW0⟩ : ∃ W0, W0 = (w.alloc (.cells #[.string (str m), .string (str t), .int .i64 k, .slice p fs.length c] 24 (0, 0))).alloc (.cells #[.string (str m'), .string (str t'), .int .i64 k', .slice p' fs'.length c'] 24 (0, 0)) := ⟨_, rfl⟩
  have H0 := hid (show TwoQ w W0 #[.string (str m), .string (str t), .int .i64 k, .slice p fs.length c] #[.string (str m'), .string (str t'), .int .i64 k', .slice p' fs'.length c'] from by obtain ⟨x1, x2, x3⟩ := two_at hW0; exact ⟨x3, x1, x2⟩)
  have HQ1 := hid (wreq_not m t k fs p fs.length c rfl W0 (hE.next H0.out.low) (hF.next H0.out.low) hsz hnn hm ht hq)
  have HQ2 := hid (show ∀ W : World, Below w.heap.size w W → _ from fun W hb => wreq_any m' t' k' fs' p' fs'.length c' rfl W (hE.next hb) (hF'.next hb) hsz' hnn' hm' ht')
  have HWk := hid (show ∀ W : World, Below w.heap.size w W → _ from fun W hb => works10_any W (hE.next hb))
  obtain ⟨E1, hE1⟩ : ∃ E1, reqE m t k fs = E1 := ⟨_, rfl⟩
  rw [hE1] at HQ1
  obtain ⟨M, hM⟩ : ∃ M, str m = M := ⟨_, rfl⟩
  obtain ⟨T, hT⟩ : ∃ T, str t = T := ⟨_, rfl⟩
  obtain ⟨n, hn⟩ : ∃ n, fs.length = n := ⟨_, rfl⟩
  obtain ⟨M', hM'⟩ : ∃ M', str m' = M' := ⟨_, rfl⟩
  obtain ⟨T', hT'⟩ : ∃ T', str t' = T' := ⟨_, rfl⟩
  obtain ⟨n', hn'⟩ : ∃ n', fs'.length = n' := ⟨_, rfl⟩
  rw [hM, hT, hn, hM', hT', hn'] at hW0 H0
  rw [hM, hT, hn] at HQ1
  rw [hM', hT', hn'] at HQ2
  rw [hM, hT, hn, hM', hT', hn']
  have HW0 := hid hW0
  clear hE hF hsz hF' hsz' hW0 hM hT hn hM' hT' hn' hE1 hq
  go_enter Tryd.func7, Tryd.ntmps7
  go_wp2_with (first | (go_at_call 9; (rw [← HW0.out]); (with_reducible refine HQ1.out.mono ?_); rintro e w1 ⟨rfl, hb⟩; have H1 := hid (H0.out.next hb); obtain ⟨z0, z1, z2, z3, _⟩ := cells4 H1.out.c; have HQ2' := hid (HQ2.out _ H1.out.low); clear hb HQ1) | (go_at_call 9; (with_reducible refine HQ2'.out.mono ?_); rintro e w2 ⟨q2, x2, d2, v2, rfl, hb⟩; have H2 := hid (H1.out.next hb); clear hb HQ2') | (go_at_call 15; (with_reducible refine (HWk.out _ H2.out.low).mono ?_); rintro e w9 ⟨rfl, hb⟩; have H9 := hid (H2.out.next hb); clear hb))
  go_ret
  exact ⟨rfl, H9.out.low⟩
set_option maxRecDepth 20000 in
set_option maxHeartbeats 8000000 in
theorem wapart_b (m t : B) (k : Int) (fs : List (B × B)) (p : Option Addr) (n c : Nat) (hn : fs.length = n) (m' t' : B) (k' : Int) (fs' : List (B × B)) (p' : Option Addr) (n' c' : Nat) (hn' : fs'.length = n') (w : World) (hE : EnvP w) (hF : FAt w p fs) (hsz : ∀ f ∈ fs, f.1.length ≤ 140737488355328 ∧ f.2.length ≤ 140737488355328) (hnn : n ≤ 140737488355328) (hm : m.length ≤ 140737488355328) (ht : t.length ≤ 140737488355328) (hF' : FAt w p' fs') (hsz' : ∀ f ∈ fs', f.1.length ≤ 140737488355328 ∧ f.2.length ≤ 140737488355328) (hnn' : n' ≤ 140737488355328) (hm' : m'.length ≤ 140737488355328) (ht' : t'.length ≤ 140737488355328) (hq : reqE m t k fs = 0) (ha : reqE m' t' k' fs' ≠ 0)  : Calls Tryd.prog 7 #[.agg #[.string (str m), .string (str t), .int .i64 k, .slice p n c], .agg #[.string (str m'), .string (str t'), .int .i64 k', .slice p' n' c']] w fun e w' => e = .returned (.bool true) ∧ Below w.heap.size w w' := by
  subst hn hn'
  obtain ⟨W0, hW0⟩ : ∃ W0, W0 = (w.alloc (.cells #[.string (str m), .string (str t), .int .i64 k, .slice p fs.length c] 24 (0, 0))).alloc (.cells #[.string (str m'), .string (str t'), .int .i64 k', .slice p' fs'.length c'] 24 (0, 0)) := ⟨_, rfl⟩
  have H0 := hid (show TwoQ w W0 #[.string (str m), .string (str t), .int .i64 k, .slice p fs.length c] #[.string (str m'), .string (str t'), .int .i64 k', .slice p' fs'.length c'] from by obtain ⟨x1, x2, x3⟩ := two_at hW0; exact ⟨x3, x1, x2⟩)
  have HQ1 := hid (wreq_may m t k fs p fs.length c rfl W0 (hE.next H0.out.low) (hF.next H0.out.low) hsz hnn hm ht hq)
  have HQ2 := hid (show ∀ W : World, Below w.heap.size w W → _ from fun W hb => wreq_not m' t' k' fs' p' fs'.length c' rfl W (hE.next hb) (hF'.next hb) hsz' hnn' hm' ht' ha)
  have HWk := hid (show ∀ W : World, Below w.heap.size w W → _ from fun W hb => works10_any W (hE.next hb))
  obtain ⟨E2, hE2⟩ : ∃ E2, reqE m' t' k' fs' = E2 := ⟨_, rfl⟩
  rw [hE2] at HQ2
  obtain ⟨M, hM⟩ : ∃ M, str m = M := ⟨_, rfl⟩
  obtain ⟨T, hT⟩ : ∃ T, str t = T := ⟨_, rfl⟩
  obtain ⟨n, hn⟩ : ∃ n, fs.length = n := ⟨_, rfl⟩
  obtain ⟨M', hM'⟩ : ∃ M', str m' = M' := ⟨_, rfl⟩
  obtain ⟨T', hT'⟩ : ∃ T', str t' = T' := ⟨_, rfl⟩
  obtain ⟨n', hn'⟩ : ∃ n', fs'.length = n' := ⟨_, rfl⟩
  rw [hM, hT, hn, hM', hT', hn'] at hW0 H0
  rw [hM, hT, hn] at HQ1
  rw [hM', hT', hn'] at HQ2
  rw [hM, hT, hn, hM', hT', hn']
  have HW0 := hid hW0
  clear hE hF hsz hF' hsz' hW0 hM hT hn hM' hT' hn' hE2 hq ha
  go_enter Tryd.func7, Tryd.ntmps7
  go_wp2_with (first | (go_at_call 9; (rw [← HW0.out]); (with_reducible refine HQ1.out.mono ?_); rintro e w1 ⟨q1, d1, rfl, ho1, hb⟩; have H1 := hid (H0.out.next hb); obtain ⟨z0, z1, z2, z3, _⟩ := cells4 H1.out.c; have HQ2' := hid (HQ2.out _ H1.out.low); clear hb ho1 HQ1) | (go_at_call 9; (with_reducible refine HQ2'.out.mono ?_); rintro e w2 ⟨rfl, hb⟩; have H2 := hid (H1.out.next hb); clear hb HQ2') | (go_at_call 15; (with_reducible refine (HWk.out _ H2.out.low).mono ?_); rintro e w9 ⟨rfl, hb⟩; have H9 := hid (H2.out.next hb); clear hb))
  go_ret
  exact ⟨rfl, H9.out.low⟩
set_option maxRecDepth 20000 in
set_option maxHeartbeats 8000000 in
theorem wapart_m (m t : B) (k : Int) (fs : List (B × B)) (p : Option Addr) (n c : Nat) (hn : fs.length = n) (m' t' : B) (k' : Int) (fs' : List (B × B)) (p' : Option Addr) (n' c' : Nat) (hn' : fs'.length = n') (w : World) (hE : EnvP w) (hF : FAt w p fs) (hsz : ∀ f ∈ fs, f.1.length ≤ 140737488355328 ∧ f.2.length ≤ 140737488355328) (hnn : n ≤ 140737488355328) (hm : m.length ≤ 140737488355328) (ht : t.length ≤ 140737488355328) (hF' : FAt w p' fs') (hsz' : ∀ f ∈ fs', f.1.length ≤ 140737488355328 ∧ f.2.length ≤ 140737488355328) (hnn' : n' ≤ 140737488355328) (hm' : m'.length ≤ 140737488355328) (ht' : t'.length ≤ 140737488355328) (hq : reqE m t k fs = 0) (ha : reqE m' t' k' fs' = 0) (h1 : m ≠ m') : Calls Tryd.prog 7 #[.agg #[.string (str m), .string (str t), .int .i64 k, .slice p n c], .agg #[.string (str m'), .string (str t'), .int .i64 k', .slice p' n' c']] w fun e w' => e = .returned (.bool true) ∧ Below w.heap.size w w' := by
  subst hn hn'
  obtain ⟨W0, hW0⟩ : ∃ W0, W0 = (w.alloc (.cells #[.string (str m), .string (str t), .int .i64 k, .slice p fs.length c] 24 (0, 0))).alloc (.cells #[.string (str m'), .string (str t'), .int .i64 k', .slice p' fs'.length c'] 24 (0, 0)) := ⟨_, rfl⟩
  have H0 := hid (show TwoQ w W0 #[.string (str m), .string (str t), .int .i64 k, .slice p fs.length c] #[.string (str m'), .string (str t'), .int .i64 k', .slice p' fs'.length c'] from by obtain ⟨x1, x2, x3⟩ := two_at hW0; exact ⟨x3, x1, x2⟩)
  have HQ1 := hid (wreq_may m t k fs p fs.length c rfl W0 (hE.next H0.out.low) (hF.next H0.out.low) hsz hnn hm ht hq)
  have HQ2 := hid (show ∀ W : World, Below w.heap.size w W → _ from fun W hb => wreq_may m' t' k' fs' p' fs'.length c' rfl W (hE.next hb) (hF'.next hb) hsz' hnn' hm' ht' ha)
  have HWk := hid (show ∀ W : World, Below w.heap.size w W → _ from fun W hb => works10_any W (hE.next hb))
  have hne : ((str (headW (firstQ m t (verC k)) fs)).toList == (str (headW (firstQ m' t' (verC k')) fs')).toList) = false := ne_list (str_ne (fun e => by
    obtain ⟨a1, a2, a3, a4⟩ := apart (reqE_zero hq).2.2 (reqE_zero ha).2.2 e
    exact h1 a1))
  have hx1 : ((str m).toList == (str m').toList) = false := ne_list (str_ne h1)
  obtain ⟨L, hL⟩ : ∃ L, headW (firstQ m t (verC k)) fs = L := ⟨_, rfl⟩
  rw [hL] at HQ1 hne
  obtain ⟨L', hL'⟩ : ∃ L', headW (firstQ m' t' (verC k')) fs' = L' := ⟨_, rfl⟩
  rw [hL'] at HQ2 hne
  obtain ⟨X', hX'⟩ : ∃ X', str L' = X' := ⟨_, rfl⟩
  rw [hX'] at hne
  have HX' := hid hX'
  obtain ⟨X, hX⟩ : ∃ X, str L = X := ⟨_, rfl⟩
  rw [hX] at hne
  have HX := hid hX
  clear hX hX'
  obtain ⟨M, hM⟩ : ∃ M, str m = M := ⟨_, rfl⟩
  obtain ⟨T, hT⟩ : ∃ T, str t = T := ⟨_, rfl⟩
  obtain ⟨n, hn⟩ : ∃ n, fs.length = n := ⟨_, rfl⟩
  obtain ⟨M', hM'⟩ : ∃ M', str m' = M' := ⟨_, rfl⟩
  obtain ⟨T', hT'⟩ : ∃ T', str t' = T' := ⟨_, rfl⟩
  obtain ⟨n', hn'⟩ : ∃ n', fs'.length = n' := ⟨_, rfl⟩
  rw [hM, hT, hn, hM', hT', hn'] at hW0 H0
  rw [hM, hT, hn] at HQ1
  rw [hM', hT', hn'] at HQ2
  rw [hM, hM'] at hx1
  rw [hM, hT, hn, hM', hT', hn']
  have HW0 := hid hW0
  clear hE hF hsz hF' hsz' hW0 hM hT hn hM' hT' hn' hL hL' hq ha h1
  go_enter Tryd.func7, Tryd.ntmps7
  go_wp2_with (first | (go_at_call 9; (rw [← HW0.out]); (with_reducible refine HQ1.out.mono ?_); rintro e w1 ⟨q1, d1, rfl, ho1, hb⟩; have H1 := hid (H0.out.next hb); have HO1 := hid ho1; obtain ⟨z0, z1, z2, z3, _⟩ := cells4 H1.out.c; have HQ2' := hid (HQ2.out _ H1.out.low); clear hb ho1 HQ1) | (go_at_call 9; (with_reducible refine HQ2'.out.mono ?_); rintro e w2 ⟨q2, d2, rfl, ho2, hb⟩; have H2 := hid (H1.out.next hb); have HO12 := hid (HO1.out.keep hb); have HO2 := hid ho2; clear z0 z1 z2 z3; obtain ⟨y0, y1, y2, y3, _⟩ := cells4 H2.out.a; obtain ⟨z0, z1, z2, z3, _⟩ := cells4 H2.out.c; have hcv1 := conv_own HO12.out; have hcv2 := conv_own HO2.out; rw [HX.out] at hcv1; rw [HX'.out] at hcv2; clear hb ho2 HQ2') | (go_at_call 15; (with_reducible refine (HWk.out _ H2.out.low).mono ?_); rintro e w9 ⟨rfl, hb⟩; have H9 := hid (H2.out.next hb); clear hb))
  go_ret
  exact ⟨rfl, H9.out.low⟩
set_option maxRecDepth 20000 in
set_option maxHeartbeats 8000000 in
theorem wapart_t (m t : B) (k : Int) (fs : List (B × B)) (p : Option Addr) (n c : Nat) (hn : fs.length = n) (m' t' : B) (k' : Int) (fs' : List (B × B)) (p' : Option Addr) (n' c' : Nat) (hn' : fs'.length = n') (w : World) (hE : EnvP w) (hF : FAt w p fs) (hsz : ∀ f ∈ fs, f.1.length ≤ 140737488355328 ∧ f.2.length ≤ 140737488355328) (hnn : n ≤ 140737488355328) (hm : m.length ≤ 140737488355328) (ht : t.length ≤ 140737488355328) (hF' : FAt w p' fs') (hsz' : ∀ f ∈ fs', f.1.length ≤ 140737488355328 ∧ f.2.length ≤ 140737488355328) (hnn' : n' ≤ 140737488355328) (hm' : m'.length ≤ 140737488355328) (ht' : t'.length ≤ 140737488355328) (hq : reqE m t k fs = 0) (ha : reqE m' t' k' fs' = 0) (h1 : m = m') (h2 : t ≠ t') : Calls Tryd.prog 7 #[.agg #[.string (str m), .string (str t), .int .i64 k, .slice p n c], .agg #[.string (str m'), .string (str t'), .int .i64 k', .slice p' n' c']] w fun e w' => e = .returned (.bool true) ∧ Below w.heap.size w w' := by
  subst hn hn'
  obtain ⟨W0, hW0⟩ : ∃ W0, W0 = (w.alloc (.cells #[.string (str m), .string (str t), .int .i64 k, .slice p fs.length c] 24 (0, 0))).alloc (.cells #[.string (str m'), .string (str t'), .int .i64 k', .slice p' fs'.length c'] 24 (0, 0)) := ⟨_, rfl⟩
  have H0 := hid (show TwoQ w W0 #[.string (str m), .string (str t), .int .i64 k, .slice p fs.length c] #[.string (str m'), .string (str t'), .int .i64 k', .slice p' fs'.length c'] from by obtain ⟨x1, x2, x3⟩ := two_at hW0; exact ⟨x3, x1, x2⟩)
  have HQ1 := hid (wreq_may m t k fs p fs.length c rfl W0 (hE.next H0.out.low) (hF.next H0.out.low) hsz hnn hm ht hq)
  have HQ2 := hid (show ∀ W : World, Below w.heap.size w W → _ from fun W hb => wreq_may m' t' k' fs' p' fs'.length c' rfl W (hE.next hb) (hF'.next hb) hsz' hnn' hm' ht' ha)
  have HWk := hid (show ∀ W : World, Below w.heap.size w W → _ from fun W hb => works10_any W (hE.next hb))
  have hne : ((str (headW (firstQ m t (verC k)) fs)).toList == (str (headW (firstQ m' t' (verC k')) fs')).toList) = false := ne_list (str_ne (fun e => by
    obtain ⟨a1, a2, a3, a4⟩ := apart (reqE_zero hq).2.2 (reqE_zero ha).2.2 e
    exact h2 a2))
  have hx2 : ((str t).toList == (str t').toList) = false := ne_list (str_ne h2)
  subst h1
  obtain ⟨L, hL⟩ : ∃ L, headW (firstQ m t (verC k)) fs = L := ⟨_, rfl⟩
  rw [hL] at HQ1 hne
  obtain ⟨L', hL'⟩ : ∃ L', headW (firstQ m t' (verC k')) fs' = L' := ⟨_, rfl⟩
  rw [hL'] at HQ2 hne
  obtain ⟨X', hX'⟩ : ∃ X', str L' = X' := ⟨_, rfl⟩
  rw [hX'] at hne
  have HX' := hid hX'
  obtain ⟨X, hX⟩ : ∃ X, str L = X := ⟨_, rfl⟩
  rw [hX] at hne
  have HX := hid hX
  clear hX hX'
  obtain ⟨M, hM⟩ : ∃ M, str m = M := ⟨_, rfl⟩
  obtain ⟨T, hT⟩ : ∃ T, str t = T := ⟨_, rfl⟩
  obtain ⟨n, hn⟩ : ∃ n, fs.length = n := ⟨_, rfl⟩
  obtain ⟨T', hT'⟩ : ∃ T', str t' = T' := ⟨_, rfl⟩
  obtain ⟨n', hn'⟩ : ∃ n', fs'.length = n' := ⟨_, rfl⟩
  rw [hM, hT, hn, hT', hn'] at hW0 H0
  rw [hM, hT, hn] at HQ1
  rw [hM, hT', hn'] at HQ2
  rw [hT, hT'] at hx2
  rw [hM, hT, hn, hT', hn']
  have HW0 := hid hW0
  clear hE hF hsz hF' hsz' hW0 hM hT hn hT' hn' hL hL' hq ha h2
  go_enter Tryd.func7, Tryd.ntmps7
  go_wp2_with (first | (go_at_call 9; (rw [← HW0.out]); (with_reducible refine HQ1.out.mono ?_); rintro e w1 ⟨q1, d1, rfl, ho1, hb⟩; have H1 := hid (H0.out.next hb); have HO1 := hid ho1; obtain ⟨z0, z1, z2, z3, _⟩ := cells4 H1.out.c; have HQ2' := hid (HQ2.out _ H1.out.low); clear hb ho1 HQ1) | (go_at_call 9; (with_reducible refine HQ2'.out.mono ?_); rintro e w2 ⟨q2, d2, rfl, ho2, hb⟩; have H2 := hid (H1.out.next hb); have HO12 := hid (HO1.out.keep hb); have HO2 := hid ho2; clear z0 z1 z2 z3; obtain ⟨y0, y1, y2, y3, _⟩ := cells4 H2.out.a; obtain ⟨z0, z1, z2, z3, _⟩ := cells4 H2.out.c; have hcv1 := conv_own HO12.out; have hcv2 := conv_own HO2.out; rw [HX.out] at hcv1; rw [HX'.out] at hcv2; clear hb ho2 HQ2') | (go_at_call 15; (with_reducible refine (HWk.out _ H2.out.low).mono ?_); rintro e w9 ⟨rfl, hb⟩; have H9 := hid (H2.out.next hb); clear hb))
  go_ret
  exact ⟨rfl, H9.out.low⟩
set_option maxRecDepth 20000 in
set_option maxHeartbeats 8000000 in
theorem wapart_k (m t : B) (k : Int) (fs : List (B × B)) (p : Option Addr) (n c : Nat) (hn : fs.length = n) (m' t' : B) (k' : Int) (fs' : List (B × B)) (p' : Option Addr) (n' c' : Nat) (hn' : fs'.length = n') (w : World) (hE : EnvP w) (hF : FAt w p fs) (hsz : ∀ f ∈ fs, f.1.length ≤ 140737488355328 ∧ f.2.length ≤ 140737488355328) (hnn : n ≤ 140737488355328) (hm : m.length ≤ 140737488355328) (ht : t.length ≤ 140737488355328) (hF' : FAt w p' fs') (hsz' : ∀ f ∈ fs', f.1.length ≤ 140737488355328 ∧ f.2.length ≤ 140737488355328) (hnn' : n' ≤ 140737488355328) (hm' : m'.length ≤ 140737488355328) (ht' : t'.length ≤ 140737488355328) (hq : reqE m t k fs = 0) (ha : reqE m' t' k' fs' = 0) (h1 : m = m') (h2 : t = t') (h3 : k ≠ k') : Calls Tryd.prog 7 #[.agg #[.string (str m), .string (str t), .int .i64 k, .slice p n c], .agg #[.string (str m'), .string (str t'), .int .i64 k', .slice p' n' c']] w fun e w' => e = .returned (.bool true) ∧ Below w.heap.size w w' := by
  subst hn hn'
  obtain ⟨W0, hW0⟩ : ∃ W0, W0 = (w.alloc (.cells #[.string (str m), .string (str t), .int .i64 k, .slice p fs.length c] 24 (0, 0))).alloc (.cells #[.string (str m'), .string (str t'), .int .i64 k', .slice p' fs'.length c'] 24 (0, 0)) := ⟨_, rfl⟩
  have H0 := hid (show TwoQ w W0 #[.string (str m), .string (str t), .int .i64 k, .slice p fs.length c] #[.string (str m'), .string (str t'), .int .i64 k', .slice p' fs'.length c'] from by obtain ⟨x1, x2, x3⟩ := two_at hW0; exact ⟨x3, x1, x2⟩)
  have HQ1 := hid (wreq_may m t k fs p fs.length c rfl W0 (hE.next H0.out.low) (hF.next H0.out.low) hsz hnn hm ht hq)
  have HQ2 := hid (show ∀ W : World, Below w.heap.size w W → _ from fun W hb => wreq_may m' t' k' fs' p' fs'.length c' rfl W (hE.next hb) (hF'.next hb) hsz' hnn' hm' ht' ha)
  have HWk := hid (show ∀ W : World, Below w.heap.size w W → _ from fun W hb => works10_any W (hE.next hb))
  have hne : ((str (headW (firstQ m t (verC k)) fs)).toList == (str (headW (firstQ m' t' (verC k')) fs')).toList) = false := ne_list (str_ne (fun e => by
    obtain ⟨a1, a2, a3, a4⟩ := apart (reqE_zero hq).2.2 (reqE_zero ha).2.2 e
    exact h3 a3))
  have hx3 : (k == k') = false := by simpa using h3
  subst h1 h2
  obtain ⟨L, hL⟩ : ∃ L, headW (firstQ m t (verC k)) fs = L := ⟨_, rfl⟩
  rw [hL] at HQ1 hne
  obtain ⟨L', hL'⟩ : ∃ L', headW (firstQ m t (verC k')) fs' = L' := ⟨_, rfl⟩
  rw [hL'] at HQ2 hne
  obtain ⟨X', hX'⟩ : ∃ X', str L' = X' := ⟨_, rfl⟩
  rw [hX'] at hne
  have HX' := hid hX'
  obtain ⟨X, hX⟩ : ∃ X, str L = X := ⟨_, rfl⟩
  rw [hX] at hne
  have HX := hid hX
  clear hX hX'
  obtain ⟨M, hM⟩ : ∃ M, str m = M := ⟨_, rfl⟩
  obtain ⟨T, hT⟩ : ∃ T, str t = T := ⟨_, rfl⟩
  obtain ⟨n, hn⟩ : ∃ n, fs.length = n := ⟨_, rfl⟩
  obtain ⟨n', hn'⟩ : ∃ n', fs'.length = n' := ⟨_, rfl⟩
  rw [hM, hT, hn, hn'] at hW0 H0
  rw [hM, hT, hn] at HQ1
  rw [hM, hT, hn'] at HQ2
  rw [hM, hT, hn, hn']
  have HW0 := hid hW0
  clear hE hF hsz hF' hsz' hW0 hM hT hn hn' hL hL' hq ha h3
  go_enter Tryd.func7, Tryd.ntmps7
  go_wp2_with (first | (go_at_call 9; (rw [← HW0.out]); (with_reducible refine HQ1.out.mono ?_); rintro e w1 ⟨q1, d1, rfl, ho1, hb⟩; have H1 := hid (H0.out.next hb); have HO1 := hid ho1; obtain ⟨z0, z1, z2, z3, _⟩ := cells4 H1.out.c; have HQ2' := hid (HQ2.out _ H1.out.low); clear hb ho1 HQ1) | (go_at_call 9; (with_reducible refine HQ2'.out.mono ?_); rintro e w2 ⟨q2, d2, rfl, ho2, hb⟩; have H2 := hid (H1.out.next hb); have HO12 := hid (HO1.out.keep hb); have HO2 := hid ho2; clear z0 z1 z2 z3; obtain ⟨y0, y1, y2, y3, _⟩ := cells4 H2.out.a; obtain ⟨z0, z1, z2, z3, _⟩ := cells4 H2.out.c; have hcv1 := conv_own HO12.out; have hcv2 := conv_own HO2.out; rw [HX.out] at hcv1; rw [HX'.out] at hcv2; clear hb ho2 HQ2') | (go_at_call 15; (with_reducible refine (HWk.out _ H2.out.low).mono ?_); rintro e w9 ⟨rfl, hb⟩; have H9 := hid (H2.out.next hb); clear hb))
  go_ret
  exact ⟨rfl, H9.out.low⟩
set_option maxRecDepth 20000 in
set_option maxHeartbeats 8000000 in
theorem wapart_f (m t : B) (k : Int) (fs : List (B × B)) (p : Option Addr) (n c : Nat) (hn : fs.length = n) (m' t' : B) (k' : Int) (fs' : List (B × B)) (p' : Option Addr) (n' c' : Nat) (hn' : fs'.length = n') (w : World) (hE : EnvP w) (hF : FAt w p fs) (hsz : ∀ f ∈ fs, f.1.length ≤ 140737488355328 ∧ f.2.length ≤ 140737488355328) (hnn : n ≤ 140737488355328) (hm : m.length ≤ 140737488355328) (ht : t.length ≤ 140737488355328) (hF' : FAt w p' fs') (hsz' : ∀ f ∈ fs', f.1.length ≤ 140737488355328 ∧ f.2.length ≤ 140737488355328) (hnn' : n' ≤ 140737488355328) (hm' : m'.length ≤ 140737488355328) (ht' : t'.length ≤ 140737488355328) (hq : reqE m t k fs = 0) (ha : reqE m' t' k' fs' = 0) (h1 : m = m') (h2 : t = t') (h3 : k = k') (h4 : fs ≠ fs') : Calls Tryd.prog 7 #[.agg #[.string (str m), .string (str t), .int .i64 k, .slice p n c], .agg #[.string (str m'), .string (str t'), .int .i64 k', .slice p' n' c']] w fun e w' => e = .returned (.bool true) ∧ Below w.heap.size w w' := by
  subst hn hn'
  obtain ⟨W0, hW0⟩ : ∃ W0, W0 = (w.alloc (.cells #[.string (str m), .string (str t), .int .i64 k, .slice p fs.length c] 24 (0, 0))).alloc (.cells #[.string (str m'), .string (str t'), .int .i64 k', .slice p' fs'.length c'] 24 (0, 0)) := ⟨_, rfl⟩
  have H0 := hid (show TwoQ w W0 #[.string (str m), .string (str t), .int .i64 k, .slice p fs.length c] #[.string (str m'), .string (str t'), .int .i64 k', .slice p' fs'.length c'] from by obtain ⟨x1, x2, x3⟩ := two_at hW0; exact ⟨x3, x1, x2⟩)
  have HQ1 := hid (wreq_may m t k fs p fs.length c rfl W0 (hE.next H0.out.low) (hF.next H0.out.low) hsz hnn hm ht hq)
  have HQ2 := hid (show ∀ W : World, Below w.heap.size w W → _ from fun W hb => wreq_may m' t' k' fs' p' fs'.length c' rfl W (hE.next hb) (hF'.next hb) hsz' hnn' hm' ht' ha)
  have HWk := hid (show ∀ W : World, Below w.heap.size w W → _ from fun W hb => works10_any W (hE.next hb))
  have hne : ((str (headW (firstQ m t (verC k)) fs)).toList == (str (headW (firstQ m' t' (verC k')) fs')).toList) = false := ne_list (str_ne (fun e => by
    obtain ⟨a1, a2, a3, a4⟩ := apart (reqE_zero hq).2.2 (reqE_zero ha).2.2 e
    exact h4 a4))
  have HFs := hid (show ∀ W : World, Below w.heap.size w W → _ from fun W hb => fields10_any fs fs' p p' fs.length fs'.length c c' rfl rfl W (hF.next hb) (hF'.next hb) hnn)
  rw [decide_eq_false h4] at HFs
  subst h1 h2 h3
  obtain ⟨L, hL⟩ : ∃ L, headW (firstQ m t (verC k)) fs = L := ⟨_, rfl⟩
  rw [hL] at HQ1 hne
  obtain ⟨L', hL'⟩ : ∃ L', headW (firstQ m t (verC k)) fs' = L' := ⟨_, rfl⟩
  rw [hL'] at HQ2 hne
  obtain ⟨X', hX'⟩ : ∃ X', str L' = X' := ⟨_, rfl⟩
  rw [hX'] at hne
  have HX' := hid hX'
  obtain ⟨X, hX⟩ : ∃ X, str L = X := ⟨_, rfl⟩
  rw [hX] at hne
  have HX := hid hX
  clear hX hX'
  obtain ⟨M, hM⟩ : ∃ M, str m = M := ⟨_, rfl⟩
  obtain ⟨T, hT⟩ : ∃ T, str t = T := ⟨_, rfl⟩
  obtain ⟨n, hn⟩ : ∃ n, fs.length = n := ⟨_, rfl⟩
  obtain ⟨n', hn'⟩ : ∃ n', fs'.length = n' := ⟨_, rfl⟩
  rw [hM, hT, hn, hn'] at hW0 H0
  rw [hM, hT, hn] at HQ1
  rw [hM, hT, hn'] at HQ2
  rw [hn, hn'] at HFs
  rw [hM, hT, hn, hn']
  have HW0 := hid hW0
  clear hE hF hsz hF' hsz' hW0 hM hT hn hn' hL hL' hq ha h4
  go_enter Tryd.func7, Tryd.ntmps7
  go_wp2_with (first | (go_at_call 9; (rw [← HW0.out]); (with_reducible refine HQ1.out.mono ?_); rintro e w1 ⟨q1, d1, rfl, ho1, hb⟩; have H1 := hid (H0.out.next hb); have HO1 := hid ho1; obtain ⟨z0, z1, z2, z3, _⟩ := cells4 H1.out.c; have HQ2' := hid (HQ2.out _ H1.out.low); clear hb ho1 HQ1) | (go_at_call 9; (with_reducible refine HQ2'.out.mono ?_); rintro e w2 ⟨q2, d2, rfl, ho2, hb⟩; have H2 := hid (H1.out.next hb); have HO12 := hid (HO1.out.keep hb); have HO2 := hid ho2; clear z0 z1 z2 z3; obtain ⟨y0, y1, y2, y3, _⟩ := cells4 H2.out.a; obtain ⟨z0, z1, z2, z3, _⟩ := cells4 H2.out.c; clear hb ho2 HQ2') | (go_at_call 14; (with_reducible refine (HFs.out _ H2.out.low).mono ?_); rintro e w3 ⟨rfl, hb⟩; have H3 := hid (H2.out.next hb); have hcv1 := conv_own (HO12.out.keep hb); have hcv2 := conv_own (HO2.out.keep hb); rw [HX.out] at hcv1; rw [HX'.out] at hcv2; clear hb) | (go_at_call 15; (with_reducible refine (HWk.out _ H3.out.low).mono ?_); rintro e w9 ⟨rfl, hb⟩; have H9 := hid (H3.out.next hb); clear hb))
  go_ret
  exact ⟨rfl, H9.out.low⟩
set_option maxRecDepth 20000 in
set_option maxHeartbeats 8000000 in
theorem wapart_e (m t : B) (k : Int) (fs : List (B × B)) (p : Option Addr) (n c : Nat) (hn : fs.length = n) (m' t' : B) (k' : Int) (fs' : List (B × B)) (p' : Option Addr) (n' c' : Nat) (hn' : fs'.length = n') (w : World) (hE : EnvP w) (hF : FAt w p fs) (hsz : ∀ f ∈ fs, f.1.length ≤ 140737488355328 ∧ f.2.length ≤ 140737488355328) (hnn : n ≤ 140737488355328) (hm : m.length ≤ 140737488355328) (ht : t.length ≤ 140737488355328) (hF' : FAt w p' fs') (hsz' : ∀ f ∈ fs', f.1.length ≤ 140737488355328 ∧ f.2.length ≤ 140737488355328) (hnn' : n' ≤ 140737488355328) (hm' : m'.length ≤ 140737488355328) (ht' : t'.length ≤ 140737488355328) (hq : reqE m t k fs = 0) (ha : reqE m' t' k' fs' = 0) (h1 : m = m') (h2 : t = t') (h3 : k = k') (h4 : fs = fs') : Calls Tryd.prog 7 #[.agg #[.string (str m), .string (str t), .int .i64 k, .slice p n c], .agg #[.string (str m'), .string (str t'), .int .i64 k', .slice p' n' c']] w fun e w' => e = .returned (.bool true) ∧ Below w.heap.size w w' := by
  subst hn hn'
  obtain ⟨W0, hW0⟩ : ∃ W0, W0 = (w.alloc (.cells #[.string (str m), .string (str t), .int .i64 k, .slice p fs.length c] 24 (0, 0))).alloc (.cells #[.string (str m'), .string (str t'), .int .i64 k', .slice p' fs'.length c'] 24 (0, 0)) := ⟨_, rfl⟩
  have H0 := hid (show TwoQ w W0 #[.string (str m), .string (str t), .int .i64 k, .slice p fs.length c] #[.string (str m'), .string (str t'), .int .i64 k', .slice p' fs'.length c'] from by obtain ⟨x1, x2, x3⟩ := two_at hW0; exact ⟨x3, x1, x2⟩)
  have HQ1 := hid (wreq_may m t k fs p fs.length c rfl W0 (hE.next H0.out.low) (hF.next H0.out.low) hsz hnn hm ht hq)
  have HQ2 := hid (show ∀ W : World, Below w.heap.size w W → _ from fun W hb => wreq_may m' t' k' fs' p' fs'.length c' rfl W (hE.next hb) (hF'.next hb) hsz' hnn' hm' ht' ha)
  have HWk := hid (show ∀ W : World, Below w.heap.size w W → _ from fun W hb => works10_any W (hE.next hb))
  have HFs := hid (show ∀ W : World, Below w.heap.size w W → _ from fun W hb => fields10_any fs fs' p p' fs.length fs'.length c c' rfl rfl W (hF.next hb) (hF'.next hb) hnn)
  rw [decide_eq_true h4] at HFs
  subst h1 h2 h3 h4
  obtain ⟨L, hL⟩ : ∃ L, headW (firstQ m t (verC k)) fs = L := ⟨_, rfl⟩
  rw [hL] at HQ1 HQ2
  obtain ⟨X, hX⟩ : ∃ X, str L = X := ⟨_, rfl⟩
  have HX := hid hX
  clear hX
  obtain ⟨M, hM⟩ : ∃ M, str m = M := ⟨_, rfl⟩
  obtain ⟨T, hT⟩ : ∃ T, str t = T := ⟨_, rfl⟩
  obtain ⟨n, hn⟩ : ∃ n, fs.length = n := ⟨_, rfl⟩
  rw [hM, hT, hn] at hW0 H0
  rw [hM, hT, hn] at HQ1
  rw [hM, hT, hn] at HQ2
  rw [hn] at HFs
  rw [hM, hT, hn]
  have HW0 := hid hW0
  clear hE hF hsz hF' hsz' hW0 hM hT hn hL hq ha
  go_enter Tryd.func7, Tryd.ntmps7
  go_wp2_with (first | (go_at_call 9; (rw [← HW0.out]); (with_reducible refine HQ1.out.mono ?_); rintro e w1 ⟨q1, d1, rfl, ho1, hb⟩; have H1 := hid (H0.out.next hb); have HO1 := hid ho1; obtain ⟨z0, z1, z2, z3, _⟩ := cells4 H1.out.c; have HQ2' := hid (HQ2.out _ H1.out.low); clear hb ho1 HQ1) | (go_at_call 9; (with_reducible refine HQ2'.out.mono ?_); rintro e w2 ⟨q2, d2, rfl, ho2, hb⟩; have H2 := hid (H1.out.next hb); have HO12 := hid (HO1.out.keep hb); have HO2 := hid ho2; clear z0 z1 z2 z3; obtain ⟨y0, y1, y2, y3, _⟩ := cells4 H2.out.a; obtain ⟨z0, z1, z2, z3, _⟩ := cells4 H2.out.c; clear hb ho2 HQ2') | (go_at_call 14; (with_reducible refine (HFs.out _ H2.out.low).mono ?_); rintro e w3 ⟨rfl, hb⟩; have H3 := hid (H2.out.next hb); have hcv1 := conv_own (HO12.out.keep hb); have hcv2 := conv_own (HO2.out.keep hb); rw [HX.out] at hcv1; rw [HX.out] at hcv2; clear hb) | (go_at_call 15; (with_reducible refine (HWk.out _ H3.out.low).mono ?_); rintro e w9 ⟨rfl, hb⟩; have H9 := hid (H3.out.next hb); clear hb))
  go_ret
  exact ⟨rfl, H9.out.low⟩
theorem wapart_walk (m t : B) (k : Int) (fs : List (B × B)) (p : Option Addr) (n c : Nat) (hn : fs.length = n) (m' t' : B) (k' : Int) (fs' : List (B × B)) (p' : Option Addr) (n' c' : Nat) (hn' : fs'.length = n') (w : World) (hE : EnvP w) (hF : FAt w p fs) (hsz : ∀ f ∈ fs, f.1.length ≤ 140737488355328 ∧ f.2.length ≤ 140737488355328) (hnn : n ≤ 140737488355328) (hm : m.length ≤ 140737488355328) (ht : t.length ≤ 140737488355328) (hF' : FAt w p' fs') (hsz' : ∀ f ∈ fs', f.1.length ≤ 140737488355328 ∧ f.2.length ≤ 140737488355328) (hnn' : n' ≤ 140737488355328) (hm' : m'.length ≤ 140737488355328) (ht' : t'.length ≤ 140737488355328) : Calls Tryd.prog 7 #[.agg #[.string (str m), .string (str t), .int .i64 k, .slice p n c], .agg #[.string (str m'), .string (str t'), .int .i64 k', .slice p' n' c']] w fun e w' => e = .returned (.bool true) ∧ Below w.heap.size w w' := by
  by_cases hq : reqE m t k fs = 0
  · by_cases ha : reqE m' t' k' fs' = 0
    · by_cases h1 : m = m'
      · by_cases h2 : t = t'
        · by_cases h3 : k = k'
          · by_cases h4 : fs = fs'
            · exact wapart_e m t k fs p n c hn m' t' k' fs' p' n' c' hn' w hE hF hsz hnn hm ht hF' hsz' hnn' hm' ht' hq ha h1 h2 h3 h4
            · exact wapart_f m t k fs p n c hn m' t' k' fs' p' n' c' hn' w hE hF hsz hnn hm ht hF' hsz' hnn' hm' ht' hq ha h1 h2 h3 h4
          · exact wapart_k m t k fs p n c hn m' t' k' fs' p' n' c' hn' w hE hF hsz hnn hm ht hF' hsz' hnn' hm' ht' hq ha h1 h2 h3
        · exact wapart_t m t k fs p n c hn m' t' k' fs' p' n' c' hn' w hE hF hsz hnn hm ht hF' hsz' hnn' hm' ht' hq ha h1 h2
      · exact wapart_m m t k fs p n c hn m' t' k' fs' p' n' c' hn' w hE hF hsz hnn hm ht hF' hsz' hnn' hm' ht' hq ha h1
    · exact wapart_b m t k fs p n c hn m' t' k' fs' p' n' c' hn' w hE hF hsz hnn hm ht hF' hsz' hnn' hm' ht' hq ha
  · exact wapart_a m t k fs p n c hn m' t' k' fs' p' n' c' hn' w hE hF hsz hnn hm ht hF' hsz' hnn' hm' ht' hq
end Go.Proofs.YtpcfcpeokkbfmaaDoor
