/- The law of what is written and read. -/
import Derived.Test.YtpcfcpeokkbfmaaDoorWWorks
import Derived.Test.YtpcfcpeokkbfmaaDoorLBack
namespace Go.Proofs.YtpcfcpeokkbfmaaDoor
open Go.RowKit

theorem wrE_zero {first : B} {fs : List (B × B)} (h : wrE first fs = 0) : fineB fs = true ∧ (headW first fs).length ≤ 65536 := by
  unfold wrE at h
  split at h
  · split at h
    · rename_i h1 h2; exact ⟨h1, h2⟩
    · cases h
  · cases h
theorem reqE_zero {m t : B} {k : Int} {fs : List (B × B)} (h : reqE m t k fs = 0) : lineQ m t k = true ∧ wrE (firstQ m t (verC k)) fs = 0 ∧ mayQ m t k fs = true := by
  unfold reqE at h
  split at h
  · rename_i hl
    obtain ⟨h1, h2⟩ := wrE_zero h
    obtain ⟨p1, p2, p3⟩ := lineQ_parts hl
    refine ⟨hl, h, ?_⟩
    unfold tarB at p2
    rw [Bool.and_eq_true] at p2
    have p4 := minB_or p3
    unfold mayQ okQ
    rw [p1, p2.1, p2.2, h1, decide_eq_true h2, decide_eq_true (show 0 ≤ k by omega), decide_eq_true (show k ≤ 1 by omega)]
    rfl
  · cases h
theorem respE_zero {s : Int} {r : B} {k : Int} {fs : List (B × B)} (h : respE s r k fs = 0) : lineP s r k = true ∧ wrE (firstP (verC k) (told 10 s.toNat) r) fs = 0 ∧ (s ≤ 599 → mayP s.toNat r k fs = true) := by
  unfold respE at h
  split at h
  · rename_i hl
    obtain ⟨h1, h2⟩ := wrE_zero h
    obtain ⟨⟨n, p0, p1, p2⟩, p3, p4⟩ := lineP_parts hl
    refine ⟨hl, h, fun h5 => ?_⟩
    have p5 := minB_or p4
    unfold mayP okP
    rw [p3, h1, decide_eq_true h2, decide_eq_true (show 0 ≤ k by omega), decide_eq_true (show k ≤ 1 by omega), decide_eq_true (show (100 : Int) ≤ (s.toNat : Int) by omega), decide_eq_true (show (s.toNat : Int) ≤ 599 by omega)]
    rfl
  · cases h
theorem wreq_not (m t : B) (k : Int) (fs : List (B × B)) (p : Option Addr) (n c : Nat) (hn : fs.length = n) (w : World) (hE : EnvP w) (hF : FAt w p fs) (hsz : ∀ f ∈ fs, f.1.length ≤ 140737488355328 ∧ f.2.length ≤ 140737488355328) (hnn : n ≤ 140737488355328) (hm : m.length ≤ 140737488355328) (ht : t.length ≤ 140737488355328) (he : reqE m t k fs ≠ 0) : Calls Tryd.prog 9 #[.agg #[.string (str m), .string (str t), .int .i64 k, .slice p n c]] w fun e w' => e = .returned (.tuple #[.slice none 0 0, .iface 62 (.int .i64 (reqE m t k fs : Int))]) ∧ Below w.heap.size w w' := by
  unfold reqE at he ⊢
  cases hl : lineQ m t k with
  | false => exact wreq_line m t k p n c w hm ht hl
  | true =>
    rw [hl, if_pos rfl] at he
    rw [if_pos rfl, ← errOf_pos he]
    exact wreq_no m t k fs p n c hn w hE hF hsz hnn hm ht hl he
theorem wreq_may (m t : B) (k : Int) (fs : List (B × B)) (p : Option Addr) (n c : Nat) (hn : fs.length = n) (w : World) (hE : EnvP w) (hF : FAt w p fs) (hsz : ∀ f ∈ fs, f.1.length ≤ 140737488355328 ∧ f.2.length ≤ 140737488355328) (hnn : n ≤ 140737488355328) (hm : m.length ≤ 140737488355328) (ht : t.length ≤ 140737488355328) (he : reqE m t k fs = 0) : Calls Tryd.prog 9 #[.agg #[.string (str m), .string (str t), .int .i64 k, .slice p n c]] w fun e w' => ∃ q d, e = .returned (.tuple #[.slice q (headW (firstQ m t (verC k)) fs).length d, .nilIface]) ∧ Own w' w.heap.size (.slice q (headW (firstQ m t (verC k)) fs).length d) (headW (firstQ m t (verC k)) fs) ∧ Below w.heap.size w w' :=
  wreq_yes m t k fs p n c hn w hE hF hsz hnn hm ht (reqE_zero he).1 (reqE_zero he).2.1
theorem wreq_any (m t : B) (k : Int) (fs : List (B × B)) (p : Option Addr) (n c : Nat) (hn : fs.length = n) (w : World) (hE : EnvP w) (hF : FAt w p fs) (hsz : ∀ f ∈ fs, f.1.length ≤ 140737488355328 ∧ f.2.length ≤ 140737488355328) (hnn : n ≤ 140737488355328) (hm : m.length ≤ 140737488355328) (ht : t.length ≤ 140737488355328) : Calls Tryd.prog 9 #[.agg #[.string (str m), .string (str t), .int .i64 k, .slice p n c]] w fun e w' => ∃ q x d v, e = .returned (.tuple #[.slice q x d, v]) ∧ Below w.heap.size w w' := by
  by_cases he : reqE m t k fs = 0
  · exact (wreq_may m t k fs p n c hn w hE hF hsz hnn hm ht he).mono (fun e w' ⟨q, d, h1, _, h3⟩ => ⟨q, _, d, _, h1, h3⟩)
  · exact (wreq_not m t k fs p n c hn w hE hF hsz hnn hm ht he).mono (fun e w' ⟨h1, h3⟩ => ⟨_, _, _, _, h1, h3⟩)
theorem wresp_not (s : Int) (r : B) (k : Int) (fs : List (B × B)) (p : Option Addr) (n c : Nat) (hn : fs.length = n) (w : World) (hE : EnvP w) (hF : FAt w p fs) (hsz : ∀ f ∈ fs, f.1.length ≤ 140737488355328 ∧ f.2.length ≤ 140737488355328) (hnn : n ≤ 140737488355328) (hr : r.length ≤ 140737488355328) (he : respE s r k fs ≠ 0) : Calls Tryd.prog 11 #[.agg #[.int .i64 s, .string (str r), .int .i64 k, .slice p n c]] w fun e w' => e = .returned (.tuple #[.slice none 0 0, .iface 62 (.int .i64 (respE s r k fs : Int))]) ∧ Below w.heap.size w w' := by
  unfold respE at he ⊢
  cases hl : lineP s r k with
  | false => exact wresp_line s r k p n c w hr hl
  | true =>
    rw [hl, if_pos rfl] at he
    rw [if_pos rfl, ← errOf_pos he]
    exact wresp_no s r k fs p n c hn w hE hF hsz hnn hr hl he
theorem wresp_may (s : Int) (r : B) (k : Int) (fs : List (B × B)) (p : Option Addr) (n c : Nat) (hn : fs.length = n) (w : World) (hE : EnvP w) (hF : FAt w p fs) (hsz : ∀ f ∈ fs, f.1.length ≤ 140737488355328 ∧ f.2.length ≤ 140737488355328) (hnn : n ≤ 140737488355328) (hr : r.length ≤ 140737488355328) (he : respE s r k fs = 0) : Calls Tryd.prog 11 #[.agg #[.int .i64 s, .string (str r), .int .i64 k, .slice p n c]] w fun e w' => ∃ q d, e = .returned (.tuple #[.slice q (headW (firstP (verC k) (told 10 s.toNat) r) fs).length d, .nilIface]) ∧ Own w' w.heap.size (.slice q (headW (firstP (verC k) (told 10 s.toNat) r) fs).length d) (headW (firstP (verC k) (told 10 s.toNat) r) fs) ∧ Below w.heap.size w w' :=
  wresp_yes s r k fs p n c hn w hE hF hsz hnn hr (respE_zero he).1 (respE_zero he).2.1
set_option maxRecDepth 20000 in
set_option maxHeartbeats 8000000 in
theorem wback_nn (m t : B) (k : Int) (fs : List (B × B)) (p : Option Addr) (n c : Nat) (hn : fs.length = n) (s : Int) (r : B) (k' : Int) (fs' : List (B × B)) (p' : Option Addr) (n' c' : Nat) (hn' : fs'.length = n') (w : World) (hE : EnvP w) (hF : FAt w p fs) (hsz : ∀ f ∈ fs, f.1.length ≤ 140737488355328 ∧ f.2.length ≤ 140737488355328) (hnn : n ≤ 140737488355328) (hm : m.length ≤ 140737488355328) (ht : t.length ≤ 140737488355328) (hF' : FAt w p' fs') (hsz' : ∀ f ∈ fs', f.1.length ≤ 140737488355328 ∧ f.2.length ≤ 140737488355328) (hnn' : n' ≤ 140737488355328) (hr : r.length ≤ 140737488355328) (hq : reqE m t k fs ≠ 0) (ha : respE s r k' fs' ≠ 0) : Calls Tryd.prog 6 #[.agg #[.string (str m), .string (str t), .int .i64 k, .slice p n c], .agg #[.int .i64 s, .string (str r), .int .i64 k', .slice p' n' c']] w fun e w' => e = .returned (.bool true) ∧ Below w.heap.size w w' := by
  subst hn hn'
  obtain ⟨W0, hW0⟩ : ∃ W0, W0 = (w.alloc (.cells #[.string (str m), .string (str t), .int .i64 k, .slice p fs.length c] 24 (0, 0))).alloc (.cells #[.int .i64 s, .string (str r), .int .i64 k', .slice p' fs'.length c'] 26 (0, 0)) := ⟨_, rfl⟩
  have H0 := hid (show Two2 w W0 #[.string (str m), .string (str t), .int .i64 k, .slice p fs.length c] #[.int .i64 s, .string (str r), .int .i64 k', .slice p' fs'.length c'] from by obtain ⟨x1, x2, x3⟩ := two_at hW0; exact ⟨x3, x1, x2⟩)
  have HQr := hid (wreq_not m t k fs p fs.length c rfl W0 (hE.next H0.out.low) (hF.next H0.out.low) hsz hnn hm ht hq)
  have HAn := hid (show ∀ W : World, Below w.heap.size w W → _ from fun W hb => wresp_not s r k' fs' p' fs'.length c' rfl W (hE.next hb) (hF'.next hb) hsz' hnn' hr ha)
  have HWk := hid (show ∀ W : World, Below w.heap.size w W → _ from fun W hb => works10_any W (hE.next hb))
  obtain ⟨E1, hE1⟩ : ∃ E1, reqE m t k fs = E1 := ⟨_, rfl⟩
  rw [hE1] at HQr
  obtain ⟨E2, hE2⟩ : ∃ E2, respE s r k' fs' = E2 := ⟨_, rfl⟩
  rw [hE2] at HAn
  obtain ⟨M, hM⟩ : ∃ M, str m = M := ⟨_, rfl⟩
  obtain ⟨T, hT⟩ : ∃ T, str t = T := ⟨_, rfl⟩
  obtain ⟨Rr, hR⟩ : ∃ Rr, str r = Rr := ⟨_, rfl⟩
  obtain ⟨n, hn⟩ : ∃ n, fs.length = n := ⟨_, rfl⟩
  obtain ⟨n', hn'⟩ : ∃ n', fs'.length = n' := ⟨_, rfl⟩
  rw [hM, hT, hR, hn, hn'] at hW0 H0
  rw [hM, hT, hn] at HQr
  rw [hR, hn'] at HAn
  rw [hM, hT, hR, hn, hn']
  have HW0 := hid hW0
  clear hE hF hsz hF' hsz' hM hT hR hn hn' hW0 hq ha hE1 hE2
  go_enter Tryd.func6, Tryd.ntmps6
  go_wp2_with (first | (go_at_call 9; (rw [← HW0.out]); (with_reducible refine HQr.out.mono ?_); rintro e w4 ⟨rfl, hb⟩; have H4 := hid (H0.out.next hb); obtain ⟨z0, z1, z2, z3, _⟩ := cells4 H4.out.c; have HAn4 := hid (HAn.out w4 H4.out.low); clear hb HQr) | (go_at_call 11; (with_reducible refine HAn4.out.mono ?_); rintro e w8 ⟨rfl, hb⟩; have H8 := hid (H4.out.next hb); clear hb HAn4) | (go_at_call 15; (with_reducible refine (HWk.out _ H8.out.low).mono ?_); rintro e w9 ⟨rfl, hb⟩; have H9 := hid (H8.out.next hb); clear hb))
  go_ret
  exact ⟨rfl, H9.out.low⟩
set_option maxRecDepth 20000 in
set_option maxHeartbeats 8000000 in
theorem wback_nh (m t : B) (k : Int) (fs : List (B × B)) (p : Option Addr) (n c : Nat) (hn : fs.length = n) (s : Int) (r : B) (k' : Int) (fs' : List (B × B)) (p' : Option Addr) (n' c' : Nat) (hn' : fs'.length = n') (w : World) (hE : EnvP w) (hF : FAt w p fs) (hsz : ∀ f ∈ fs, f.1.length ≤ 140737488355328 ∧ f.2.length ≤ 140737488355328) (hnn : n ≤ 140737488355328) (hm : m.length ≤ 140737488355328) (ht : t.length ≤ 140737488355328) (hF' : FAt w p' fs') (hsz' : ∀ f ∈ fs', f.1.length ≤ 140737488355328 ∧ f.2.length ≤ 140737488355328) (hnn' : n' ≤ 140737488355328) (hr : r.length ≤ 140737488355328) (hq : reqE m t k fs ≠ 0) (ha : respE s r k' fs' = 0) (h5 : ¬ s ≤ 599) : Calls Tryd.prog 6 #[.agg #[.string (str m), .string (str t), .int .i64 k, .slice p n c], .agg #[.int .i64 s, .string (str r), .int .i64 k', .slice p' n' c']] w fun e w' => e = .returned (.bool true) ∧ Below w.heap.size w w' := by
  subst hn hn'
  obtain ⟨W0, hW0⟩ : ∃ W0, W0 = (w.alloc (.cells #[.string (str m), .string (str t), .int .i64 k, .slice p fs.length c] 24 (0, 0))).alloc (.cells #[.int .i64 s, .string (str r), .int .i64 k', .slice p' fs'.length c'] 26 (0, 0)) := ⟨_, rfl⟩
  have H0 := hid (show Two2 w W0 #[.string (str m), .string (str t), .int .i64 k, .slice p fs.length c] #[.int .i64 s, .string (str r), .int .i64 k', .slice p' fs'.length c'] from by obtain ⟨x1, x2, x3⟩ := two_at hW0; exact ⟨x3, x1, x2⟩)
  have HQr := hid (wreq_not m t k fs p fs.length c rfl W0 (hE.next H0.out.low) (hF.next H0.out.low) hsz hnn hm ht hq)
  have HAn := hid (show ∀ W : World, Below w.heap.size w W → _ from fun W hb => wresp_may s r k' fs' p' fs'.length c' rfl W (hE.next hb) (hF'.next hb) hsz' hnn' hr ha)
  have HWk := hid (show ∀ W : World, Below w.heap.size w W → _ from fun W hb => works10_any W (hE.next hb))
  obtain ⟨E1, hE1⟩ : ∃ E1, reqE m t k fs = E1 := ⟨_, rfl⟩
  rw [hE1] at HQr
  obtain ⟨L', hL'⟩ : ∃ L', headW (firstP (verC k') (told 10 s.toNat) r) fs' = L' := ⟨_, rfl⟩
  rw [hL'] at HAn
  obtain ⟨x', hx'⟩ : ∃ x', L'.length = x' := ⟨_, rfl⟩
  rw [hx'] at HAn
  obtain ⟨M, hM⟩ : ∃ M, str m = M := ⟨_, rfl⟩
  obtain ⟨T, hT⟩ : ∃ T, str t = T := ⟨_, rfl⟩
  obtain ⟨Rr, hR⟩ : ∃ Rr, str r = Rr := ⟨_, rfl⟩
  obtain ⟨n, hn⟩ : ∃ n, fs.length = n := ⟨_, rfl⟩
  obtain ⟨n', hn'⟩ : ∃ n', fs'.length = n' := ⟨_, rfl⟩
  rw [hM, hT, hR, hn, hn'] at hW0 H0
  rw [hM, hT, hn] at HQr
  rw [hR, hn'] at HAn
  rw [hM, hT, hR, hn, hn']
  have HW0 := hid hW0
  clear hE hF hsz hF' hsz' hM hT hR hn hn' hW0 hq ha hE1 hL' hx'
  go_enter Tryd.func6, Tryd.ntmps6
  go_wp2_with (first | (go_at_call 9; (rw [← HW0.out]); (with_reducible refine HQr.out.mono ?_); rintro e w4 ⟨rfl, hb⟩; have H4 := hid (H0.out.next hb); obtain ⟨z0, z1, z2, z3, _⟩ := cells4 H4.out.c; have HAn4 := hid (HAn.out w4 H4.out.low); clear hb HQr) | (go_at_call 11; (with_reducible refine HAn4.out.mono ?_); rintro e w8 ⟨q5, d5, rfl, ho, hb⟩; have H8 := hid (H4.out.next hb); clear z0 z1 z2 z3; obtain ⟨z0, z1, z2, z3, _⟩ := cells4 H8.out.c; clear ho hb HAn4) | (go_at_call 15; (with_reducible refine (HWk.out _ H8.out.low).mono ?_); rintro e w9 ⟨rfl, hb⟩; have H9 := hid (H8.out.next hb); clear hb))
  go_ret
  exact ⟨rfl, H9.out.low⟩
set_option maxRecDepth 20000 in
set_option maxHeartbeats 8000000 in
theorem wback_ny (m t : B) (k : Int) (fs : List (B × B)) (p : Option Addr) (n c : Nat) (hn : fs.length = n) (s : Int) (r : B) (k' : Int) (fs' : List (B × B)) (p' : Option Addr) (n' c' : Nat) (hn' : fs'.length = n') (w : World) (hE : EnvP w) (hF : FAt w p fs) (hsz : ∀ f ∈ fs, f.1.length ≤ 140737488355328 ∧ f.2.length ≤ 140737488355328) (hnn : n ≤ 140737488355328) (hm : m.length ≤ 140737488355328) (ht : t.length ≤ 140737488355328) (hF' : FAt w p' fs') (hsz' : ∀ f ∈ fs', f.1.length ≤ 140737488355328 ∧ f.2.length ≤ 140737488355328) (hnn' : n' ≤ 140737488355328) (hr : r.length ≤ 140737488355328) (hq : reqE m t k fs ≠ 0) (ha : respE s r k' fs' = 0) (h5 : s ≤ 599) : Calls Tryd.prog 6 #[.agg #[.string (str m), .string (str t), .int .i64 k, .slice p n c], .agg #[.int .i64 s, .string (str r), .int .i64 k', .slice p' n' c']] w fun e w' => e = .returned (.bool true) ∧ Below w.heap.size w w' := by
  subst hn hn'
  obtain ⟨W0, hW0⟩ : ∃ W0, W0 = (w.alloc (.cells #[.string (str m), .string (str t), .int .i64 k, .slice p fs.length c] 24 (0, 0))).alloc (.cells #[.int .i64 s, .string (str r), .int .i64 k', .slice p' fs'.length c'] 26 (0, 0)) := ⟨_, rfl⟩
  have H0 := hid (show Two2 w W0 #[.string (str m), .string (str t), .int .i64 k, .slice p fs.length c] #[.int .i64 s, .string (str r), .int .i64 k', .slice p' fs'.length c'] from by obtain ⟨x1, x2, x3⟩ := two_at hW0; exact ⟨x3, x1, x2⟩)
  have HQr := hid (wreq_not m t k fs p fs.length c rfl W0 (hE.next H0.out.low) (hF.next H0.out.low) hsz hnn hm ht hq)
  have HAn := hid (show ∀ W : World, Below w.heap.size w W → _ from fun W hb => wresp_may s r k' fs' p' fs'.length c' rfl W (hE.next hb) (hF'.next hb) hsz' hnn' hr ha)
  have HWk := hid (show ∀ W : World, Below w.heap.size w W → _ from fun W hb => works10_any W (hE.next hb))
  obtain ⟨E1, hE1⟩ : ∃ E1, reqE m t k fs = E1 := ⟨_, rfl⟩
  rw [hE1] at HQr
  have hs9 : (s.toNat : Int) = s := by obtain ⟨⟨nn, h1, _⟩, _⟩ := lineP_parts (respE_zero ha).1; omega
  have HPp := hid (show ∀ (W : World) (q : Option Addr) (d : Nat), ArgAt W q (headW (firstP (verC k') (told 10 s.toNat) r) fs') → _ from fun W q d hA => parseP_back s.toNat r k' fs' q d W hA ((respE_zero ha).2.2 h5))
  rw [hs9] at HPp
  have HSp := hid (show ∀ (W : World) (p2 : Option Addr) (c2 : Nat), Below w.heap.size w W → FAt W p2 fs' → _ from fun W p2 c2 hb h2 => fields10_any fs' fs' p2 p' fs'.length fs'.length c2 c' rfl rfl W h2 (hF'.next hb) (by omega))
  rw [decide_eq_true rfl] at HSp
  obtain ⟨L', hL'⟩ : ∃ L', headW (firstP (verC k') (told 10 s.toNat) r) fs' = L' := ⟨_, rfl⟩
  rw [hL'] at HAn HPp
  obtain ⟨x', hx'⟩ : ∃ x', L'.length = x' := ⟨_, rfl⟩
  rw [hx'] at HAn HPp
  obtain ⟨M, hM⟩ : ∃ M, str m = M := ⟨_, rfl⟩
  obtain ⟨T, hT⟩ : ∃ T, str t = T := ⟨_, rfl⟩
  obtain ⟨Rr, hR⟩ : ∃ Rr, str r = Rr := ⟨_, rfl⟩
  obtain ⟨n, hn⟩ : ∃ n, fs.length = n := ⟨_, rfl⟩
  obtain ⟨n', hn'⟩ : ∃ n', fs'.length = n' := ⟨_, rfl⟩
  rw [hM, hT, hR, hn, hn'] at hW0 H0
  rw [hM, hT, hn] at HQr
  rw [hR, hn'] at HAn HPp
  rw [hn'] at HSp
  rw [hM, hT, hR, hn, hn']
  have HW0 := hid hW0
  clear hE hF hsz hF' hsz' hM hT hR hn hn' hW0 hq ha hE1 hs9 hL' hx'
  go_enter Tryd.func6, Tryd.ntmps6
  go_wp2_with (first | (go_at_call 9; (rw [← HW0.out]); (with_reducible refine HQr.out.mono ?_); rintro e w4 ⟨rfl, hb⟩; have H4 := hid (H0.out.next hb); obtain ⟨z0, z1, z2, z3, _⟩ := cells4 H4.out.c; have HAn4 := hid (HAn.out w4 H4.out.low); clear hb HQr) | (go_at_call 11; (with_reducible refine HAn4.out.mono ?_); rintro e w5 ⟨q5, d5, rfl, ho, hb⟩; have H5 := hid (H4.out.next hb); have HO5 := hid ho; clear z0 z1 z2 z3; obtain ⟨z0, z1, z2, z3, _⟩ := cells4 H5.out.c; clear ho hb HAn4) | (go_at_call 29; (with_reducible refine (HPp.out w5 q5 d5 HO5.out.arg).mono ?_); rintro e w6 ⟨p6, c6, rfl, hf6, hb⟩; have H6 := hid (H5.out.next hb); have HW7b := hid (below_new w6 (.cells #[.int .i64 s, .string Rr, .int .i64 k', .slice p6 n' c6] 26 (0, 0))); have H7 := hid (H6.out.next HW7b.out); obtain ⟨v0, v1, v2, v3, _⟩ := cells4 H7.out.c; have HS7 := hid (HSp.out _ p6 c6 H7.out.low (hf6.next HW7b.out)); clear hf6 hb HPp) | (go_at_call 14; (with_reducible refine HS7.out.mono ?_); rintro e w8 ⟨rfl, hb⟩; have H8 := hid (H7.out.next hb); clear hb HS7 v0 v1 v2 v3) | (go_at_call 15; (with_reducible refine (HWk.out _ H8.out.low).mono ?_); rintro e w9 ⟨rfl, hb⟩; have H9 := hid (H8.out.next hb); clear hb))
  go_ret
  exact ⟨rfl, H9.out.low⟩
set_option maxRecDepth 20000 in
set_option maxHeartbeats 8000000 in
theorem wback_yn (m t : B) (k : Int) (fs : List (B × B)) (p : Option Addr) (n c : Nat) (hn : fs.length = n) (s : Int) (r : B) (k' : Int) (fs' : List (B × B)) (p' : Option Addr) (n' c' : Nat) (hn' : fs'.length = n') (w : World) (hE : EnvP w) (hF : FAt w p fs) (hsz : ∀ f ∈ fs, f.1.length ≤ 140737488355328 ∧ f.2.length ≤ 140737488355328) (hnn : n ≤ 140737488355328) (hm : m.length ≤ 140737488355328) (ht : t.length ≤ 140737488355328) (hF' : FAt w p' fs') (hsz' : ∀ f ∈ fs', f.1.length ≤ 140737488355328 ∧ f.2.length ≤ 140737488355328) (hnn' : n' ≤ 140737488355328) (hr : r.length ≤ 140737488355328) (hq : reqE m t k fs = 0) (ha : respE s r k' fs' ≠ 0) : Calls Tryd.prog 6 #[.agg #[.string (str m), .string (str t), .int .i64 k, .slice p n c], .agg #[.int .i64 s, .string (str r), .int .i64 k', .slice p' n' c']] w fun e w' => e = .returned (.bool true) ∧ Below w.heap.size w w' := by
  subst hn hn'
  obtain ⟨W0, hW0⟩ : ∃ W0, W0 = (w.alloc (.cells #[.string (str m), .string (str t), .int .i64 k, .slice p fs.length c] 24 (0, 0))).alloc (.cells #[.int .i64 s, .string (str r), .int .i64 k', .slice p' fs'.length c'] 26 (0, 0)) := ⟨_, rfl⟩
  have H0 := hid (show Two2 w W0 #[.string (str m), .string (str t), .int .i64 k, .slice p fs.length c] #[.int .i64 s, .string (str r), .int .i64 k', .slice p' fs'.length c'] from by obtain ⟨x1, x2, x3⟩ := two_at hW0; exact ⟨x3, x1, x2⟩)
  have HQr := hid (wreq_may m t k fs p fs.length c rfl W0 (hE.next H0.out.low) (hF.next H0.out.low) hsz hnn hm ht hq)
  have HAn := hid (show ∀ W : World, Below w.heap.size w W → _ from fun W hb => wresp_not s r k' fs' p' fs'.length c' rfl W (hE.next hb) (hF'.next hb) hsz' hnn' hr ha)
  have HWk := hid (show ∀ W : World, Below w.heap.size w W → _ from fun W hb => works10_any W (hE.next hb))
  have HPq := hid (show ∀ (W : World) (q : Option Addr) (d : Nat), ArgAt W q (headW (firstQ m t (verC k)) fs) → _ from fun W q d hA => parseQ_back m t k fs q d W hA (reqE_zero hq).2.2)
  have HSq := hid (show ∀ (W : World) (p2 : Option Addr) (c2 : Nat), Below w.heap.size w W → FAt W p2 fs → _ from fun W p2 c2 hb h2 => fields10_any fs fs p2 p fs.length fs.length c2 c rfl rfl W h2 (hF.next hb) (by omega))
  rw [decide_eq_true rfl] at HSq
  obtain ⟨L, hL⟩ : ∃ L, headW (firstQ m t (verC k)) fs = L := ⟨_, rfl⟩
  rw [hL] at HQr HPq
  obtain ⟨x, hx⟩ : ∃ x, L.length = x := ⟨_, rfl⟩
  rw [hx] at HQr HPq
  obtain ⟨E2, hE2⟩ : ∃ E2, respE s r k' fs' = E2 := ⟨_, rfl⟩
  rw [hE2] at HAn
  obtain ⟨M, hM⟩ : ∃ M, str m = M := ⟨_, rfl⟩
  obtain ⟨T, hT⟩ : ∃ T, str t = T := ⟨_, rfl⟩
  obtain ⟨Rr, hR⟩ : ∃ Rr, str r = Rr := ⟨_, rfl⟩
  obtain ⟨n, hn⟩ : ∃ n, fs.length = n := ⟨_, rfl⟩
  obtain ⟨n', hn'⟩ : ∃ n', fs'.length = n' := ⟨_, rfl⟩
  rw [hM, hT, hR, hn, hn'] at hW0 H0
  rw [hM, hT, hn] at HQr HPq
  rw [hR, hn'] at HAn
  rw [hn] at HSq
  rw [hM, hT, hR, hn, hn']
  have HW0 := hid hW0
  clear hE hF hsz hF' hsz' hM hT hR hn hn' hW0 hq ha hL hx hE2
  go_enter Tryd.func6, Tryd.ntmps6
  go_wp2_with (first | (go_at_call 9; (rw [← HW0.out]); (with_reducible refine HQr.out.mono ?_); rintro e w1 ⟨q1, d1, rfl, ho, hb⟩; have H1 := hid (H0.out.next hb); have HO1 := hid ho; clear ho hb HQr) | (go_at_call 28; (with_reducible refine (HPq.out w1 q1 d1 HO1.out.arg).mono ?_); rintro e w2 ⟨p2, c2, rfl, hf2, hb⟩; have H2 := hid (H1.out.next hb); have HW3b := hid (below_new w2 (.cells #[.string M, .string T, .int .i64 k, .slice p2 n c2] 24 (0, 0))); have H3 := hid (H2.out.next HW3b.out); obtain ⟨y0, y1, y2, y3, _⟩ := cells4 H3.out.a; have HS3 := hid (HSq.out _ p2 c2 H3.out.low (hf2.next HW3b.out)); clear hf2 hb HPq) | (go_at_call 14; (with_reducible refine HS3.out.mono ?_); rintro e w4 ⟨rfl, hb⟩; have H4 := hid (H3.out.next hb); obtain ⟨z0, z1, z2, z3, _⟩ := cells4 H4.out.c; have HAn4 := hid (HAn.out w4 H4.out.low); clear hb HS3 y0 y1 y2 y3) | (go_at_call 11; (with_reducible refine HAn4.out.mono ?_); rintro e w8 ⟨rfl, hb⟩; have H8 := hid (H4.out.next hb); clear hb HAn4) | (go_at_call 15; (with_reducible refine (HWk.out _ H8.out.low).mono ?_); rintro e w9 ⟨rfl, hb⟩; have H9 := hid (H8.out.next hb); clear hb))
  go_ret
  exact ⟨rfl, H9.out.low⟩
set_option maxRecDepth 20000 in
set_option maxHeartbeats 8000000 in
theorem wback_yh (m t : B) (k : Int) (fs : List (B × B)) (p : Option Addr) (n c : Nat) (hn : fs.length = n) (s : Int) (r : B) (k' : Int) (fs' : List (B × B)) (p' : Option Addr) (n' c' : Nat) (hn' : fs'.length = n') (w : World) (hE : EnvP w) (hF : FAt w p fs) (hsz : ∀ f ∈ fs, f.1.length ≤ 140737488355328 ∧ f.2.length ≤ 140737488355328) (hnn : n ≤ 140737488355328) (hm : m.length ≤ 140737488355328) (ht : t.length ≤ 140737488355328) (hF' : FAt w p' fs') (hsz' : ∀ f ∈ fs', f.1.length ≤ 140737488355328 ∧ f.2.length ≤ 140737488355328) (hnn' : n' ≤ 140737488355328) (hr : r.length ≤ 140737488355328) (hq : reqE m t k fs = 0) (ha : respE s r k' fs' = 0) (h5 : ¬ s ≤ 599) : Calls Tryd.prog 6 #[.agg #[.string (str m), .string (str t), .int .i64 k, .slice p n c], .agg #[.int .i64 s, .string (str r), .int .i64 k', .slice p' n' c']] w fun e w' => e = .returned (.bool true) ∧ Below w.heap.size w w' := by
  subst hn hn'
  obtain ⟨W0, hW0⟩ : ∃ W0, W0 = (w.alloc (.cells #[.string (str m), .string (str t), .int .i64 k, .slice p fs.length c] 24 (0, 0))).alloc (.cells #[.int .i64 s, .string (str r), .int .i64 k', .slice p' fs'.length c'] 26 (0, 0)) := ⟨_, rfl⟩
  have H0 := hid (show Two2 w W0 #[.string (str m), .string (str t), .int .i64 k, .slice p fs.length c] #[.int .i64 s, .string (str r), .int .i64 k', .slice p' fs'.length c'] from by obtain ⟨x1, x2, x3⟩ := two_at hW0; exact ⟨x3, x1, x2⟩)
  have HQr := hid (wreq_may m t k fs p fs.length c rfl W0 (hE.next H0.out.low) (hF.next H0.out.low) hsz hnn hm ht hq)
  have HAn := hid (show ∀ W : World, Below w.heap.size w W → _ from fun W hb => wresp_may s r k' fs' p' fs'.length c' rfl W (hE.next hb) (hF'.next hb) hsz' hnn' hr ha)
  have HWk := hid (show ∀ W : World, Below w.heap.size w W → _ from fun W hb => works10_any W (hE.next hb))
  have HPq := hid (show ∀ (W : World) (q : Option Addr) (d : Nat), ArgAt W q (headW (firstQ m t (verC k)) fs) → _ from fun W q d hA => parseQ_back m t k fs q d W hA (reqE_zero hq).2.2)
  have HSq := hid (show ∀ (W : World) (p2 : Option Addr) (c2 : Nat), Below w.heap.size w W → FAt W p2 fs → _ from fun W p2 c2 hb h2 => fields10_any fs fs p2 p fs.length fs.length c2 c rfl rfl W h2 (hF.next hb) (by omega))
  rw [decide_eq_true rfl] at HSq
  obtain ⟨L, hL⟩ : ∃ L, headW (firstQ m t (verC k)) fs = L := ⟨_, rfl⟩
  rw [hL] at HQr HPq
  obtain ⟨x, hx⟩ : ∃ x, L.length = x := ⟨_, rfl⟩
  rw [hx] at HQr HPq
  obtain ⟨L', hL'⟩ : ∃ L', headW (firstP (verC k') (told 10 s.toNat) r) fs' = L' := ⟨_, rfl⟩
  rw [hL'] at HAn
  obtain ⟨x', hx'⟩ : ∃ x', L'.length = x' := ⟨_, rfl⟩
  rw [hx'] at HAn
  obtain ⟨M, hM⟩ : ∃ M, str m = M := ⟨_, rfl⟩
  obtain ⟨T, hT⟩ : ∃ T, str t = T := ⟨_, rfl⟩
  obtain ⟨Rr, hR⟩ : ∃ Rr, str r = Rr := ⟨_, rfl⟩
  obtain ⟨n, hn⟩ : ∃ n, fs.length = n := ⟨_, rfl⟩
  obtain ⟨n', hn'⟩ : ∃ n', fs'.length = n' := ⟨_, rfl⟩
  rw [hM, hT, hR, hn, hn'] at hW0 H0
  rw [hM, hT, hn] at HQr HPq
  rw [hR, hn'] at HAn
  rw [hn] at HSq
  rw [hM, hT, hR, hn, hn']
  have HW0 := hid hW0
  clear hE hF hsz hF' hsz' hM hT hR hn hn' hW0 hq ha hL hx hL' hx'
  go_enter Tryd.func6, Tryd.ntmps6
  go_wp2_with (first | (go_at_call 9; (rw [← HW0.out]); (with_reducible refine HQr.out.mono ?_); rintro e w1 ⟨q1, d1, rfl, ho, hb⟩; have H1 := hid (H0.out.next hb); have HO1 := hid ho; clear ho hb HQr) | (go_at_call 28; (with_reducible refine (HPq.out w1 q1 d1 HO1.out.arg).mono ?_); rintro e w2 ⟨p2, c2, rfl, hf2, hb⟩; have H2 := hid (H1.out.next hb); have HW3b := hid (below_new w2 (.cells #[.string M, .string T, .int .i64 k, .slice p2 n c2] 24 (0, 0))); have H3 := hid (H2.out.next HW3b.out); obtain ⟨y0, y1, y2, y3, _⟩ := cells4 H3.out.a; have HS3 := hid (HSq.out _ p2 c2 H3.out.low (hf2.next HW3b.out)); clear hf2 hb HPq) | (go_at_call 14; (with_reducible refine HS3.out.mono ?_); rintro e w4 ⟨rfl, hb⟩; have H4 := hid (H3.out.next hb); obtain ⟨z0, z1, z2, z3, _⟩ := cells4 H4.out.c; have HAn4 := hid (HAn.out w4 H4.out.low); clear hb HS3 y0 y1 y2 y3) | (go_at_call 11; (with_reducible refine HAn4.out.mono ?_); rintro e w8 ⟨q5, d5, rfl, ho, hb⟩; have H8 := hid (H4.out.next hb); clear z0 z1 z2 z3; obtain ⟨z0, z1, z2, z3, _⟩ := cells4 H8.out.c; clear ho hb HAn4) | (go_at_call 15; (with_reducible refine (HWk.out _ H8.out.low).mono ?_); rintro e w9 ⟨rfl, hb⟩; have H9 := hid (H8.out.next hb); clear hb))
  go_ret
  exact ⟨rfl, H9.out.low⟩
set_option maxRecDepth 20000 in
set_option maxHeartbeats 8000000 in
theorem wback_yy (m t : B) (k : Int) (fs : List (B × B)) (p : Option Addr) (n c : Nat) (hn : fs.length = n) (s : Int) (r : B) (k' : Int) (fs' : List (B × B)) (p' : Option Addr) (n' c' : Nat) (hn' : fs'.length = n') (w : World) (hE : EnvP w) (hF : FAt w p fs) (hsz : ∀ f ∈ fs, f.1.length ≤ 140737488355328 ∧ f.2.length ≤ 140737488355328) (hnn : n ≤ 140737488355328) (hm : m.length ≤ 140737488355328) (ht : t.length ≤ 140737488355328) (hF' : FAt w p' fs') (hsz' : ∀ f ∈ fs', f.1.length ≤ 140737488355328 ∧ f.2.length ≤ 140737488355328) (hnn' : n' ≤ 140737488355328) (hr : r.length ≤ 140737488355328) (hq : reqE m t k fs = 0) (ha : respE s r k' fs' = 0) (h5 : s ≤ 599) : Calls Tryd.prog 6 #[.agg #[.string (str m), .string (str t), .int .i64 k, .slice p n c], .agg #[.int .i64 s, .string (str r), .int .i64 k', .slice p' n' c']] w fun e w' => e = .returned (.bool true) ∧ Below w.heap.size w w' := by
  subst hn hn'
  obtain ⟨W0, hW0⟩ : ∃ W0, W0 = (w.alloc (.cells #[.string (str m), .string (str t), .int .i64 k, .slice p fs.length c] 24 (0, 0))).alloc (.cells #[.int .i64 s, .string (str r), .int .i64 k', .slice p' fs'.length c'] 26 (0, 0)) := ⟨_, rfl⟩
  have H0 := hid (show Two2 w W0 #[.string (str m), .string (str t), .int .i64 k, .slice p fs.length c] #[.int .i64 s, .string (str r), .int .i64 k', .slice p' fs'.length c'] from by obtain ⟨x1, x2, x3⟩ := two_at hW0; exact ⟨x3, x1, x2⟩)
  have HQr := hid (wreq_may m t k fs p fs.length c rfl W0 (hE.next H0.out.low) (hF.next H0.out.low) hsz hnn hm ht hq)
  have HAn := hid (show ∀ W : World, Below w.heap.size w W → _ from fun W hb => wresp_may s r k' fs' p' fs'.length c' rfl W (hE.next hb) (hF'.next hb) hsz' hnn' hr ha)
  have HWk := hid (show ∀ W : World, Below w.heap.size w W → _ from fun W hb => works10_any W (hE.next hb))
  have HPq := hid (show ∀ (W : World) (q : Option Addr) (d : Nat), ArgAt W q (headW (firstQ m t (verC k)) fs) → _ from fun W q d hA => parseQ_back m t k fs q d W hA (reqE_zero hq).2.2)
  have HSq := hid (show ∀ (W : World) (p2 : Option Addr) (c2 : Nat), Below w.heap.size w W → FAt W p2 fs → _ from fun W p2 c2 hb h2 => fields10_any fs fs p2 p fs.length fs.length c2 c rfl rfl W h2 (hF.next hb) (by omega))
  rw [decide_eq_true rfl] at HSq
  obtain ⟨L, hL⟩ : ∃ L, headW (firstQ m t (verC k)) fs = L := ⟨_, rfl⟩
  rw [hL] at HQr HPq
  obtain ⟨x, hx⟩ : ∃ x, L.length = x := ⟨_, rfl⟩
  rw [hx] at HQr HPq
  have hs9 : (s.toNat : Int) = s := by obtain ⟨⟨nn, h1, _⟩, _⟩ := lineP_parts (respE_zero ha).1; omega
  have HPp := hid (show ∀ (W : World) (q : Option Addr) (d : Nat), ArgAt W q (headW (firstP (verC k') (told 10 s.toNat) r) fs') → _ from fun W q d hA => parseP_back s.toNat r k' fs' q d W hA ((respE_zero ha).2.2 h5))
  rw [hs9] at HPp
  have HSp := hid (show ∀ (W : World) (p2 : Option Addr) (c2 : Nat), Below w.heap.size w W → FAt W p2 fs' → _ from fun W p2 c2 hb h2 => fields10_any fs' fs' p2 p' fs'.length fs'.length c2 c' rfl rfl W h2 (hF'.next hb) (by omega))
  rw [decide_eq_true rfl] at HSp
  obtain ⟨L', hL'⟩ : ∃ L', headW (firstP (verC k') (told 10 s.toNat) r) fs' = L' := ⟨_, rfl⟩
  rw [hL'] at HAn HPp
  obtain ⟨x', hx'⟩ : ∃ x', L'.length = x' := ⟨_, rfl⟩
  rw [hx'] at HAn HPp
  obtain ⟨M, hM⟩ : ∃ M, str m = M := ⟨_, rfl⟩
  obtain ⟨T, hT⟩ : ∃ T, str t = T := ⟨_, rfl⟩
  obtain ⟨Rr, hR⟩ : ∃ Rr, str r = Rr := ⟨_, rfl⟩
  obtain ⟨n, hn⟩ : ∃ n, fs.length = n := ⟨_, rfl⟩
  obtain ⟨n', hn'⟩ : ∃ n', fs'.length = n' := ⟨_, rfl⟩
  rw [hM, hT, hR, hn, hn'] at hW0 H0
  rw [hM, hT, hn] at HQr HPq
  rw [hR, hn'] at HAn HPp
  rw [hn] at HSq
  rw [hn'] at HSp
  rw [hM, hT, hR, hn, hn']
  have HW0 := hid hW0
  clear hE hF hsz hF' hsz' hM hT hR hn hn' hW0 hq ha hL hx hs9 hL' hx'
  go_enter Tryd.func6, Tryd.ntmps6
  go_wp2_with (first | (go_at_call 9; (rw [← HW0.out]); (with_reducible refine HQr.out.mono ?_); rintro e w1 ⟨q1, d1, rfl, ho, hb⟩; have H1 := hid (H0.out.next hb); have HO1 := hid ho; clear ho hb HQr) | (go_at_call 28; (with_reducible refine (HPq.out w1 q1 d1 HO1.out.arg).mono ?_); rintro e w2 ⟨p2, c2, rfl, hf2, hb⟩; have H2 := hid (H1.out.next hb); have HW3b := hid (below_new w2 (.cells #[.string M, .string T, .int .i64 k, .slice p2 n c2] 24 (0, 0))); have H3 := hid (H2.out.next HW3b.out); obtain ⟨y0, y1, y2, y3, _⟩ := cells4 H3.out.a; have HS3 := hid (HSq.out _ p2 c2 H3.out.low (hf2.next HW3b.out)); clear hf2 hb HPq) | (go_at_call 14; (with_reducible refine HS3.out.mono ?_); rintro e w4 ⟨rfl, hb⟩; have H4 := hid (H3.out.next hb); obtain ⟨z0, z1, z2, z3, _⟩ := cells4 H4.out.c; have HAn4 := hid (HAn.out w4 H4.out.low); clear hb HS3 y0 y1 y2 y3) | (go_at_call 11; (with_reducible refine HAn4.out.mono ?_); rintro e w5 ⟨q5, d5, rfl, ho, hb⟩; have H5 := hid (H4.out.next hb); have HO5 := hid ho; clear z0 z1 z2 z3; obtain ⟨z0, z1, z2, z3, _⟩ := cells4 H5.out.c; clear ho hb HAn4) | (go_at_call 29; (with_reducible refine (HPp.out w5 q5 d5 HO5.out.arg).mono ?_); rintro e w6 ⟨p6, c6, rfl, hf6, hb⟩; have H6 := hid (H5.out.next hb); have HW7b := hid (below_new w6 (.cells #[.int .i64 s, .string Rr, .int .i64 k', .slice p6 n' c6] 26 (0, 0))); have H7 := hid (H6.out.next HW7b.out); obtain ⟨v0, v1, v2, v3, _⟩ := cells4 H7.out.c; have HS7 := hid (HSp.out _ p6 c6 H7.out.low (hf6.next HW7b.out)); clear hf6 hb HPp) | (go_at_call 14; (with_reducible refine HS7.out.mono ?_); rintro e w8 ⟨rfl, hb⟩; have H8 := hid (H7.out.next hb); clear hb HS7 v0 v1 v2 v3) | (go_at_call 15; (with_reducible refine (HWk.out _ H8.out.low).mono ?_); rintro e w9 ⟨rfl, hb⟩; have H9 := hid (H8.out.next hb); clear hb))
  go_ret
  exact ⟨rfl, H9.out.low⟩
theorem wback_walk (m t : B) (k : Int) (fs : List (B × B)) (p : Option Addr) (n c : Nat) (hn : fs.length = n) (s : Int) (r : B) (k' : Int) (fs' : List (B × B)) (p' : Option Addr) (n' c' : Nat) (hn' : fs'.length = n') (w : World) (hE : EnvP w) (hF : FAt w p fs) (hsz : ∀ f ∈ fs, f.1.length ≤ 140737488355328 ∧ f.2.length ≤ 140737488355328) (hnn : n ≤ 140737488355328) (hm : m.length ≤ 140737488355328) (ht : t.length ≤ 140737488355328) (hF' : FAt w p' fs') (hsz' : ∀ f ∈ fs', f.1.length ≤ 140737488355328 ∧ f.2.length ≤ 140737488355328) (hnn' : n' ≤ 140737488355328) (hr : r.length ≤ 140737488355328) : Calls Tryd.prog 6 #[.agg #[.string (str m), .string (str t), .int .i64 k, .slice p n c], .agg #[.int .i64 s, .string (str r), .int .i64 k', .slice p' n' c']] w fun e w' => e = .returned (.bool true) ∧ Below w.heap.size w w' := by
  by_cases hq : reqE m t k fs = 0 <;> by_cases ha : respE s r k' fs' = 0
  · by_cases h5 : s ≤ 599
    · exact wback_yy m t k fs p n c hn s r k' fs' p' n' c' hn' w hE hF hsz hnn hm ht hF' hsz' hnn' hr hq ha h5
    · exact wback_yh m t k fs p n c hn s r k' fs' p' n' c' hn' w hE hF hsz hnn hm ht hF' hsz' hnn' hr hq ha h5
  · exact wback_yn m t k fs p n c hn s r k' fs' p' n' c' hn' w hE hF hsz hnn hm ht hF' hsz' hnn' hr hq ha
  · by_cases h5 : s ≤ 599
    · exact wback_ny m t k fs p n c hn s r k' fs' p' n' c' hn' w hE hF hsz hnn hm ht hF' hsz' hnn' hr hq ha h5
    · exact wback_nh m t k fs p n c hn s r k' fs' p' n' c' hn' w hE hF hsz hnn hm ht hF' hsz' hnn' hr hq ha h5
  · exact wback_nn m t k fs p n c hn s r k' fs' p' n' c' hn' w hE hF hsz hnn hm ht hF' hsz' hnn' hr hq ha
end Go.Proofs.YtpcfcpeokkbfmaaDoor
