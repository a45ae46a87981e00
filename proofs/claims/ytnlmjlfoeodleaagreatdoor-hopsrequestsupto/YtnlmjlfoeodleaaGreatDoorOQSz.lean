/- The law of requests that go on. -/
import Derived.Test.YtnlmjlfoeodleaaGreatDoorOQReq
import Derived.Test.YtnlmjlfoeodleaaGreatDoorOOpen
namespace Go.Proofs.YtnlmjlfoeodleaaGreatDoor
open Go.RowKit

set_option maxRecDepth 20000 in
set_option maxHeartbeats 4000000 in
theorem lnum (k : Nat) (w : World) : Calls Tryz.prog 24 #[errOf k] w fun e w' => e = .returned (.int .i64 (k : Int)) ∧ w' = w := by
  by_cases h : k = 0
  · subst h
    rw [show errOf 0 = .nilIface from rfl]
    go_enter Tryz.func24, Tryz.ntmps24
    go_wp2
    go_ret
    exact ⟨rfl, rfl⟩
  · rw [errOf_pos h]
    have ha := fun W => assertE (.int .i64 (k : Int)) W
    go_enter Tryz.func24, Tryz.ntmps24
    go_wp2
    go_ret
    exact ⟨rfl, rfl⟩
theorem onQ_few14 (m : B) (fs : List (B × B)) (cl : B) (k L : Int) (h : fs.length ≤ 900) : (onQ m fs cl k L).length ≤ 1000 := by
  have h1 := onQ1_len fs
  have h2 := fwdF_len (onQ1 fs) cl
  have h3 : (onQ2 fs cl k).length = (fwdF (onQ1 fs) cl).length + 1 := by
    unfold onQ2 viaF
    rw [List.length_append]
    rfl
  unfold onQ
  split
  · rw [List.length_append, h3]
    simp only [List.length_cons, List.length_nil]
    omega
  · omega
/-- What the law carries along: what was handed in, and its copy with fields of its own. -/
structure LQs (w W : World) (A X : Array Value) (q : Option Addr) (n d : Nat) (fs : List (B × B)) : Prop where
  low : Below w.heap.size w W
  bx : W.heap[w.heap.size]? = some (.cells A 54 (0, 0))
  xb : W.heap[w.heap.size + 1]? = some (.cells X 54 (0, 0))
  own : OwnF W (w.heap.size + 2) (.slice q n d) fs
theorem LQs.next {w W W' : World} {A X : Array Value} {q : Option Addr} {n d : Nat} {fs : List (B × B)} (h : LQs w W A X q n d fs) (hb : Below W.heap.size W W') : LQs w W' A X q n d fs := ⟨below_out h.low hb, (hb.block _ (lt_of_heap h.bx)).trans h.bx, (hb.block _ (lt_of_heap h.xb)).trans h.xb, h.own.keep hb⟩
theorem one3 {W : World} {g : Nat} {x0 x1 x2 x3 : Value} {T : TypeId} {fr : Nat × Nat} (h : W.heap[g]? = some (.cells #[x0, x1, x2, x3] T fr)) (v : Value) : (W.setCell ⟨g, 3, none⟩ v).heap[g]? = some (.cells #[x0, x1, x2, v] T fr) := by
  simp [World.setCell, Array.getElem?_modify, h]
theorem oth3 {W : World} {g j : Nat} (v : Value) (h : j ≠ g) : (W.setCell ⟨g, 3, none⟩ v).heap[j]? = W.heap[j]? := by
  simp [World.setCell, Array.getElem?_modify, Ne.symm h]
theorem LQs.start {w w1 : World} {x0 x1 x2 x3 : Value} {q : Option Addr} {n d : Nat} {fs : List (B × B)} (hb : Below ((w.alloc (.cells #[x0, x1, x2, x3] 54 (0, 0))).alloc (.cells #[x0, x1, x2, x3] 54 (0, 0))).heap.size ((w.alloc (.cells #[x0, x1, x2, x3] 54 (0, 0))).alloc (.cells #[x0, x1, x2, x3] 54 (0, 0))) w1) (ho : OwnF w1 ((w.alloc (.cells #[x0, x1, x2, x3] 54 (0, 0))).alloc (.cells #[x0, x1, x2, x3] 54 (0, 0))).heap.size (.slice q n d) fs) : w1.heap[w.heap.size + 1]? = some (.cells #[x0, x1, x2, x3] 54 (0, 0)) ∧ LQs w (w1.setCell ⟨w.heap.size + 1, 3, none⟩ (.slice q n d)) #[x0, x1, x2, x3] #[x0, x1, x2, .slice q n d] q n d fs := by
  have h1 := below_new w (.cells #[x0, x1, x2, x3] 54 (0, 0))
  have h2 := below_new (w.alloc (.cells #[x0, x1, x2, x3] 54 (0, 0))) (.cells #[x0, x1, x2, x3] 54 (0, 0))
  have z1 : (w.alloc (.cells #[x0, x1, x2, x3] 54 (0, 0))).heap.size = w.heap.size + 1 := by simp
  have z2 : ((w.alloc (.cells #[x0, x1, x2, x3] 54 (0, 0))).alloc (.cells #[x0, x1, x2, x3] 54 (0, 0))).heap.size = w.heap.size + 2 := by simp
  have e1 : w1.heap[w.heap.size + 1]? = some (.cells #[x0, x1, x2, x3] 54 (0, 0)) := by
    rw [hb.block _ (by rw [z2]; omega)]
    have h9 := heap_alloc_new (w.alloc (.cells #[x0, x1, x2, x3] 54 (0, 0))) (.cells #[x0, x1, x2, x3] 54 (0, 0))
    rw [z1] at h9
    exact h9
  have e0 : w1.heap[w.heap.size]? = some (.cells #[x0, x1, x2, x3] 54 (0, 0)) := by
    rw [hb.block _ (by rw [z2]; omega), h2.block _ (by rw [z1]; omega)]
    exact heap_alloc_new w _
  refine ⟨e1, Below.setCell (below_out (below_out h1 h2) hb) (Nat.le_succ _) _, ?_, one3 e1 _, ?_⟩
  · rw [oth3 _ (by omega)]
    exact e0
  · rw [z2] at ho
    refine ⟨ho.1, ?_⟩
    rcases ho.2 with h' | ⟨g, cap, cur, a1, a2, a3, a4⟩
    · exact .inl h'
    · exact .inr ⟨g, cap, cur, a1, a2, by rw [oth3 _ (by omega)]; exact a3, a4⟩
set_option maxRecDepth 20000 in
set_option maxHeartbeats 4000000 in
theorem hreqs_few (m t : ByteArray) (k L : Int) (p : Option Addr) (n c : Nat) (cl : ByteArray) (w : World) (hE : EnvP w) (hmx : ∃ m : Int, w.cell? ⟨2, 0, none⟩ = some (.int .i64 m)) (hnn : 500 < n) :
    Calls Tryz.prog 4 #[.agg #[.string m, .string t, .int .i64 k, .slice p n c], .string cl, .int .i64 L] w fun e w' => e = .returned (.bool true) ∧ Below w.heap.size w w' := by
  have hb0 := below_new w (.cells #[.string m, .string t, .int .i64 k, .slice p n c] 54 (0, 0))
  have HB0 := hid hb0
  have HWk := hid (works14 _ (hE.next hb0) (hmx.elim fun m h => ⟨m, cell_keep hb0 h⟩))
  have h5 : (n : Int) > 500 := by omega
  clear hb0 hE hmx
  go_enter Tryz.func4, Tryz.ntmps4
  go_wp2_with (go_at_call 19; (with_reducible refine HWk.out.mono ?_); rintro e w1 ⟨rfl, hb⟩; have HB1 := hid (below_out HB0.out hb); clear hb HWk)
  go_ret
  exact ⟨rfl, HB1.out⟩
set_option maxRecDepth 20000 in
set_option maxHeartbeats 32000000 in
theorem hreqs (m t : B) (k L : Int) (fs : List (B × B)) (p : Option Addr) (n c : Nat) (hn : fs.length = n) (cl : B) (w : World) (hF : FAt w p fs) (hsz : szN fs) (hm : m.length ≤ 1048576) (ht : t.length ≤ 1048576) (hcl : cl.length ≤ 1048576) (hL0 : -9223372036854775808 ≤ L) (hL1 : L ≤ 9223372036854775807) (hF1z : szC 1048576 (onQ m fs cl k L)) (hE : EnvP w) (hmx : ∃ m : Int, w.cell? ⟨2, 0, none⟩ = some (.int .i64 m)) (hnn : n ≤ 500) :
    Calls Tryz.prog 4 #[.agg #[.string (str m), .string (str t), .int .i64 k, .slice p n c], .string (str cl), .int .i64 L] w fun e w' => e = .returned (.bool true) ∧ Below w.heap.size w w' := by
  have HMx := hid (fun (W : World) (hb : Below w.heap.size w W) => show ∃ m : Int, W.cell? ⟨2, 0, none⟩ = some (.int .i64 m) from hmx.elim fun m h => ⟨m, cell_keep hb h⟩)
  have HTw := hid (show ∀ W : World, Below w.heap.size w W → _ from fun W hb => twin14 fs p n c hn W (hF.next hb) (by omega))
  have HRq1 := hid (fun (W : World) (q : Option Addr) (d : Nat) (hb : Below w.heap.size w W) (h : FAt W q fs) => preq m t k fs q n d hn cl L W h hsz (by omega) hm ht hcl hL0 hL1 (hE.next hb) (HMx.out W hb))
  have HRd1 := hid (fun (W : World) (hb : Below w.heap.size w W) => dreq m t k fs p n c hn cl L W (hF.next hb) hsz (by omega) hm ht hcl hL0 hL1 hF1z)
  have HSm := hid (fun (W : World) (X : List (B × B)) (p p' : Option Addr) (s c c' : Nat) (hs : X.length = s) (h : FAt W p X) (h' : FAt W p' X) (hz : s ≤ 1000) => fields14 X p p' s c c' hs W h h' (Nat.le_trans hz (by decide)))
  have HWk := hid (fun (W : World) (hb : Below w.heap.size w W) => works14 W (hE.next hb) (HMx.out W hb))
  have HF0 := hid hF
  have HNn := hid hn
  have hlF : (onQ m fs cl k L).length ≤ 1000 := onQ_few14 m fs cl k L (by omega)
  unfold QAns at HRq1
  unfold DAns at HRd1
  obtain ⟨F, hFF⟩ : ∃ F, onQ m fs cl k L = F := ⟨_, rfl⟩
  rw [hFF] at HRq1 HRd1 hlF
  obtain ⟨s, hs⟩ : ∃ s, F.length = s := ⟨_, rfl⟩
  have HLs := hid hs
  rw [hs] at HRq1 HRd1 hlF
  obtain ⟨E, hEE⟩ : ∃ E, greatE s (reqE m t 1 F) = E := ⟨_, rfl⟩
  rw [hEE] at HRq1 HRd1
  obtain ⟨M, hM⟩ : ∃ M, str m = M := ⟨_, rfl⟩
  obtain ⟨T, hT⟩ : ∃ T, str t = T := ⟨_, rfl⟩
  obtain ⟨CC, hCC⟩ : ∃ C, str cl = C := ⟨_, rfl⟩
  rw [hM, hT, hCC] at HRq1 HRd1
  rw [hM, hT, hCC]
  have HB0 := hid (below_out (below_new w (.cells #[.string M, .string T, .int .i64 k, .slice p n c] 54 (0, 0))) (below_new (w.alloc (.cells #[.string M, .string T, .int .i64 k, .slice p n c] 54 (0, 0))) (.cells #[.string M, .string T, .int .i64 k, .slice p n c] 54 (0, 0))))
  have HY0 := hid (cells4O (heap_alloc_new w (.cells #[.string M, .string T, .int .i64 k, .slice p n c] 54 (0, 0))))
  have HY1 := hid (cells4O (((below_new (w.alloc (.cells #[.string M, .string T, .int .i64 k, .slice p n c] 54 (0, 0))) (.cells #[.string M, .string T, .int .i64 k, .slice p n c] 54 (0, 0))).block _ (by simp)).trans (heap_alloc_new w (.cells #[.string M, .string T, .int .i64 k, .slice p n c] 54 (0, 0)))))
  have h5 : ¬ (n : Int) > 500 := by omega
  clear hF hsz hn hmx hE hm ht hcl hL0 hL1 hF1z hFF hs hEE hM hT hCC HMx
  by_cases hE0 : E = 0
  · subst hE0
    have HRq := hid (fun (W : World) (q : Option Addr) (d : Nat) (hb : Below w.heap.size w W) (h : FAt W q fs) => (HRq1.out W q d hb h).mono (R' := fun e w' => ∃ g, e = .returned (.tuple #[.agg #[.string M, .string T, .int .i64 1, .slice (some ⟨g, 0, none⟩) s s], .nilIface]) ∧ FAt w' (some ⟨g, 0, none⟩) F ∧ Below W.heap.size W w') (by
      rintro e w' (⟨h1, _⟩ | ⟨_, g, h2, _, h3, h4⟩)
      · exact absurd rfl h1
      · exact ⟨g, h2, h3.fat, h4⟩))
    have HRd := hid (fun (W : World) (hb : Below w.heap.size w W) => (HRd1.out W hb).mono (R' := fun e w' => ∃ q d, e = .returned (.tuple #[.agg #[.string M, .string T, .int .i64 1, .slice q s d], .int .i64 0]) ∧ FAt w' q F ∧ Below W.heap.size W w') (by
      rintro e w' (⟨h1, _⟩ | ⟨_, q, d, h2, h3, h4⟩)
      · exact absurd rfl h1
      · exact ⟨q, d, h2, h3, h4⟩))
    have HNu := hid (show ∀ W : World, Calls Tryz.prog 24 #[.nilIface] W fun e w' => e = .returned (.int .i64 0) ∧ w' = W from fun W => lnum 0 W)
    clear HRq1 HRd1
    go_enter Tryz.func4, Tryz.ntmps4
    obtain ⟨y0, y1, y2, y3, _⟩ := HY0.out
    obtain ⟨v0, v1, v2, v3, _⟩ := HY1.out
    go_wp2_with (first | (go_at_call 20; (with_reducible refine (HTw.out _ HB0.out).mono ?_); rintro e w1 ⟨qx, dx, rfl, ho, hb⟩; obtain ⟨he, hq⟩ := LQs.start hb ho; have HQ1 := hid hq; obtain ⟨z0, z1, z2, z3, zz⟩ := cells4O he; have zz3 := zz 3; obtain ⟨c0, c1, c2, c3, _⟩ := cells4O HQ1.out.xb; clear hb ho HTw he hq zz y0 y1 y2 y3 v0 v1 v2 v3) | (go_at_call 21; (with_reducible refine (HRq.out _ _ _ HQ1.out.low HQ1.out.own.fat).mono ?_); rintro e w2 ⟨g, rfl, hf, hb⟩; have HQ2 := hid ((HQ1.out.next hb).next (below_new w2 (.cells #[.string M, .string T, .int .i64 1, .slice (some ⟨g, 0, none⟩) s s] 54 (0, 0)))); have HA2 := hid (hf.next (below_new w2 (.cells #[.string M, .string T, .int .i64 1, .slice (some ⟨g, 0, none⟩) s s] 54 (0, 0)))); have HX2 := hid (heap_alloc_new w2 (.cells #[.string M, .string T, .int .i64 1, .slice (some ⟨g, 0, none⟩) s s] 54 (0, 0))); obtain ⟨x0, x1, x2, x3, _⟩ := cells4O HQ2.out.bx; clear hb hf HRq z0 z1 z2 z3 zz3 c0 c1 c2 c3) | (go_at_call 22; (with_reducible refine (HRd.out _ HQ2.out.low).mono ?_); rintro e w3 ⟨qb, db, rfl, hf, hb⟩; have hn3 := below_new w3 (.cells #[.string M, .string T, .int .i64 1, .slice qb s db] 54 (0, 0)); have HQ3 := hid ((HQ2.out.next hb).next hn3); have HA3 := hid ((HA2.out.next hb).next hn3); have HB3 := hid (hf.next hn3); have hx3 := (hn3.block _ (lt_of_heap ((hb.block _ (lt_of_heap HX2.out)).trans HX2.out))).trans ((hb.block _ (lt_of_heap HX2.out)).trans HX2.out); have HX3 := hid hx3; have HY3 := hid (heap_alloc_new w3 (.cells #[.string M, .string T, .int .i64 1, .slice qb s db] 54 (0, 0))); obtain ⟨a0, a1, a2, a3, _⟩ := cells4O hx3; obtain ⟨e0, e1, e2, e3, _⟩ := cells4O HY3.out; obtain ⟨f0, f1, f2, f3, _⟩ := cells4O HQ3.out.bx; obtain ⟨g0, g1, g2, g3, _⟩ := cells4O HQ3.out.xb; clear hb hf HRd hx3 hn3 x0 x1 x2 x3 HQ2 HA2) | (go_at_call 23; (with_reducible refine (HSm.out _ F _ _ _ _ _ HLs.out HA3.out HB3.out hlF).mono ?_); rintro e w4 ⟨rfl, hb⟩; have HQ4 := hid (HQ3.out.next hb); obtain ⟨f0, f1, f2, f3, _⟩ := cells4O HQ4.out.bx; obtain ⟨g0, g1, g2, g3, _⟩ := cells4O HQ4.out.xb; clear hb HQ3 HA3 HB3) | (go_at_call 24; (with_reducible refine (HNu.out _).mono ?_); rintro e w5 ⟨rfl, hw5⟩; subst w5; clear HNu) | (go_at_call 23; (with_reducible refine (HSm.out _ fs _ _ _ _ _ HNn.out HQ4.out.own.fat (HF0.out.next HQ4.out.low) (by omega)).mono ?_); rintro e w6 ⟨rfl, hb⟩; have HB6 := hid (below_out HQ4.out.low hb); clear hb HSm HQ4) | (go_at_call 19; (with_reducible refine (HWk.out _ HB6.out).mono ?_); rintro e w7 ⟨rfl, hb⟩; have HB7 := hid (below_out HB6.out hb); clear hb HWk))
    go_ret
    exact ⟨rfl, HB7.out⟩
  · have HRq := hid (fun (W : World) (q : Option Addr) (d : Nat) (hb : Below w.heap.size w W) (h : FAt W q fs) => (HRq1.out W q d hb h).mono (R' := fun e w' => e = .returned (.tuple #[.agg #[.string ⟨#[]⟩, .string ⟨#[]⟩, .int .i64 0, .slice none 0 0], .iface 72 (.int .i64 (E : Int))]) ∧ Below W.heap.size W w') (by
      rintro e w' (⟨_, h2⟩ | ⟨h1, _⟩)
      · exact h2
      · exact absurd h1 hE0))
    have HRd := hid (fun (W : World) (hb : Below w.heap.size w W) => (HRd1.out W hb).mono (R' := fun e w' => e = .returned (.tuple #[.agg #[.string ⟨#[]⟩, .string ⟨#[]⟩, .int .i64 0, .slice none 0 0], .int .i64 (E : Int)]) ∧ Below W.heap.size W w') (by
      rintro e w' (⟨_, h2⟩ | ⟨h1, _⟩)
      · exact h2
      · exact absurd h1 hE0))
    have HNu := hid (show ∀ W : World, Calls Tryz.prog 24 #[.iface 72 (.int .i64 (E : Int))] W fun e w' => e = .returned (.int .i64 (E : Int)) ∧ w' = W from fun W => by
      have h := lnum E W
      rw [errOf_pos hE0] at h
      exact h)
    have HF00 := hid (fun W : World => show FAt W none [] from fun j f h => by simp at h)
    clear HRq1 HRd1 hE0
    go_enter Tryz.func4, Tryz.ntmps4
    obtain ⟨y0, y1, y2, y3, _⟩ := HY0.out
    obtain ⟨v0, v1, v2, v3, _⟩ := HY1.out
    go_wp2_with (first | (go_at_call 20; (with_reducible refine (HTw.out _ HB0.out).mono ?_); rintro e w1 ⟨qx, dx, rfl, ho, hb⟩; obtain ⟨he, hq⟩ := LQs.start hb ho; have HQ1 := hid hq; obtain ⟨z0, z1, z2, z3, zz⟩ := cells4O he; have zz3 := zz 3; obtain ⟨c0, c1, c2, c3, _⟩ := cells4O HQ1.out.xb; clear hb ho HTw he hq zz y0 y1 y2 y3 v0 v1 v2 v3) | (go_at_call 21; (with_reducible refine (HRq.out _ _ _ HQ1.out.low HQ1.out.own.fat).mono ?_); rintro e w2 ⟨rfl, hb⟩; have HQ2 := hid ((HQ1.out.next hb).next (below_new w2 (.cells #[.string ⟨#[]⟩, .string ⟨#[]⟩, .int .i64 0, .slice none 0 0] 54 (0, 0)))); have HX2 := hid (heap_alloc_new w2 (.cells #[.string ⟨#[]⟩, .string ⟨#[]⟩, .int .i64 0, .slice none 0 0] 54 (0, 0))); obtain ⟨x0, x1, x2, x3, _⟩ := cells4O HQ2.out.bx; clear hb HRq z0 z1 z2 z3 zz3 c0 c1 c2 c3) | (go_at_call 22; (with_reducible refine (HRd.out _ HQ2.out.low).mono ?_); rintro e w3 ⟨rfl, hb⟩; have hn3 := below_new w3 (.cells #[.string ⟨#[]⟩, .string ⟨#[]⟩, .int .i64 0, .slice none 0 0] 54 (0, 0)); have HQ3 := hid ((HQ2.out.next hb).next hn3); have hx3 := (hn3.block _ (lt_of_heap ((hb.block _ (lt_of_heap HX2.out)).trans HX2.out))).trans ((hb.block _ (lt_of_heap HX2.out)).trans HX2.out); have HX3 := hid hx3; have HY3 := hid (heap_alloc_new w3 (.cells #[.string ⟨#[]⟩, .string ⟨#[]⟩, .int .i64 0, .slice none 0 0] 54 (0, 0))); obtain ⟨a0, a1, a2, a3, _⟩ := cells4O hx3; obtain ⟨e0, e1, e2, e3, _⟩ := cells4O HY3.out; obtain ⟨f0, f1, f2, f3, _⟩ := cells4O HQ3.out.bx; obtain ⟨g0, g1, g2, g3, _⟩ := cells4O HQ3.out.xb; clear hb HRd hx3 hn3 x0 x1 x2 x3 HQ2) | (go_at_call 23; (with_reducible refine (HSm.out _ [] none none 0 0 0 rfl (HF00.out _) (HF00.out _) (Nat.zero_le _)).mono ?_); rintro e w4 ⟨rfl, hb⟩; have HQ4 := hid (HQ3.out.next hb); obtain ⟨f0, f1, f2, f3, _⟩ := cells4O HQ4.out.bx; obtain ⟨g0, g1, g2, g3, _⟩ := cells4O HQ4.out.xb; clear hb HQ3) | (go_at_call 24; (with_reducible refine (HNu.out _).mono ?_); rintro e w5 ⟨rfl, hw5⟩; subst w5; clear HNu) | (go_at_call 23; (with_reducible refine (HSm.out _ fs _ _ _ _ _ HNn.out HQ4.out.own.fat (HF0.out.next HQ4.out.low) (by omega)).mono ?_); rintro e w6 ⟨rfl, hb⟩; have HB6 := hid (below_out HQ4.out.low hb); clear hb HSm HQ4) | (go_at_call 19; (with_reducible refine (HWk.out _ HB6.out).mono ?_); rintro e w7 ⟨rfl, hb⟩; have HB7 := hid (below_out HB6.out hb); clear hb HWk))
    go_ret
    exact ⟨rfl, HB7.out⟩
end Go.Proofs.YtnlmjlfoeodleaaGreatDoor
/- How great the fields are that go on. -/
namespace Go.Proofs.YtnlmjlfoeodleaaGreatDoor
open Go.RowKit

theorem wtF_mem : ∀ {fs : List (B × B)} {f : B × B}, f ∈ fs → f.1.length + f.2.length + 1 ≤ wtF fs
  | [], _, h => by cases h
  | x :: l, f, h => by
    unfold wtF
    rcases List.mem_cons.1 h with h1 | h1
    · subst h1; omega
    · have := wtF_mem h1; omega
theorem get_len {fs : List (B × B)} : (getB fs (str xfB)).1.size = 0 ∨ (getB fs (str xfB)).1.size + 16 ≤ wtF fs := by
  unfold getB
  split
  · rename_i f hf
    right
    have h1 := wtF_mem (List.mem_of_find?_eq_some hf)
    have h2 := List.find?_some hf
    unfold isF at h2
    rw [same_low] at h2
    have h3 : lowB f.1 = lowB xfB := of_decide_eq_true h2
    have h4 : f.1.length = 15 := by
      have h5 := congrArg List.length h3
      rw [lowB_len, lowB_len] at h5
      rw [h5]
      rfl
    dsimp only
    rw [str_size]
    omega
  · exact .inl rfl
theorem wtF_filter (P : B × B → Bool) : ∀ fs : List (B × B), wtF (fs.filter P) ≤ wtF fs
  | [] => Nat.le_refl _
  | x :: l => by
    have ih := wtF_filter P l
    by_cases h : P x = true
    · rw [List.filter_cons_of_pos h]
      show x.1.length + x.2.length + 1 + wtF (l.filter P) ≤ x.1.length + x.2.length + 1 + wtF l
      omega
    · rw [List.filter_cons_of_neg h]
      show wtF (l.filter P) ≤ x.1.length + x.2.length + 1 + wtF l
      omega
theorem onQ1_wt (fs : List (B × B)) : wtF (onQ1 fs) ≤ wtF fs := by
  unfold onQ1 framF frmA bareF delB stripF
  rw [if_neg (by decide), if_neg (by decide), List.append_nil]
  exact Nat.le_trans (wtF_filter _ _) (Nat.le_trans (wtF_filter _ _) (Nat.le_trans (wtF_filter _ _) (wtF_filter _ _)))
theorem onQ_sz1 {m : B} {fs : List (B × B)} {cl : B} {k L : Int} (h : wtF fs + cl.length ≤ 1048576) (hL0 : -9223372036854775808 ≤ L) (hL1 : L ≤ 9223372036854775807) : szC 1048576 (onQ m fs cl k L) := by
  have hsz : szN fs := fun f hf => by have := wtF_mem hf; omega
  have h1 : szC 1048576 (onQ1 fs) := fun f hf => hsz f (onQ1_mem hf)
  have hv : (fwdV (onQ1 fs) cl).length ≤ 1048576 := by
    unfold fwdV
    split
    · omega
    · rename_i hne
      have h8 : (getB (onQ1 fs) (str xfB)).1.data.toList.length = (getB (onQ1 fs) (str xfB)).1.size := Array.length_toList
      have hw := onQ1_wt fs
      rcases get_len (fs := onQ1 fs) with h9 | h9
      · exact absurd (List.eq_nil_of_length_eq_zero (h8.trans h9)) hne
      · simp only [List.length_append, h8, List.length_cons, List.length_nil]
        omega
  have h2 : szC 1048576 (fwdF (onQ1 fs) cl) := fun f hf => by
    rcases mem_setB hf with h | h
    · exact h1 f h
    · subst h
      exact ⟨show xfB.length ≤ 1048576 from by decide, hv⟩
  have h3 : szC 1048576 (onQ2 fs cl k) := fun f hf => by
    unfold onQ2 viaF at hf
    rcases List.mem_append.1 hf with h | h
    · exact h2 f h
    · simp at h
      subst h
      exact ⟨show viaN.length ≤ 1048576 from by decide, Nat.le_trans (viaV_len k) (by decide)⟩
  intro f hf
  unfold onQ at hf
  split at hf
  · rcases List.mem_append.1 hf with h | h
    · exact h3 f h
    · simp at h
      subst h
      refine ⟨show clB.length ≤ 1048576 from by decide, ?_⟩
      rcases itoa_few L with h5 | h5
      · exact Nat.le_trans h5 (by decide)
      · omega
  · exact h3 f hf
end Go.Proofs.YtnlmjlfoeodleaaGreatDoor
