/- The law of messages. -/
import Derived.Test.YthakldcfpndabaaDoorFSure
namespace Go.Proofs.YthakldcfpndabaaDoor
open Go.RowKit

structure MemM (w W : World) (A C : Array Value) : Prop where
  low : Below w.heap.size w W
  a : W.heap[w.heap.size]? = some (.cells A 52 (0, 0))
  c : W.heap[w.heap.size + 1]? = some (.cells C 54 (0, 0))
theorem MemM.next {w W W' : World} {A C : Array Value} (h : MemM w W A C) (hb : Below W.heap.size W W') : MemM w W' A C :=
  ⟨below_out h.low hb, (hb.block _ (lt_of_heap h.a)).trans h.a, (hb.block _ (lt_of_heap h.c)).trans h.c⟩
theorem MemM.new (w : World) (A C : Array Value) : MemM w ((w.alloc (.cells A 52 (0, 0))).alloc (.cells C 54 (0, 0))) A C := by
  refine ⟨below_out (below_new w _) (below_new _ _), new_first _ _ _, ?_⟩
  have h := heap_alloc_new (w.alloc (.cells A 52 (0, 0))) (.cells C 54 (0, 0))
  rw [show (w.alloc (.cells A 52 (0, 0))).heap.size = w.heap.size + 1 from by simp] at h
  exact h
theorem blk_next {W W' : World} {g : Nat} {o : Obj} (h : W.heap[g]? = some o) (hb : Below W.heap.size W W') : W'.heap[g]? = some o := (hb.block _ (lt_of_heap h)).trans h
/-- A framing in a box. -/
abbrev frmO (K N : Int) : Obj := .cells #[.int .i64 K, .int .i64 N] 34 (0, 0)
set_option maxRecDepth 20000 in
set_option maxHeartbeats 8000000 in
theorem msgs_walk (M T : ByteArray) (k : Int) (fs : List (B × B)) (p : Option Addr) (n c : Nat) (hn : fs.length = n) (s : Int) (U : ByteArray) (k' : Int) (fs' : List (B × B)) (p' : Option Addr) (n' c' : Nat) (hn' : fs'.length = n') (w : World) (hF : FAt w p fs) (hF' : FAt w p' fs') (hsz : szB fs) (hsz' : szB fs') (hnn : n ≤ 1048576) (hnn' : n' ≤ 1048576) (hmx : MxL w) (hE : EnvE w) :
    Calls Tryd.prog 5 #[.agg #[.string M, .string T, .int .i64 k, .slice p n c], .agg #[.int .i64 s, .string U, .int .i64 k', .slice p' n' c']] w fun e w' => e = .returned (.bool true) ∧ Below w.heap.size w w' := by
  have HQ := hid (show ∀ W : World, Below w.heap.size w W → _ from fun W hb => prequest M T k fs p n c hn W (hF.next hb) hsz hnn (hmx.next hb))
  have HD := hid (show ∀ W : World, Below w.heap.size w W → _ from fun W hb => drequest M T k fs p n c hn W (hF.next hb) hsz hnn)
  have HP := hid (show ∀ W : World, Below w.heap.size w W → _ from fun W hb => presponse M s U k' fs' p' n' c' hn' W (hF'.next hb) hsz' hnn' (hmx.next hb))
  have HR := hid (show ∀ W : World, Below w.heap.size w W → _ from fun W hb => dresponse M s U k' fs' p' n' c' hn' W (hF'.next hb) hsz' hnn')
  have HN1 := hid (show ∀ W : World, Below w.heap.size w W → _ from fun W hb => num_any (frmF k fs 0).2 W (hE.next hb))
  have HN2 := hid (show ∀ W : World, Below w.heap.size w W → _ from fun W hb => num_any (rspF M s k' fs').2 W (hE.next hb))
  have HSu := hid (show ∀ W : World, Below w.heap.size w W → _ from fun W hb => sure11_any W (hmx.next hb))
  obtain ⟨⟨⟨K1, N1⟩, E1⟩, hE1⟩ : ∃ x, frmF k fs 0 = x := ⟨_, rfl⟩
  obtain ⟨⟨⟨K2, N2⟩, E2⟩, hE2⟩ : ∃ x, rspF M s k' fs' = x := ⟨_, rfl⟩
  rw [hE1] at HQ HD HN1
  rw [hE2] at HP HR HN2
  dsimp only [frmV] at HQ HD HN1 HP HR HN2
  obtain ⟨V1, hV1⟩ : ∃ V1 : Value, errOf E1 = V1 := ⟨_, rfl⟩
  obtain ⟨V2, hV2⟩ : ∃ V2 : Value, errOf E2 = V2 := ⟨_, rfl⟩
  rw [hV1] at HQ HN1
  rw [hV2] at HP HN2
  have HM0 := hid (MemM.new w #[.string M, .string T, .int .i64 k, .slice p n c] #[.int .i64 s, .string U, .int .i64 k', .slice p' n' c'])
  clear hE1 hE2 hV1 hV2 hF hF' hsz hsz' hn hn' hmx hE
  go_enter Tryd.func5, Tryd.ntmps5
  go_wp2_with (first | (go_at_call 27; (with_reducible refine (HQ.out _ HM0.out.low).mono ?_); rintro e w1 ⟨rfl, hb⟩; have HM1 := hid ((HM0.out.next hb).next (below_new w1 (frmO K1 N1))); have HA1 := hid (heap_alloc_new w1 (frmO K1 N1)); obtain ⟨x0, x1, x2, x3⟩ := cells4F HM1.out.a; clear hb HQ) | (go_at_call 28; (with_reducible refine (HD.out _ HM1.out.low).mono ?_); rintro e w2 ⟨rfl, hb⟩; have hb2 := below_new w2 (frmO K1 N1); have HM2 := hid ((HM1.out.next hb).next hb2); have HA2 := hid (blk_next (blk_next HA1.out hb) hb2); have HB2 := hid (heap_alloc_new w2 (frmO K1 N1)); clear x0 x1 x2 x3; obtain ⟨x0, x1, x2, x3⟩ := cells4F HM2.out.a; obtain ⟨u0, u1, u2, u3⟩ := cells4F HM2.out.c; clear hb hb2 HD) | (go_at_call 29; (with_reducible refine (HP.out _ HM2.out.low).mono ?_); rintro e w3 ⟨rfl, hb⟩; have hb2 := below_new w3 (frmO K2 N2); have HM3 := hid ((HM2.out.next hb).next hb2); have HA3 := hid (blk_next (blk_next HA2.out hb) hb2); have HB3 := hid (blk_next (blk_next HB2.out hb) hb2); have HC3 := hid (heap_alloc_new w3 (frmO K2 N2)); clear x0 x1 x2 x3 u0 u1 u2 u3; obtain ⟨x0, x1, x2, x3⟩ := cells4F HM3.out.a; obtain ⟨u0, u1, u2, u3⟩ := cells4F HM3.out.c; clear hb hb2 HP) | (go_at_call 30; (with_reducible refine (HR.out _ HM3.out.low).mono ?_); rintro e w4 ⟨rfl, hb⟩; have hb2 := below_new w4 (frmO K2 N2); have HM4 := hid ((HM3.out.next hb).next hb2); have HA4 := hid (blk_next (blk_next HA3.out hb) hb2); have HB4 := hid (blk_next (blk_next HB3.out hb) hb2); have HC4 := hid (blk_next (blk_next HC3.out hb) hb2); have HD4 := hid (heap_alloc_new w4 (frmO K2 N2)); clear x0 x1 x2 x3 u0 u1 u2 u3; obtain ⟨x0, x1, _, _⟩ := cells2 HA4.out; obtain ⟨u0, u1, _, _⟩ := cells2 HB4.out; clear hb hb2 HR) | (go_at_call 24; (with_reducible refine (HN1.out _ HM4.out.low).mono ?_); rintro e w5 ⟨rfl, hb⟩; have HM5 := hid (HM4.out.next hb); clear x0 x1 u0 u1; obtain ⟨x0, x1, _, _⟩ := cells2 (blk_next HC4.out hb); obtain ⟨u0, u1, _, _⟩ := cells2 (blk_next HD4.out hb); clear hb HN1) | (go_at_call 24; (with_reducible refine (HN2.out _ HM5.out.low).mono ?_); rintro e w6 ⟨rfl, hb⟩; have HM6 := hid (HM5.out.next hb); clear hb HN2) | (go_at_call 26; (with_reducible refine (HSu.out _ HM6.out.low).mono ?_); rintro e w7 ⟨rfl, hb⟩; have HM7 := hid (HM6.out.next hb); clear hb HSu))
  go_ret
  exact ⟨rfl, HM7.out.low⟩
end Go.Proofs.YthakldcfpndabaaDoor
