/- The law of reading: the program's parts of every target are the document's. -/
import Derived.Test.YtbdbmlklijmefaaDoorRParse2
namespace Go.Proofs.YtbdbmlklijmefaaDoor
open Go.RowKit

set_option maxRecDepth 20000 in
set_option maxHeartbeats 8000000 in
theorem targetReads_any (s : B) (hs : s.length ≤ 1048576) (w : World) (hE : Env w) : Calls Tryd.prog 3 #[.string (str s)] w fun e w' => e = .returned (.bool true) ∧ Below w.heap.size w w' := by
  have HE := hid hE
  have HP1 := hid (pparse_any s (by omega))
  have HP2 := hid (rparse_any s (by omega))
  obtain ⟨t, k, hpt⟩ : ∃ t k, parseT s = (t, k) := ⟨_, _, rfl⟩
  rw [hpt] at HP1 HP2
  dsimp only at HP1 HP2
  obtain ⟨tf, c1, c2, c3, ths, ha⟩ := agg_some t
  rw [ha] at HP1 HP2
  have HK1 := hid (errnum_any k)
  obtain ⟨E1, hE1⟩ : ∃ E1, errOf k = E1 := ⟨_, rfl⟩
  rw [hE1] at HP1 HK1
  have HWk := hid works_any
  obtain ⟨S, hS⟩ : ∃ S, str s = S := ⟨_, rfl⟩
  rw [hS] at HP1 HP2 ⊢
  clear hs hE hpt ha hE1 hS
  go_enter Tryd.func3, Tryd.ntmps3
  go_wp2_with (first
    | (go_at_call 9; (with_reducible refine (HP1.out _ HE.out).mono ?_); rintro e w1 ⟨rfl, hb⟩; have HB1 := hid (below_out hb (below_new w1 (.cells #[.int .i64 tf, .string c1, .string c2, .string c3, .bool ths] 23 (0, 0)))); clear hb)
    | (go_at_call 10; (with_reducible refine (HP2.out _).mono ?_); rintro e w2 ⟨rfl, hb⟩; have HB2 := hid (below_out (below_out HB1.out hb) (below_new w2 (.cells #[.int .i64 tf, .string c1, .string c2, .string c3, .bool ths] 28 (0, 0)))); have HE2 := hid (HE.out.below HB2.out); obtain ⟨x0, x1, x2, x3, x4, xz⟩ := five ((hb.block _ (lt_of_heap (heap_alloc_new w1 (.cells #[.int .i64 tf, .string c1, .string c2, .string c3, .bool ths] 23 (0, 0))))).trans (heap_alloc_new w1 (.cells #[.int .i64 tf, .string c1, .string c2, .string c3, .bool ths] 23 (0, 0)))); have hlt : w1.heap.size < w2.heap.size := (by have h9 := hb.size; simp at h9; omega); have hne1 : ¬ w1.heap.size = w2.heap.size := (by omega); clear hb xz)
    | (go_at_call 11; (with_reducible refine (HK1.out _).mono ?_); rintro e w5 ⟨rfl, hw5⟩; subst w5)
    | (go_at_call 12; (with_reducible refine (HWk.out _ HE2.out).mono ?_); rintro e w8 ⟨rfl, hb⟩; have HB8 := hid (below_out HB2.out hb); clear hb))
  go_ret
  exact ⟨rfl, HB8.out⟩
end Go.Proofs.YtbdbmlklijmefaaDoor
