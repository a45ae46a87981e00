/- The document's reader of bodies: a fresh one. -/
import Derived.Test.YtnlmjlfoeodleaaGreatDoorDBNewP
namespace Go.Proofs.YtnlmjlfoeodleaaGreatDoor
open Go.RowKit

set_option maxRecDepth 20000 in
set_option maxHeartbeats 8000000 in
theorem dnew_2c (N m : Int) (w : World) (J : Int) (hJ : J = m) (hok : okFr 2 N = true) (_hm : ¬ m < -1) (hm1 : ¬ m < 0) (hm2 : decide ((1099511627776 : Int) < m) = false) : Calls Tryz.prog 7 #[.agg #[.int .i64 2, .int .i64 N], .int .i64 m] w fun e w' => e = .returned (.tuple #[.agg #[.int .i64 2, .int .i64 N, .int .i64 m, .int .i64 0, .bool false, .int .i64 0, .int .i64 J, .int .i64 0, .int .i64 0, .int .i64 0, .int .i64 0, .int .i64 0, .int .i64 0, .slice none 0 0, .int .i64 0, .slice none 0 0], .int .i64 0]) ∧ Below w.heap.size w w' := by
  have HV := hid (show ∀ W : World, _ from fun W => valid_any 2 N W)
  obtain ⟨h01, h02, h03⟩ := b_two w (frmO 2 N) zzB
  have HF0 := hid h01
  have HA0 := hid h02
  have HB0 := hid h03
  unfold zzB at HF0 HA0 HB0
  clear h01 h02 h03
  rw [hok] at HV
  obtain ⟨j, hj⟩ : ∃ j : Nat, m = (j : Int) := ⟨m.toNat, by omega⟩
  have hjl : j ≤ 1099511627776 := by have := of_decide_eq_false hm2; omega
  have HNd := hid (show ∀ W : World, _ from fun W => newD_ok j W hjl)
  unfold dkC newD at HNd
  dsimp only at HNd
  push_cast at HNd
  rw [← hj] at HNd
  clear hj hjl
  subst J
  clear hok
  go_enter Tryz.func7, Tryz.ntmps7
  go_wp2_with (first | (go_at_call 29; (with_reducible refine (HV.out _).mono ?_); rintro e w1 ⟨rfl, hb⟩; have HB1 := hid (below_out HB0.out hb); have HF1 := hid (blk_nextD HF0.out hb); have HA1 := hid (blk_nextD HA0.out hb); obtain ⟨y0, y1, _, _⟩ := cells2 (blk_nextD HF0.out hb); have hlt1 : w.heap.size < w1.heap.size := lt_of_heap HF1.out; clear hb HV) | (go_at_call 30; (with_reducible refine (HNd.out _).mono ?_); rintro e w2 ⟨rfl, hb⟩; have HB2 := hid (below_out (below_out HB1.out (below_new w1 (.cells #[.int .i64 2, .int .i64 N, .int .i64 m, .int .i64 0, .bool false, .int .i64 0, .int .i64 0, .int .i64 0, .int .i64 0, .int .i64 0, .int .i64 0, .int .i64 0, .int .i64 0, .slice none 0 0, .int .i64 0, .slice none 0 0] 37 (0, 0)))) hb); have HT2 := hid ((hb.block _ (lt_of_heap (heap_alloc_new w1 (.cells #[.int .i64 2, .int .i64 N, .int .i64 m, .int .i64 0, .bool false, .int .i64 0, .int .i64 0, .int .i64 0, .int .i64 0, .int .i64 0, .int .i64 0, .int .i64 0, .int .i64 0, .slice none 0 0, .int .i64 0, .slice none 0 0] 37 (0, 0))))).trans (heap_alloc_new w1 (.cells #[.int .i64 2, .int .i64 N, .int .i64 m, .int .i64 0, .bool false, .int .i64 0, .int .i64 0, .int .i64 0, .int .i64 0, .int .i64 0, .int .i64 0, .int .i64 0, .int .i64 0, .slice none 0 0, .int .i64 0, .slice none 0 0] 37 (0, 0)))); have HA2 := hid ((hb.block _ (lt_of_heap (((below_new w1 (.cells #[.int .i64 2, .int .i64 N, .int .i64 m, .int .i64 0, .bool false, .int .i64 0, .int .i64 0, .int .i64 0, .int .i64 0, .int .i64 0, .int .i64 0, .int .i64 0, .int .i64 0, .slice none 0 0, .int .i64 0, .slice none 0 0] 37 (0, 0))).block _ (lt_of_heap HA1.out)).trans HA1.out))).trans (((below_new w1 (.cells #[.int .i64 2, .int .i64 N, .int .i64 m, .int .i64 0, .bool false, .int .i64 0, .int .i64 0, .int .i64 0, .int .i64 0, .int .i64 0, .int .i64 0, .int .i64 0, .int .i64 0, .slice none 0 0, .int .i64 0, .slice none 0 0] 37 (0, 0))).block _ (lt_of_heap HA1.out)).trans HA1.out)); have HG := hid HB1.out.size; have HLt := hid (lt_of_heap HA1.out); clear hb HNd) | (refine wpList_store_dk6 rfl (.tmp 64) (.tmp 62) rfl w1.heap.size (by go_simp) m 0 0 0 0 0 0 0 none none 0 0 0 0 (by go_simp) HT2.out ?_; intro V hV hO hZ; obtain ⟨q0, q1, q2, q3, q4, q5, q6, q7, q8, q9, q10, q11, q12, q13, q14, q15, _⟩ := cells16 hV; have HA3 := hid ((hO.block _ (lt_of_heap HA2.out) (fun e => by have e2 : w.heap.size + 1 = w1.heap.size := e; have := HLt.out; omega)).trans HA2.out); have HB3 := hid (show Below w.heap.size w V from HB2.out.trans (hO.below (fun k hk => by have e : k = w1.heap.size := hk; have := HG.out; omega) HB2.out.size)); clear hV hO hZ HT2 HA2) | (refine wpList_store_bd rfl (.tmp 4) (.tmp 65) rfl (w.heap.size + 1) (by go_simp) 2 N m 0 false 0 m 0 0 0 0 0 0 0 none none 0 0 0 0 (by go_simp) HA3.out ?_; intro U hU hO hZ; have HU := hid hU; have HBU := hid (show Below w.heap.size w U from HB3.out.trans (hO.below (fun k hk => by have e : k = w.heap.size + 1 := hk; omega) HB3.out.size)); clear hU hO hZ))
  (try simp only [Exit.inBlock, Exit.then])
  (try go_wp2)
  refine bodyPost_ret (results_bd2 rfl _ _ _ 37 _ (0, 0) rfl HU.out rfl) rfl ?_
  exact ⟨rfl, HBU.out⟩
end Go.Proofs.YtnlmjlfoeodleaaGreatDoor
