/- The document's reader of bodies: a fresh one. -/
import Derived.Test.YtnlmjlfoeodleaaGreatDoorDBNewP
namespace Go.Proofs.YtnlmjlfoeodleaaGreatDoor
open Go.RowKit

theorem dk_nil (w : World) {d : DK} (h1 : d.line = []) (h2 : d.tr = []) (h3 : ∀ k, d.gh k → k < w.heap.size) : DkAt w d none 0 none 0 :=
  ⟨fun i y hi => by rw [h1] at hi; simp at hi, by rw [h1]; exact Nat.le_refl _, fun _ => rfl, fun j f hj => by rw [h2] at hj; simp at hj, fun _ => rfl, ⟨(fun a e => by cases e), (fun a e => by cases e), h3⟩⟩
theorem newDK_gh (w : World) (K m : Int) : ∀ k, (newDK K m).gh k → k < w.heap.size := by
  unfold newDK; split <;> exact fun k h => False.elim h
theorem newDK_nil (K m : Int) : (newDK K m).line = [] ∧ (newDK K m).tr = [] := by unfold newDK; split <;> exact ⟨rfl, rfl⟩
def DNew (K N m : Int) (w : World) (e : Ending) (w' : World) : Prop :=
  (newE K N m ≠ 0 ∧ e = .returned (.tuple #[.agg zzB, .int .i64 (newE K N m : Int)]) ∧ Below w.heap.size w w') ∨
  (newE K N m = 0 ∧ e = .returned (.tuple #[.agg (bdV K N m (newX K N m) (newDK K m) (.slice none 0 0) (.slice none 0 0)), .int .i64 0]) ∧ Below w.heap.size w w')
set_option maxRecDepth 20000 in
set_option maxHeartbeats 8000000 in
theorem dnew_a (K N m : Int) (w : World) (hok : okFr K N = false) : Calls Tryz.prog 7 #[.agg #[.int .i64 K, .int .i64 N], .int .i64 m] w fun e w' => e = .returned (.tuple #[.agg zzB, .int .i64 1]) ∧ Below w.heap.size w w' := by
  unfold zzB
  have HV := hid (show ∀ W : World, _ from fun W => valid_any K N W)
  obtain ⟨h01, h02, h03⟩ := b_two w (frmO K N) zzB
  have HF0 := hid h01
  have HA0 := hid h02
  have HB0 := hid h03
  unfold zzB at HF0 HA0 HB0
  clear h01 h02 h03
  rw [hok] at HV
  clear hok
  go_enter Tryz.func7, Tryz.ntmps7
  go_wp2_with (first | (go_at_call 29; (with_reducible refine (HV.out _).mono ?_); rintro e w1 ⟨rfl, hb⟩; have HB1 := hid (below_out HB0.out hb); have HF1 := hid (blk_nextD HF0.out hb); have HA1 := hid (blk_nextD HA0.out hb); obtain ⟨y0, y1, _, _⟩ := cells2 (blk_nextD HF0.out hb); have hlt1 : w.heap.size < w1.heap.size := lt_of_heap HF1.out; clear hb HV) | (refine wpList_store_bd rfl (.tmp 4) (.tmp 16) rfl (w.heap.size + 1) (by go_simp) 0 0 0 0 false 0 0 0 0 0 0 0 0 0 none none 0 0 0 0 (by go_simp) HA1.out ?_; intro U hU hO hZ; have HU := hid hU; have HBU := hid (show Below w.heap.size w U from HB1.out.trans (hO.below (fun k hk => by have e : k = w.heap.size + 1 := hk; omega) HB1.out.size)); clear hU hO hZ))
  (try simp only [Exit.inBlock, Exit.then])
  (try go_wp2)
  refine bodyPost_ret (results_bd2 rfl _ _ _ 37 _ (0, 0) rfl HU.out rfl) rfl ?_
  exact ⟨rfl, HBU.out⟩
set_option maxRecDepth 20000 in
set_option maxHeartbeats 8000000 in
theorem dnew_b (K N m : Int) (w : World) (hok : okFr K N = true) (hm : m < -1) : Calls Tryz.prog 7 #[.agg #[.int .i64 K, .int .i64 N], .int .i64 m] w fun e w' => e = .returned (.tuple #[.agg zzB, .int .i64 1]) ∧ Below w.heap.size w w' := by
  unfold zzB
  have HV := hid (show ∀ W : World, _ from fun W => valid_any K N W)
  obtain ⟨h01, h02, h03⟩ := b_two w (frmO K N) zzB
  have HF0 := hid h01
  have HA0 := hid h02
  have HB0 := hid h03
  unfold zzB at HF0 HA0 HB0
  clear h01 h02 h03
  rw [hok] at HV
  clear hok
  go_enter Tryz.func7, Tryz.ntmps7
  go_wp2_with (first | (go_at_call 29; (with_reducible refine (HV.out _).mono ?_); rintro e w1 ⟨rfl, hb⟩; have HB1 := hid (below_out HB0.out hb); have HF1 := hid (blk_nextD HF0.out hb); have HA1 := hid (blk_nextD HA0.out hb); obtain ⟨y0, y1, _, _⟩ := cells2 (blk_nextD HF0.out hb); have hlt1 : w.heap.size < w1.heap.size := lt_of_heap HF1.out; clear hb HV) | (refine wpList_store_bd rfl (.tmp 4) (.tmp 16) rfl (w.heap.size + 1) (by go_simp) 0 0 0 0 false 0 0 0 0 0 0 0 0 0 none none 0 0 0 0 (by go_simp) HA1.out ?_; intro U hU hO hZ; have HU := hid hU; have HBU := hid (show Below w.heap.size w U from HB1.out.trans (hO.below (fun k hk => by have e : k = w.heap.size + 1 := hk; omega) HB1.out.size)); clear hU hO hZ))
  (try simp only [Exit.inBlock, Exit.then])
  (try go_wp2)
  refine bodyPost_ret (results_bd2 rfl _ _ _ 37 _ (0, 0) rfl HU.out rfl) rfl ?_
  exact ⟨rfl, HBU.out⟩
set_option maxRecDepth 20000 in
set_option maxHeartbeats 8000000 in
theorem dnew_c (N m : Int) (w : World) (hok : okFr 1 N = true) (hm0 : 0 ≤ m) (hm1 : m < N) : Calls Tryz.prog 7 #[.agg #[.int .i64 1, .int .i64 N], .int .i64 m] w fun e w' => e = .returned (.tuple #[.agg zzB, .int .i64 33]) ∧ Below w.heap.size w w' := by
  unfold zzB
  have HV := hid (show ∀ W : World, _ from fun W => valid_any 1 N W)
  obtain ⟨h01, h02, h03⟩ := b_two w (frmO 1 N) zzB
  have HF0 := hid h01
  have HA0 := hid h02
  have HB0 := hid h03
  unfold zzB at HF0 HA0 HB0
  clear h01 h02 h03
  rw [hok] at HV
  have hm : ¬ m < -1 := by omega
  clear hok
  go_enter Tryz.func7, Tryz.ntmps7
  go_wp2_with (first | (go_at_call 29; (with_reducible refine (HV.out _).mono ?_); rintro e w1 ⟨rfl, hb⟩; have HB1 := hid (below_out HB0.out hb); have HF1 := hid (blk_nextD HF0.out hb); have HA1 := hid (blk_nextD HA0.out hb); obtain ⟨y0, y1, _, _⟩ := cells2 (blk_nextD HF0.out hb); have hlt1 : w.heap.size < w1.heap.size := lt_of_heap HF1.out; clear hb HV) | (refine wpList_store_bd rfl (.tmp 4) (.tmp 31) rfl (w.heap.size + 1) (by go_simp) 0 0 0 0 false 0 0 0 0 0 0 0 0 0 none none 0 0 0 0 (by go_simp) HA1.out ?_; intro U hU hO hZ; have HU := hid hU; have HBU := hid (show Below w.heap.size w U from HB1.out.trans (hO.below (fun k hk => by have e : k = w.heap.size + 1 := hk; omega) HB1.out.size)); clear hU hO hZ))
  (try simp only [Exit.inBlock, Exit.then])
  (try go_wp2)
  refine bodyPost_ret (results_bd2 rfl _ _ _ 37 _ (0, 0) rfl HU.out rfl) rfl ?_
  exact ⟨rfl, HBU.out⟩
set_option maxRecDepth 20000 in
set_option maxHeartbeats 8000000 in
theorem dnew_0 (N m : Int) (w : World) (hok : okFr 0 N = true) (hm : ¬ m < -1) : Calls Tryz.prog 7 #[.agg #[.int .i64 0, .int .i64 N], .int .i64 m] w fun e w' => e = .returned (.tuple #[.agg #[.int .i64 0, .int .i64 N, .int .i64 m, .int .i64 0, .bool true, .int .i64 0, .int .i64 0, .int .i64 0, .int .i64 0, .int .i64 0, .int .i64 0, .int .i64 0, .int .i64 0, .slice none 0 0, .int .i64 0, .slice none 0 0], .int .i64 0]) ∧ Below w.heap.size w w' := by
  have HV := hid (show ∀ W : World, _ from fun W => valid_any 0 N W)
  obtain ⟨h01, h02, h03⟩ := b_two w (frmO 0 N) zzB
  have HF0 := hid h01
  have HA0 := hid h02
  have HB0 := hid h03
  unfold zzB at HF0 HA0 HB0
  clear h01 h02 h03
  rw [hok] at HV
  clear hok
  go_enter Tryz.func7, Tryz.ntmps7
  go_wp2_with (first | (go_at_call 29; (with_reducible refine (HV.out _).mono ?_); rintro e w1 ⟨rfl, hb⟩; have HB1 := hid (below_out HB0.out hb); have HF1 := hid (blk_nextD HF0.out hb); have HA1 := hid (blk_nextD HA0.out hb); obtain ⟨y0, y1, _, _⟩ := cells2 (blk_nextD HF0.out hb); have hlt1 : w.heap.size < w1.heap.size := lt_of_heap HF1.out; clear hb HV) | (have HA2 := hid (((below_new w1 (.cells #[.int .i64 0, .int .i64 N, .int .i64 m, .int .i64 0, .bool true, .int .i64 0, .int .i64 0, .int .i64 0, .int .i64 0, .int .i64 0, .int .i64 0, .int .i64 0, .int .i64 0, .slice none 0 0, .int .i64 0, .slice none 0 0] 37 (0, 0))).block _ (lt_of_heap HA1.out)).trans HA1.out); have HB2 := hid (below_out HB1.out (below_new w1 (.cells #[.int .i64 0, .int .i64 N, .int .i64 m, .int .i64 0, .bool true, .int .i64 0, .int .i64 0, .int .i64 0, .int .i64 0, .int .i64 0, .int .i64 0, .int .i64 0, .int .i64 0, .slice none 0 0, .int .i64 0, .slice none 0 0] 37 (0, 0)))); refine wpList_store_bd rfl (.tmp 4) (.tmp 65) rfl (w.heap.size + 1) (by go_simp) 0 N m 0 true 0 0 0 0 0 0 0 0 0 none none 0 0 0 0 (by go_simp) HA2.out ?_; intro U hU hO hZ; have HU := hid hU; have HBU := hid (show Below w.heap.size w U from HB2.out.trans (hO.below (fun k hk => by have e : k = w.heap.size + 1 := hk; omega) HB2.out.size)); clear hU hO hZ))
  (try simp only [Exit.inBlock, Exit.then])
  (try go_wp2)
  refine bodyPost_ret (results_bd2 rfl _ _ _ 37 _ (0, 0) rfl HU.out rfl) rfl ?_
  exact ⟨rfl, HBU.out⟩
set_option maxRecDepth 20000 in
set_option maxHeartbeats 8000000 in
theorem dnew_3 (N m : Int) (w : World) (hok : okFr 3 N = true) (hm : ¬ m < -1) : Calls Tryz.prog 7 #[.agg #[.int .i64 3, .int .i64 N], .int .i64 m] w fun e w' => e = .returned (.tuple #[.agg #[.int .i64 3, .int .i64 N, .int .i64 m, .int .i64 0, .bool false, .int .i64 0, .int .i64 0, .int .i64 0, .int .i64 0, .int .i64 0, .int .i64 0, .int .i64 0, .int .i64 0, .slice none 0 0, .int .i64 0, .slice none 0 0], .int .i64 0]) ∧ Below w.heap.size w w' := by
  have HV := hid (show ∀ W : World, _ from fun W => valid_any 3 N W)
  obtain ⟨h01, h02, h03⟩ := b_two w (frmO 3 N) zzB
  have HF0 := hid h01
  have HA0 := hid h02
  have HB0 := hid h03
  unfold zzB at HF0 HA0 HB0
  clear h01 h02 h03
  rw [hok] at HV
  clear hok
  go_enter Tryz.func7, Tryz.ntmps7
  go_wp2_with (first | (go_at_call 29; (with_reducible refine (HV.out _).mono ?_); rintro e w1 ⟨rfl, hb⟩; have HB1 := hid (below_out HB0.out hb); have HF1 := hid (blk_nextD HF0.out hb); have HA1 := hid (blk_nextD HA0.out hb); obtain ⟨y0, y1, _, _⟩ := cells2 (blk_nextD HF0.out hb); have hlt1 : w.heap.size < w1.heap.size := lt_of_heap HF1.out; clear hb HV) | (have HA2 := hid (((below_new w1 (.cells #[.int .i64 3, .int .i64 N, .int .i64 m, .int .i64 0, .bool false, .int .i64 0, .int .i64 0, .int .i64 0, .int .i64 0, .int .i64 0, .int .i64 0, .int .i64 0, .int .i64 0, .slice none 0 0, .int .i64 0, .slice none 0 0] 37 (0, 0))).block _ (lt_of_heap HA1.out)).trans HA1.out); have HB2 := hid (below_out HB1.out (below_new w1 (.cells #[.int .i64 3, .int .i64 N, .int .i64 m, .int .i64 0, .bool false, .int .i64 0, .int .i64 0, .int .i64 0, .int .i64 0, .int .i64 0, .int .i64 0, .int .i64 0, .int .i64 0, .slice none 0 0, .int .i64 0, .slice none 0 0] 37 (0, 0)))); refine wpList_store_bd rfl (.tmp 4) (.tmp 65) rfl (w.heap.size + 1) (by go_simp) 3 N m 0 false 0 0 0 0 0 0 0 0 0 none none 0 0 0 0 (by go_simp) HA2.out ?_; intro U hU hO hZ; have HU := hid hU; have HBU := hid (show Below w.heap.size w U from HB2.out.trans (hO.below (fun k hk => by have e : k = w.heap.size + 1 := hk; omega) HB2.out.size)); clear hU hO hZ))
  (try simp only [Exit.inBlock, Exit.then])
  (try go_wp2)
  refine bodyPost_ret (results_bd2 rfl _ _ _ 37 _ (0, 0) rfl HU.out rfl) rfl ?_
  exact ⟨rfl, HBU.out⟩
set_option maxRecDepth 20000 in
set_option maxHeartbeats 8000000 in
theorem dnew_1a (N m : Int) (w : World) (z : Bool) (hz : (N == 0) = z) (hok : okFr 1 N = true) (hm : ¬ m < -1) (hm1 : m < 0) : Calls Tryz.prog 7 #[.agg #[.int .i64 1, .int .i64 N], .int .i64 m] w fun e w' => e = .returned (.tuple #[.agg #[.int .i64 1, .int .i64 N, .int .i64 m, .int .i64 0, .bool z, .int .i64 0, .int .i64 0, .int .i64 0, .int .i64 0, .int .i64 0, .int .i64 0, .int .i64 0, .int .i64 0, .slice none 0 0, .int .i64 0, .slice none 0 0], .int .i64 0]) ∧ Below w.heap.size w w' := by
  have HV := hid (show ∀ W : World, _ from fun W => valid_any 1 N W)
  obtain ⟨h01, h02, h03⟩ := b_two w (frmO 1 N) zzB
  have HF0 := hid h01
  have HA0 := hid h02
  have HB0 := hid h03
  unfold zzB at HF0 HA0 HB0
  clear h01 h02 h03
  rw [hok] at HV
  have hg : ¬ (0 : Int) ≤ m := by omega
  clear hok
  go_enter Tryz.func7, Tryz.ntmps7
  go_wp2_with (first | (go_at_call 29; (with_reducible refine (HV.out _).mono ?_); rintro e w1 ⟨rfl, hb⟩; have HB1 := hid (below_out HB0.out hb); have HF1 := hid (blk_nextD HF0.out hb); have HA1 := hid (blk_nextD HA0.out hb); obtain ⟨y0, y1, _, _⟩ := cells2 (blk_nextD HF0.out hb); have hlt1 : w.heap.size < w1.heap.size := lt_of_heap HF1.out; clear hb HV) | (have HA2 := hid (((below_new w1 (.cells #[.int .i64 1, .int .i64 N, .int .i64 m, .int .i64 0, .bool z, .int .i64 0, .int .i64 0, .int .i64 0, .int .i64 0, .int .i64 0, .int .i64 0, .int .i64 0, .int .i64 0, .slice none 0 0, .int .i64 0, .slice none 0 0] 37 (0, 0))).block _ (lt_of_heap HA1.out)).trans HA1.out); have HB2 := hid (below_out HB1.out (below_new w1 (.cells #[.int .i64 1, .int .i64 N, .int .i64 m, .int .i64 0, .bool z, .int .i64 0, .int .i64 0, .int .i64 0, .int .i64 0, .int .i64 0, .int .i64 0, .int .i64 0, .int .i64 0, .slice none 0 0, .int .i64 0, .slice none 0 0] 37 (0, 0)))); refine wpList_store_bd rfl (.tmp 4) (.tmp 65) rfl (w.heap.size + 1) (by go_simp) 1 N m 0 z 0 0 0 0 0 0 0 0 0 none none 0 0 0 0 (by go_simp) HA2.out ?_; intro U hU hO hZ; have HU := hid hU; have HBU := hid (show Below w.heap.size w U from HB2.out.trans (hO.below (fun k hk => by have e : k = w.heap.size + 1 := hk; omega) HB2.out.size)); clear hU hO hZ))
  (try simp only [Exit.inBlock, Exit.then])
  (try go_wp2)
  refine bodyPost_ret (results_bd2 rfl _ _ _ 37 _ (0, 0) rfl HU.out rfl) rfl ?_
  exact ⟨rfl, HBU.out⟩
set_option maxRecDepth 20000 in
set_option maxHeartbeats 8000000 in
theorem dnew_1b (N m : Int) (w : World) (z : Bool) (hz : (N == 0) = z) (hok : okFr 1 N = true) (_hm : ¬ m < -1) (hm1 : 0 ≤ m) (hm2 : ¬ m < N) : Calls Tryz.prog 7 #[.agg #[.int .i64 1, .int .i64 N], .int .i64 m] w fun e w' => e = .returned (.tuple #[.agg #[.int .i64 1, .int .i64 N, .int .i64 m, .int .i64 0, .bool z, .int .i64 0, .int .i64 0, .int .i64 0, .int .i64 0, .int .i64 0, .int .i64 0, .int .i64 0, .int .i64 0, .slice none 0 0, .int .i64 0, .slice none 0 0], .int .i64 0]) ∧ Below w.heap.size w w' := by
  have HV := hid (show ∀ W : World, _ from fun W => valid_any 1 N W)
  obtain ⟨h01, h02, h03⟩ := b_two w (frmO 1 N) zzB
  have HF0 := hid h01
  have HA0 := hid h02
  have HB0 := hid h03
  unfold zzB at HF0 HA0 HB0
  clear h01 h02 h03
  rw [hok] at HV
  clear hok
  go_enter Tryz.func7, Tryz.ntmps7
  go_wp2_with (first | (go_at_call 29; (with_reducible refine (HV.out _).mono ?_); rintro e w1 ⟨rfl, hb⟩; have HB1 := hid (below_out HB0.out hb); have HF1 := hid (blk_nextD HF0.out hb); have HA1 := hid (blk_nextD HA0.out hb); obtain ⟨y0, y1, _, _⟩ := cells2 (blk_nextD HF0.out hb); have hlt1 : w.heap.size < w1.heap.size := lt_of_heap HF1.out; clear hb HV) | (have HA2 := hid (((below_new w1 (.cells #[.int .i64 1, .int .i64 N, .int .i64 m, .int .i64 0, .bool z, .int .i64 0, .int .i64 0, .int .i64 0, .int .i64 0, .int .i64 0, .int .i64 0, .int .i64 0, .int .i64 0, .slice none 0 0, .int .i64 0, .slice none 0 0] 37 (0, 0))).block _ (lt_of_heap HA1.out)).trans HA1.out); have HB2 := hid (below_out HB1.out (below_new w1 (.cells #[.int .i64 1, .int .i64 N, .int .i64 m, .int .i64 0, .bool z, .int .i64 0, .int .i64 0, .int .i64 0, .int .i64 0, .int .i64 0, .int .i64 0, .int .i64 0, .int .i64 0, .slice none 0 0, .int .i64 0, .slice none 0 0] 37 (0, 0)))); refine wpList_store_bd rfl (.tmp 4) (.tmp 65) rfl (w.heap.size + 1) (by go_simp) 1 N m 0 z 0 0 0 0 0 0 0 0 0 none none 0 0 0 0 (by go_simp) HA2.out ?_; intro U hU hO hZ; have HU := hid hU; have HBU := hid (show Below w.heap.size w U from HB2.out.trans (hO.below (fun k hk => by have e : k = w.heap.size + 1 := hk; omega) HB2.out.size)); clear hU hO hZ))
  (try simp only [Exit.inBlock, Exit.then])
  (try go_wp2)
  refine bodyPost_ret (results_bd2 rfl _ _ _ 37 _ (0, 0) rfl HU.out rfl) rfl ?_
  exact ⟨rfl, HBU.out⟩
end Go.Proofs.YtnlmjlfoeodleaaGreatDoor
