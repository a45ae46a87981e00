/- The program reads whole heads. -/
import Derived.Test.YthakldcfpndabaaGreatDoorPReq
namespace Go.Proofs.YthakldcfpndabaaGreatDoor
open Go.RowKit

def allE (s : PS) : Nat := if s.err ≠ 0 then s.err else if s.st = 11 then 0 else 32
theorem allE_zero {s : PS} (h : allE s = 0) : s.err = 0 ∧ s.st = 11 := by
  unfold allE at h
  split at h
  · rename_i h1; exact absurd h h1
  · split at h
    · rename_i h1 h2; exact ⟨by simpa using h1, h2⟩
    · cases h
set_option maxRecDepth 20000 in
set_option maxHeartbeats 8000000 in
theorem all_any {F : Nat → Prop} {w : World} {g : Nat} {s : PS} (h : RdAt F w g s) (hi : InvP s) (l : B) (p : Option Addr) (n c : Nat) (hn : l.length = n) (ha : ArgAt w p l) (hp : ArgOut F p l) (hl : n ≤ 140737488355328) :
    Calls Tryz.prog 36 #[.pointer (some ⟨g, 0, none⟩), .slice p n c] w fun e w' => e = .returned (errOf (allE (feedP s l))) ∧ Turned F w g (feedP s l) w' := by
  have HF := hid (feed_any h hi l p n c hn ha hp hl)
  obtain ⟨S, hS⟩ : ∃ S, feedP s l = S := ⟨_, rfl⟩
  obtain ⟨N, hN⟩ : ∃ N, feedN s l = N := ⟨_, rfl⟩
  rw [hS, hN] at HF
  rw [hS]
  unfold fedV at HF
  clear h hi hn ha hp hl hS hN
  by_cases he : S.err = 0
  · rw [he, errOf_zero] at HF
    by_cases h11 : S.st = 11
    · rw [decide_eq_true h11] at HF
      have HV := hid (show allE S = 0 from by unfold allE; rw [if_neg (by simp [he]), if_pos h11])
      clear he h11
      go_enter Tryz.func36, Tryz.ntmps36
      go_wp2_with (go_at_call 53; (with_reducible refine HF.out.mono ?_); rintro e w1 ⟨rfl, hq⟩; have HQ := hid hq; clear hq)
      go_ret
      exact ⟨by rw [HV.out]; rfl, HQ.out⟩
    · rw [decide_eq_false h11] at HF
      have HV := hid (show allE S = 32 from by unfold allE; rw [if_neg (by simp [he]), if_neg h11])
      clear he h11
      go_enter Tryz.func36, Tryz.ntmps36
      go_wp2_with (go_at_call 53; (with_reducible refine HF.out.mono ?_); rintro e w1 ⟨rfl, hq⟩; have HQ := hid hq; clear hq)
      go_ret
      exact ⟨by rw [HV.out]; rfl, HQ.out⟩
  · rw [errOf_pos he] at HF
    have HV := hid (show errOf (allE S) = .iface 37 (.int .i64 (S.err : Int)) from by unfold allE; rw [if_pos he, errOf_pos he])
    obtain ⟨b, hb⟩ : ∃ b, decide (S.st = 11) = b := ⟨_, rfl⟩
    rw [hb] at HF
    clear he hb
    go_enter Tryz.func36, Tryz.ntmps36
    go_wp2_with (go_at_call 53; (with_reducible refine HF.out.mono ?_); rintro e w1 ⟨rfl, hq⟩; have HQ := hid hq; clear hq)
    go_ret
    exact ⟨by rw [HV.out]; rfl, HQ.out⟩
theorem cells4_only {F : Nat → Prop} {w w' : World} {g : Nat} {c0 c1 c2 c3 : Value} {cs : Array Value} {T : TypeId} (h : Cells4 w g c0 c1 c2 c3) (hb : w.heap[g]? = some (.cells cs T (0, 0))) (ho : Only F w w') (hg : ¬ F g) : Cells4 w' g c0 c1 c2 c3 :=
  ⟨cell_only ho hg h.a0, cell_only ho hg h.a1, cell_only ho hg h.a2, cell_only ho hg h.a3, fun j => by have e := (ho.block g (lt_of_heap hb) hg).trans hb; simp [World.frozen?, e]⟩
def parseE (r : Bool) (l : B) (m : Int) : Nat := if 1 ≤ m ∧ m ≤ 65536 then allE (feedP (newP r m) l) else 1
theorem below_turned {w0 w w' : World} {F : Nat → Prop} {g N : Nat} {s : PS} (h0 : Below N w0 w) (h : Turned F w g s w') (hN : ∀ k, F k → N ≤ k) (hs : N ≤ w.heap.size) : Below N w0 w' := by
  obtain ⟨G, _, ho, _⟩ := h
  exact h0.trans (ho.below hN hs)
set_option maxRecDepth 20000 in
set_option maxHeartbeats 8000000 in
theorem parse_req_arg (v : Value) (m : Int) (w : World) (hm : ¬ (1 ≤ m ∧ m ≤ 65536)) : Calls Tryz.prog 20 #[v, .int .i64 m] w fun e w' => e = .returned (.tuple #[.agg reqZ, .int .i64 0, errOf 1]) ∧ Below w.heap.size w w' := by
  have HC := hid (NewRequest_no m (w.alloc (.cells reqZ 24 (0, 0))) hm)
  rw [errOf_pos (by decide)] at HC
  unfold reqZ at HC
  clear hm
  go_enter Tryz.func20, Tryz.ntmps20
  go_wp2_with (go_at_call 35; (with_reducible refine HC.out.mono ?_); rintro e w1 ⟨rfl, hw1⟩; subst w1)
  (try simp only [Exit.inBlock, Exit.then])
  refine bodyPost_ret (results_req3 rfl _ _ _ 24 _ (0, 0) rfl (heap_alloc_new w _) rfl) rfl ?_
  exact ⟨rfl, below_new _ _⟩
set_option maxRecDepth 20000 in
set_option maxHeartbeats 8000000 in
theorem parse_req_err (l : B) (p : Option Addr) (n c : Nat) (m : Int) (w : World) (hn : l.length = n) (ha : ArgAt w p l) (hl : n ≤ 140737488355328) (hm : 1 ≤ m ∧ m ≤ 65536) (he : allE (feedP (newP false m) l) ≠ 0) : Calls Tryz.prog 20 #[.slice p n c, .int .i64 m] w fun e w' => e = .returned (.tuple #[.agg reqZ, .int .i64 0, errOf (allE (feedP (newP false m) l))]) ∧ Below w.heap.size w w' := by
  obtain ⟨W0, hW0⟩ : ∃ W0, W0 = w.alloc (.cells reqZ 24 (0, 0)) := ⟨_, rfl⟩
  have HW0 := hid hW0
  have HB0 := hid (show Below w.heap.size w W0 ∧ W0.heap[w.heap.size]? = some (.cells reqZ 24 (0, 0)) ∧ W0.heap.size = w.heap.size + 1 from by rw [hW0]; exact ⟨below_new w _, heap_alloc_new w _, by simp⟩)
  have HC := hid (NewRequest_yes m W0 hm)
  rw [errOf_zero] at HC
  have HM := hid hm
  have HA := hid ha
  have HN := hid hn
  unfold reqZ at hW0
  have HW1 := hid hW0
  clear hm ha hW0 hn
  obtain ⟨E, hE⟩ : ∃ E, allE (feedP (newP false m) l) = E := ⟨_, rfl⟩
  have HE := hid (show errOf (allE (feedP (newP false m) l)) = .iface 37 (.int .i64 (E : Int)) from by rw [hE, errOf_pos (by rw [← hE]; exact he)])
  rw [HE.out]
  clear he hE
  go_enter Tryz.func20, Tryz.ntmps20
  go_wp2_with (first | (go_at_call 35; (rw [← HW1.out]); (with_reducible refine HC.out.mono ?_); rintro e w1 ⟨rfl, h1, h2, h3⟩; have HR1 := hid h1; have HB1 := hid (show Below w.heap.size w w1 ∧ w1.heap[w.heap.size]? = some (.cells reqZ 24 (0, 0)) ∧ w.heap.size < W0.heap.size from ⟨HB0.out.1.trans (h2.mono HB0.out.1.size), (h2.block _ (lt_of_heap HB0.out.2.1)).trans HB0.out.2.1, by rw [HB0.out.2.2]; omega⟩); have HAl := hid (all_any h1 (new_inv HM.out.2) l p n c HN.out ((HA.out.next HB0.out.1).next h2) (ArgAt.out (HA.out) (fun k hk => by have h9 : k = W0.heap.size := hk; rw [h9, HB0.out.2.2]; omega)) hl); rw [HE.out] at HAl; clear h1 h2 h3) | (go_at_call 36; (with_reducible refine HAl.out.mono ?_); rintro e w2 ⟨rfl, hq⟩; have hq2 := hq; obtain ⟨G, _, ho, _⟩ := hq2; have HB2 := hid (show Below w.heap.size w w2 ∧ w2.heap[w.heap.size]? = some (.cells reqZ 24 (0, 0)) from ⟨below_turned HB1.out.1 hq (fun k hk => by have h9 : k = W0.heap.size := hk; have := HB1.out.2.2; omega) HB1.out.1.size, (ho.block _ (lt_of_heap HB1.out.2.1) (fun hk => by have h9 : w.heap.size = W0.heap.size := hk; have := HB1.out.2.2; omega)).trans HB1.out.2.1⟩); clear hq ho; have hz := HB2.out.2; unfold reqZ at hz; obtain ⟨y0, y1, y2, y3, yz⟩ := cells4 hz; have yz0 := yz 0; have yz1 := yz 1; have yz2 := yz 2; have yz3 := yz 3; clear yz hz))
  (try simp only [Exit.inBlock, Exit.then])
  refine bodyPost_ret (results_req3 rfl _ _ _ 24 _ (0, 0) rfl (fourC (by have := HB2.out.2; unfold reqZ at this; exact this) _ _ _ _) rfl) rfl ?_
  exact ⟨rfl, below_four HB2.out.1 _ _ _ _⟩
set_option maxRecDepth 20000 in
set_option maxHeartbeats 8000000 in
theorem parse_req_ok (l : B) (p : Option Addr) (n c : Nat) (m : Int) (w : World) (hn : l.length = n) (ha : ArgAt w p l) (hl : n ≤ 140737488355328) (hm : 1 ≤ m ∧ m ≤ 65536) (he : allE (feedP (newP false m) l) = 0) : Calls Tryz.prog 20 #[.slice p n c, .int .i64 m] w fun e w' => ∃ v, e = .returned (.tuple #[.agg (reqC (feedP (newP false m) l) v), .int .i64 ((feedP (newP false m) l).taken : Int), errOf 0]) ∧ OwnF w' w.heap.size v (feedP (newP false m) l).fields ∧ Below w.heap.size w w' := by
  obtain ⟨W0, hW0⟩ : ∃ W0, W0 = w.alloc (.cells reqZ 24 (0, 0)) := ⟨_, rfl⟩
  have HW0 := hid hW0
  have HB0 := hid (show Below w.heap.size w W0 ∧ W0.heap[w.heap.size]? = some (.cells reqZ 24 (0, 0)) ∧ W0.heap.size = w.heap.size + 1 from by rw [hW0]; exact ⟨below_new w _, heap_alloc_new w _, by simp⟩)
  have HC := hid (NewRequest_yes m W0 hm)
  rw [errOf_zero] at HC
  have HM := hid hm
  have HA := hid ha
  have HN := hid hn
  unfold reqZ at hW0
  have HW1 := hid hW0
  clear hm ha hW0 hn
  have hz := allE_zero he
  have hre : (feedP (newP false m) l).resp = false := (feed_resp l (new_inv HM.out.2).st hz.1).trans rfl
  have hfl := (feed_inv l (new_inv (r := false) HM.out.2)).fields
  have hEE : errOf (allE (feedP (newP false m) l)) = .nilIface := by rw [he]; rfl
  have HEE := hid hEE
  obtain ⟨S, hS⟩ : ∃ S, feedP (newP false m) l = S := ⟨_, rfl⟩
  have HS := hid hS
  rw [hS] at hz hre hfl
  rw [hS]
  have HZ := hid (And.intro hz (And.intro hre hfl))
  obtain ⟨X8, hX8⟩ : ∃ X8, str S.method = X8 := ⟨_, rfl⟩
  obtain ⟨X9, hX9⟩ : ∃ X9, str S.target = X9 := ⟨_, rfl⟩
  clear he hz hre hfl hEE hS
  go_enter Tryz.func20, Tryz.ntmps20
  go_wp2_with (first | (go_at_call 35; (rw [← HW1.out]); (with_reducible refine HC.out.mono ?_); rintro e w1 ⟨rfl, h1, h2, h3⟩; have HR1 := hid h1; have HB1 := hid (show Below w.heap.size w w1 ∧ w1.heap[w.heap.size]? = some (.cells reqZ 24 (0, 0)) ∧ w.heap.size < W0.heap.size from ⟨HB0.out.1.trans (h2.mono HB0.out.1.size), (h2.block _ (lt_of_heap HB0.out.2.1)).trans HB0.out.2.1, by rw [HB0.out.2.2]; omega⟩); have HAl := hid (all_any h1 (new_inv HM.out.2) l p n c HN.out ((HA.out.next HB0.out.1).next h2) (ArgAt.out (HA.out) (fun k hk => by have h9 : k = W0.heap.size := hk; rw [h9, HB0.out.2.2]; omega)) hl); rw [HEE.out] at HAl; clear h1 h2 h3) | (go_at_call 36; (with_reducible refine HAl.out.mono ?_); rintro e w2 ⟨rfl, hq⟩; have hq2 := hq; obtain ⟨G, hrd, ho, hg⟩ := hq2; rw [HS.out] at hrd; have HR2 := hid hrd; have HB2 := hid (show Below w.heap.size w w2 ∧ w2.heap[w.heap.size]? = some (.cells reqZ 24 (0, 0)) from ⟨below_turned HB1.out.1 hq (fun k hk => by have h9 : k = W0.heap.size := hk; have := HB1.out.2.2; omega) HB1.out.1.size, (ho.block _ (lt_of_heap HB1.out.2.1) (fun hk => by have h9 : w.heap.size = W0.heap.size := hk; have := HB1.out.2.2; omega)).trans HB1.out.2.1⟩); have HRq := hid (req_yes hrd HZ.out.1.2 HZ.out.2.1 HZ.out.2.2); rw [errOf_zero] at HRq; clear hq ho hrd hg) | (go_at_call 37; (with_reducible refine HRq.out.mono ?_); rintro e w3 ⟨v, rfl, hv, hb⟩; have HV := hid hv; have HR3 := hid (HR2.out.next hb); have HB3 := hid (show Below w.heap.size w w3 ∧ w3.heap[w.heap.size]? = some (.cells reqZ 24 (0, 0)) ∧ w.heap.size ≤ w2.heap.size from ⟨HB2.out.1.trans (hb.mono HB2.out.1.size), (hb.block _ (lt_of_heap HB2.out.2)).trans HB2.out.2, HB2.out.1.size⟩); obtain ⟨q1, q2, q3, rfl⟩ := own_slice3 hv; clear hv hb; unfold reqC))
  obtain ⟨W4, hW4⟩ : ∃ W4, W4 = w3.alloc (.cells (reqC S (.slice q1 q2 q3)) 24 (0, 0)) := ⟨_, rfl⟩
  obtain ⟨V4, hV4⟩ : ∃ V4, V4 = W4.drew := ⟨_, rfl⟩
  have HB4 := hid (show Below w.heap.size w V4 ∧ V4.heap[w.heap.size]? = some (.cells reqZ 24 (0, 0)) ∧ V4.heap[w3.heap.size]? = some (.cells (reqC S (.slice q1 q2 q3)) 24 (0, 0)) ∧ w.heap.size < w3.heap.size ∧ RdAt G V4 W0.heap.size S ∧ OwnF V4 w2.heap.size (.slice q1 q2 q3) S.fields from by
    rw [hV4, hW4]
    have hb4 := below_new w3 (.cells (reqC S (.slice q1 q2 q3)) 24 (0, 0))
    exact ⟨(HB3.out.1.trans (hb4.mono HB3.out.1.size)).drew, (hb4.block _ (lt_of_heap HB3.out.2.1)).trans HB3.out.2.1, heap_alloc_new w3 _, lt_of_heap HB3.out.2.1, (HR3.out.next hb4).drew, (HV.out.keep hb4.drew)⟩)
  unfold reqC at hW4
  rw [hX8, hX9] at hW4
  (try simp only [hX8, hX9])
  rw [← hW4]
  have hz4 := HB4.out.2.2.1
  unfold reqC at hz4
  rw [hX8, hX9] at hz4
  have hE4 := cells4 hz4
  have HLn := hid (len_any W0.heap.size S.taken V4 HB4.out.2.2.2.2.1.cells.2.1)
  have hzz := HB4.out.2.1
  unfold reqZ at hzz
  obtain ⟨y0, y1, y2, y3, yz⟩ := cells4 hzz
  have yz0 := yz 0; have yz1 := yz 1; have yz2 := yz 2; have yz3 := yz 3
  clear yz hzz hz4 hW4
  refine wp_region_noPanic ?_
  refine any_begin 7 (by kernel_rfl) (by kernel_rfl) ?_
  rw [← hV4]
  clear hV4
  refine late_begin (fun U => Cells4 U w3.heap.size (.string X8) (.string X9) (.int .i64 S.minor) (.slice q1 q2 q3)) (fun _ => false) hE4 (fun hS => ?_)
  refine late_take (i := 0) (some 32) rfl rfl (by kernel_rfl) (by kernel_rfl) (by kernel_rfl) (by kernel_rfl) (by kernel_rfl) (fun _ _ _ h => h) (by rfl) (v := ?v0req) ?hy0req hS ?rest0req
  case hy0req => intro w0 hSw; obtain ⟨a0, a1, a2, a3, _⟩ := hSw; go_simp; try with_reducible rfl
  simp only [Act.put, List.setIfInBounds_toArray, List.set_cons_zero, List.set_cons_succ]
  refine late_take (i := 1) (some 33) rfl rfl (by kernel_rfl) (by kernel_rfl) (by kernel_rfl) (by kernel_rfl) (by kernel_rfl) (fun _ _ _ h => h) (by rfl) (v := ?v1req) ?hy1req hS ?rest1req
  case hy1req => intro w0 hSw; obtain ⟨a0, a1, a2, a3, _⟩ := hSw; go_simp; try with_reducible rfl
  simp only [Act.put, List.setIfInBounds_toArray, List.set_cons_zero, List.set_cons_succ]
  refine late_take (i := 3) (some 35) rfl rfl (by kernel_rfl) (by kernel_rfl) (by kernel_rfl) (by kernel_rfl) (by kernel_rfl) (fun _ _ _ h => h) (by rfl) (v := ?v3req) ?hy3req hS ?rest3req
  case hy3req => intro w0 hSw; obtain ⟨a0, a1, a2, a3, _⟩ := hSw; go_simp; try with_reducible rfl
  simp only [Act.put, List.setIfInBounds_toArray, List.set_cons_zero, List.set_cons_succ]
  refine wpAnyD_one (i := 2) (by kernel_rfl) rfl (fun K hK => ?_)
  go_simp
  go_at_call 38
  refine HLn.out.mono ?_
  rintro e w5 ⟨rfl, hw5⟩
  subst w5
  refine hK _ _ ⟨fun _ => hS, ?_⟩
  clear hK K
  refine wpAnyD_one (i := 4) (by kernel_rfl) rfl (fun K hK => ?_)
  go_simp
  have HQ : ∀ a b c d : Value, Cells4 ((((V4.setCell ⟨w.heap.size, 0, none⟩ a).setCell ⟨w.heap.size, 1, none⟩ b).setCell ⟨w.heap.size, 2, none⟩ c).setCell ⟨w.heap.size, 3, none⟩ d) w3.heap.size (.string X8) (.string X9) (.int .i64 S.minor) (.slice q1 q2 q3) := fun a b c d => cells4_only hS HB4.out.2.2.1 (only4 (F := fun k => k = w.heap.size) rfl a b c d) (fun e => by have h9 : w3.heap.size = w.heap.size := e; have := HB4.out.2.2.2.1; omega)
  refine hK _ _ ⟨fun _ => HQ _ _ _ _, ?_⟩
  clear hK K hS
  refine late_take (i := 5) (some 5) rfl rfl (by kernel_rfl) (by kernel_rfl) (by kernel_rfl) (by kernel_rfl) (by kernel_rfl) (fun _ _ _ h => h) (by rfl) (v := ?v5req) ?hy5req (HQ _ _ _ _) ?rest5req
  case hy5req => intro w0 hSw; obtain ⟨a0, a1, a2, a3, _⟩ := hSw; go_simp; try with_reducible rfl
  simp only [Act.put, List.setIfInBounds_toArray, List.set_cons_zero, List.set_cons_succ]
  refine late_take (i := 6) (some 6) rfl rfl (by kernel_rfl) (by kernel_rfl) (by kernel_rfl) (by kernel_rfl) (by kernel_rfl) (fun _ _ _ h => h) (by rfl) (v := ?v6req) ?hy6req (HQ _ _ _ _) ?rest6req
  case hy6req => intro w0 hSw; obtain ⟨a0, a1, a2, a3, _⟩ := hSw; go_simp; try with_reducible rfl
  simp only [Act.put, List.setIfInBounds_toArray, List.set_cons_zero, List.set_cons_succ]
  refine late_done (by kernel_rfl) ?_ _
  refine NoPanic.normal ?_
  go_wp2
  (try simp only [Exit.inBlock, Exit.then])
  refine bodyPost_ret (results_req3 rfl _ _ _ 24 _ (0, 0) rfl (fourC (by have := HB4.out.2.1; unfold reqZ at this; exact this) _ _ _ _) rfl) rfl ?_
  refine ⟨.slice q1 q2 q3, ?_, ?_, below_four HB4.out.1 _ _ _ _⟩
  · unfold reqC
    rw [hX8, hX9]
    rfl
  · exact ownF_set4 (OwnF.lower HB4.out.2.2.2.2.2 HB3.out.2.2) HB4.out.2.1 req_ne _ _ _ _
end Go.Proofs.YthakldcfpndabaaGreatDoor
