/- A response that goes on, by the document: one whose length is not told. -/
import Derived.Test.YtnlmjlfoeodleaaGreatDoorOQRspD
namespace Go.Proofs.YtnlmjlfoeodleaaGreatDoor
open Go.RowKit

set_option maxRecDepth 20000 in
set_option maxHeartbeats 32000000 in
theorem dresp_nly (st : Int) (r : B) (k : Int) (fs : List (B × B)) (p : Option Addr) (n c : Nat) (hn : fs.length = n) (L mi : Int) (w : World) (hF : FAt w p fs) (hsz : szN fs) (hnn : n ≤ 1000) (hr : r.length ≤ 1048576) (hL0 : -9223372036854775808 ≤ L) (hL1 : L ≤ 9223372036854775807) (hs1 : ¬ 100 ≤ st) (hO : ownF1 (stripF fs) = none) :
    Calls Tryz.prog 26 #[.agg #[.int .i64 st, .string (str r), .int .i64 k, .slice p n c], .agg #[.int .i64 0, .int .i64 L], .int .i64 mi, .bool true] w fun e w' => DPAns st r mi (onP st 0 L true fs k) w e w' := by
  have hB : bareS st = false := by unfold bareS; rw [decide_eq_false (by omega), decide_eq_false (by omega)]; rfl
  have hFz : szC 1048576 (onP st 0 L true fs k) := onP_sz hsz hL0 hL1
  have h1w := szC_W (onP1_sz (k := k) hsz) (by decide)
  have h0w : szW (stripF fs) := fun f hf => szC_W (C := 1048576) hsz (by decide) f (List.mem_filter.1 hf).1
  have h0n : szN (stripF fs) := fun f hf => hsz f (List.mem_filter.1 hf).1
  have HSt := hid (show ∀ W : World, Below w.heap.size w W → _ from fun W hb => dstrip fs p n c hn W (hF.next hb) hsz hnn)
  have hl0 := stripF_le fs
  have hlf := framF_len (stripF fs) 0 0
  have hl1 := onP1_len fs k
  have hl2 := onP2_len st 0 L fs k
  have hlP := onP_len st 0 L true fs k
  have hnP := onP_ne st 0 L true fs k
  have HFr := hid (show ∀ (W : World) (q : Option Addr) (d : Nat), FAt W q (stripF fs) → _ from fun W q d h => dframing (stripF fs) 0 0 q (stripF fs).length d rfl W h h0w (by omega) (by decide) (by decide))
  have HVi := hid (show ∀ (W : World) (q : Option Addr) (d : Nat), FAt W q (framF (stripF fs) 0 0) → (q = none → d = 0) → _ from fun W q d h hc => dviaO (framF (stripF fs) 0 0) k q (framF (stripF fs) 0 0).length d rfl hc W h (by omega))
  rw [show viaF (framF (stripF fs) 0 0) k = onP1 fs k from rfl] at HVi
  have HLv := hid (show (onP1 fs k).length = (framF (stripF fs) 0 0).length + 1 from by unfold onP1 viaF; rw [List.length_append]; rfl)
  have HKe0 := hid (show ∀ (W : World) (q : Option Addr) (d : Nat), FAt W q (stripF fs) → _ from fun W q d h => dkept (stripF fs) q (stripF fs).length d rfl W h h0n (by omega))
  have HKe := hid (show ∀ (W : World) (q : Option Addr) (d : Nat), FAt W q (stripF fs) → Calls Tryz.prog 61 #[.slice q (stripF fs).length d] W fun e w' => ∃ a b, e = .returned (.tuple #[.agg #[.string a, .string b], .bool false]) ∧ Below W.heap.size W w' from fun W q d h => (HKe0.out W q d h).mono (by
    rintro e w' (⟨f', h1, _⟩ | ⟨_, a, b, h2, h3⟩)
    · rw [hO] at h1
      cases h1
    · exact ⟨a, b, h2, h3⟩))
  have HFd := hid (show ∀ (W : World) (q : Option Addr) (s d : Nat), (onP1 fs k).length = s → FAt W q (onP1 fs k) → _ from fun W q s d hs h => dframing (onP1 fs k) 0 L q s d hs W h h1w (by omega) hL0 hL1)
  rw [fram_id] at HFd
  have HAc0 := hid (show ∀ (W : World) (q : Option Addr) (s d : Nat), (onP1 fs k).length = s → FAt W q (onP1 fs k) → _ from fun W q s d hs h => dadd (onP1 fs k) q s d hs connB cloB W h (fun e => absurd e (fat_some h (by have h9 := onP2_ne st 0 L fs k; rw [onP2_n hB hO] at h9; exact h9))) (by have h9 := hl2; rw [onP2_n hB hO] at h9; omega))
  have HAc := hid (show ∀ (W : World) (q : Option Addr) (s d : Nat), (onP1 fs k).length = s → FAt W q (onP1 fs k) → Calls Tryz.prog 53 #[.slice q s d, .string (⟨#[67, 111, 110, 110, 101, 99, 116, 105, 111, 110]⟩ : ByteArray), .string (⟨#[99, 108, 111, 115, 101]⟩ : ByteArray)] W _ from HAc0.out)
  obtain ⟨F, hFF⟩ : ∃ F, onP st 0 L true fs k = F := ⟨_, rfl⟩
  rw [hFF] at hFz hlP hnP
  rw [hFF]
  have HNe := hid hnP
  have HWr := hid (show ∀ (W : World) (q : Option Addr) (s d : Nat), F.length = s → FAt W q F → _ from fun W q s d hs h => rresp_e st r mi F q s d hs W h hFz (by omega) hr)
  have HFe := hid (show onP1 fs k ++ [(connB, cloB)] = F from by rw [← hFF]; unfold onP; rw [if_pos rfl, onP2_n hB hO])
  have HSzd := hid (show ∀ (W : World) (q : Option Addr) (s d e : Nat), _ from fun W q s d e => dsized q s d e W)
  obtain ⟨e0, he0⟩ : ∃ e0, respE st r mi F = e0 := ⟨_, rfl⟩
  have HE0 := hid he0
  rw [he0] at HWr
  obtain ⟨R, hR⟩ : ∃ R, str r = R := ⟨_, rfl⟩
  have HRR := hid hR
  rw [hR] at HWr
  rw [hR]
  obtain ⟨X0, hX0⟩ : ∃ X, stripF fs = X := ⟨_, rfl⟩
  rw [hX0] at HSt HFr HVi HKe HLv
  obtain ⟨XF, hXF⟩ : ∃ X, framF X0 0 0 = X := ⟨_, rfl⟩
  rw [hXF] at HFr HVi HLv
  have hxf : XF.length ≤ 2000 := by rw [← hXF, ← hX0]; omega
  obtain ⟨X1, hX1⟩ : ∃ X, onP1 fs k = X := ⟨_, rfl⟩
  rw [hX1] at HVi HLv HFe HFd HAc
  have HR0 := hid (RpO.start w #[.int .i64 st, .string R, .int .i64 k, .slice p n c] #[.int .i64 0, .int .i64 L])
  obtain ⟨i0, hi0, hz0, hz1, hz2⟩ := info_parts infoF
  clear hF hsz hFz h1w h0w h0n hlf hl1 hl2 hlP hnP hFF he0 hR hX0 hXF hX1 hB hr HKe0 hO HAc0
  go_enter Tryz.func26, Tryz.ntmps26
  obtain ⟨y0, y1, y2, y3, _⟩ := cells4O HR0.out.bx
  go_wp2
  have HR1 := hid (show RpO w (((w.alloc (.cells #[.int .i64 st, .string R, .int .i64 k, .slice p n c] 62 (0, 0))).alloc (.cells #[.int .i64 0, .int .i64 L] 23 (0, 0))).alloc (.cells #[.int .i64 0, .string ⟨#[]⟩, .int .i64 0, .slice none 0 0] 62 (0, 0))).drew #[.int .i64 st, .string R, .int .i64 k, .slice p n c] #[.int .i64 0, .int .i64 L] from HR0.out.next ⟨rfl, rfl, rfl, Nat.le_refl _, fun _ _ => rfl⟩)
  generalize hW1 : (((w.alloc (.cells #[.int .i64 st, .string R, .int .i64 k, .slice p n c] 62 (0, 0))).alloc (.cells #[.int .i64 0, .int .i64 L] 23 (0, 0))).alloc (.cells #[.int .i64 0, .string ⟨#[]⟩, .int .i64 0, .slice none 0 0] 62 (0, 0))).drew = w1 at HR1
  refine wp_region_noPanic ?_
  refine any_begin 9 (by kernel_rfl) (by kernel_rfl) ?_
  rw [hW1]
  clear hW1 HR0 y0 y1 y2 y3
  refine late_begin (fun U => Cells4O U w.heap.size (.int .i64 st) (.string R) (.int .i64 k) (.slice p n c)) (fun _ => false) (show Cells4O w1 w.heap.size (.int .i64 st) (.string R) (.int .i64 k) (.slice p n c) from cells4O HR1.out.bx) (fun hS => ?_)
  refine late_take (i := 0) (some 31) rfl rfl (by kernel_rfl) (by kernel_rfl) (by kernel_rfl) (by kernel_rfl) (by kernel_rfl) (fun _ _ _ h => h) (by rfl) (v := ?v0r2dresp_nly) ?hy0r2dresp_nly hS ?rest0r2dresp_nly
  case hy0r2dresp_nly => intro w0 hSw; obtain ⟨a0, a1, a2, a3, _⟩ := hSw; go_simp; try with_reducible rfl
  simp only [Act.put, List.setIfInBounds_toArray, List.set_cons_zero, List.set_cons_succ]
  refine late_take (i := 1) (some 32) rfl rfl (by kernel_rfl) (by kernel_rfl) (by kernel_rfl) (by kernel_rfl) (by kernel_rfl) (fun _ _ _ h => h) (by rfl) (v := ?v1r2dresp_nly) ?hy1r2dresp_nly hS ?rest1r2dresp_nly
  case hy1r2dresp_nly => intro w0 hSw; obtain ⟨a0, a1, a2, a3, _⟩ := hSw; go_simp; try with_reducible rfl
  simp only [Act.put, List.setIfInBounds_toArray, List.set_cons_zero, List.set_cons_succ]
  refine late_take (i := 3) (some 34) rfl rfl (by kernel_rfl) (by kernel_rfl) (by kernel_rfl) (by kernel_rfl) (by kernel_rfl) (fun _ _ _ h => h) (by rfl) (v := ?v3r2dresp_nly) ?hy3r2dresp_nly hS ?rest3r2dresp_nly
  case hy3r2dresp_nly => intro w0 hSw; obtain ⟨a0, a1, a2, a3, _⟩ := hSw; go_simp; try with_reducible rfl
  simp only [Act.put, List.setIfInBounds_toArray, List.set_cons_zero, List.set_cons_succ]
  refine late_take (i := 5) (some 36) rfl rfl (by kernel_rfl) (by kernel_rfl) (by kernel_rfl) (by kernel_rfl) (by kernel_rfl) (fun _ _ _ h => h) (by rfl) (v := ?v5r2dresp_nly) ?hy5r2dresp_nly hS ?rest5r2dresp_nly
  case hy5r2dresp_nly => intro w0 hSw; obtain ⟨a0, a1, a2, a3, _⟩ := hSw; go_simp; try with_reducible rfl
  simp only [Act.put, List.setIfInBounds_toArray, List.set_cons_zero, List.set_cons_succ]
  refine late_take (i := 6) (some 37) rfl rfl (by kernel_rfl) (by kernel_rfl) (by kernel_rfl) (by kernel_rfl) (by kernel_rfl) (fun _ _ _ h => h) (by rfl) (v := ?v6r2dresp_nly) ?hy6r2dresp_nly hS ?rest6r2dresp_nly
  case hy6r2dresp_nly => intro w0 hSw; obtain ⟨a0, a1, a2, a3, _⟩ := hSw; go_simp; try with_reducible rfl
  simp only [Act.put, List.setIfInBounds_toArray, List.set_cons_zero, List.set_cons_succ]
  refine wpAnyD_one (i := 2) (by kernel_rfl) rfl (fun K' hK => ?_)
  go_simp
  go_at_call 47
  refine (HSt.out _ HR1.out.low).mono ?_
  rintro e w2 ⟨v2, rfl, ho, hb⟩
  obtain ⟨q2, d2, rfl⟩ := own_slice ho
  have HR2 := hid (HR1.out.next hb)
  have HF2 := hid (OwnF.fat ho)
  have hS2 : Cells4O w2 w.heap.size (.int .i64 st) (.string R) (.int .i64 k) (.slice p n c) := cells4O HR2.out.bx
  refine hK _ _ ⟨fun _ => hS2, ?_⟩
  clear hK K' hb ho HR1 hS
  refine wpAnyD_one (i := 4) (by kernel_rfl) rfl (fun K' hK => ?_)
  go_simp
  go_at_call 60
  refine (HFr.out _ _ _ HF2.out).mono ?_
  rintro e w3 ⟨v3, rfl, ho, hb⟩
  obtain ⟨q3, d3, rfl⟩ := own_slice ho
  have HR3 := hid (HR2.out.next hb)
  have HO3 := hid ho
  have hS3 : Cells4O w3 w.heap.size (.int .i64 st) (.string R) (.int .i64 k) (.slice p n c) := cells4O HR3.out.bx
  refine hK _ _ ⟨fun _ => hS3, ?_⟩
  clear hK K' hb ho HR2 HF2 HFr hS2
  refine wpAnyD_one (i := 7) (by kernel_rfl) rfl (fun K' hK => ?_)
  go_simp
  go_at_call 50
  refine (HVi.out _ _ _ HO3.out.fat (own_argsO HO3.out)).mono ?_
  rintro e w4 ⟨q4, d4, rfl, ho, hb⟩
  have HR4 := hid (HR3.out.next hb)
  have HO4 := hid ho
  have HZ4 := hid (show w.heap.size + 3 ≤ w3.heap.size from Nat.succ_le_of_lt (lt_of_heap HR3.out.rz))
  have hS4 : Cells4O w4 w.heap.size (.int .i64 st) (.string R) (.int .i64 k) (.slice p n c) := cells4O HR4.out.bx
  refine hK _ _ ⟨fun _ => hS4, ?_⟩
  clear hK K' hb ho HR3 HO3 HVi hS3
  refine late_take (i := 8) (some 11) rfl rfl (by kernel_rfl) (by kernel_rfl) (by kernel_rfl) (by kernel_rfl) (by kernel_rfl) (fun _ _ _ h => h) (by rfl) (v := ?v8r2dresp_nly) ?hy8r2dresp_nly hS4 ?rest8r2dresp_nly
  case hy8r2dresp_nly => intro w0 hSw; obtain ⟨a0, a1, a2, a3, _⟩ := hSw; go_simp; try with_reducible rfl
  simp only [Act.put, List.setIfInBounds_toArray, List.set_cons_zero, List.set_cons_succ]
  refine late_done (by kernel_rfl) ?_ _
  refine NoPanic.normal ?_
  clear hS4
  obtain ⟨y0, y1, y2, y3, _⟩ := cells4O HR4.out.bx
  have HNF := hid (show F.length = ((X1).length + 1) from by rw [← HFe.out, List.length_append, show (X1).length = (X1).length from rfl]; rfl)
  by_cases hgr : greatE F.length e0 = 0
  · as_aux_lemma =>
      have HGr := hid (show ∀ (W : World) (q : Option Addr) (d : Nat), Calls Tryz.prog 56 #[.slice q ((X1).length + 1) d, .int .i64 (e0 : Int)] W fun r w' => r = .returned (.int .i64 0) ∧ w' = W from fun W q d => by
        have h := HSzd.out W q ((X1).length + 1) d e0
        rw [← HNF.out, hgr] at h
        rw [← HNF.out]
        exact h)
      
      have HGz := hid hgr
      clear hgr HSzd
      go_wp2_with (first | (go_at_call 47; (with_reducible refine (HSt.out _ HR4.out.low).mono ?_); rintro e w5 ⟨v5, rfl, ho, hb⟩; obtain ⟨q5, d5, rfl⟩ := own_slice ho; have HR5 := hid (HR4.out.next hb); have HF5 := hid (OwnF.fat ho); have HO5 := hid (HO4.out.keep hb); clear hb ho HSt HR4 HO4 y0 y1 y2 y3) | (go_at_call 61; (with_reducible refine (HKe.out _ _ _ HF5.out).mono ?_); rintro e w6 ⟨bxa, bxb, rfl, hb⟩; have hn6 := below_new w6 (.cells #[.string bxa, .string bxb] 88 (0, 0)); have HR6 := hid ((HR5.out.next hb).next hn6); have HO6 := hid ((HO5.out.keep hb).keep hn6); obtain ⟨y0, y1, y2, y3, _⟩ := cells4O HR6.out.bx; obtain ⟨fb0, fb1⟩ := box2W HR6.out.fb; clear hb hn6 HKe HR5 HF5 HO5) | (go_at_call 60; (with_reducible refine (HFd.out _ _ _ _ HLv.out HO6.out.fat).mono ?_); rintro e w7 ⟨v7, rfl, ho, hb⟩; obtain ⟨q7, d7, rfl⟩ := own_slice ho; have HR7 := hid (HR6.out.next hb); have HK7 := hid (OwnF.fat ho); clear hb ho HFd HR6 HO6 y0 y1 y2 y3; obtain ⟨y0, y1, y2, y3, _⟩ := cells4O HR7.out.bx) | (go_at_call 53; (with_reducible refine (HAc.out _ _ _ _ (show (X1).length = (X1).length from rfl) HK7.out).mono ?_); rintro e wc ⟨qc, dc, rfl, hf, hb⟩; have HRc := hid (HR7.out.next hb); have HKc := hid hf; clear hb hf HAc y0 y1 y2 y3; obtain ⟨y0, y1, y2, y3, _⟩ := cells4O HRc.out.bx) | (go_at_call 62; have HT5 := hid (show RpD w (wc.alloc (.cells #[.int .i64 st, .string R, .int .i64 mi, .slice qc ((X1).length + 1) dc] 62 (0, 0))) #[.int .i64 st, .string R, .int .i64 mi, .slice qc ((X1).length + 1) dc] qc (World.heap wc).size F from ⟨below_out HRc.out.low (below_new _ _), ((below_new wc _).block _ (lt_of_heap HRc.out.rz)).trans HRc.out.rz, heap_alloc_new wc _, FAt.next (show FAt wc qc F from by have h9 := HKc.out; rw [HFe.out] at h9; exact h9) (below_new _ _)⟩); (with_reducible refine (HWr.out _ _ _ _ HNF.out HT5.out.row).mono ?_); rintro e w10 ⟨v10, rfl, hb⟩; have HT10 := hid (HT5.out.next hb); obtain ⟨c0, c1, c2, c3, _⟩ := cells4O HT10.out.nw; obtain ⟨z0, z1, z2, z3, zz⟩ := cells4O HT10.out.rz; have zz0 := zz 0; have zz1 := zz 1; have zz2 := zz 2; have zz3 := zz 3; clear zz hb HWr HT5 y0 y1 y2 y3) | (go_at_call 56; (with_reducible refine (HGr.out _ _ _).mono ?_); rintro e w11 ⟨rfl, hw11⟩; subst w11; clear HGr))
      (try simp only [Exit.inBlock, Exit.then])
      refine bodyPost_ret (results_respO rfl _ _ _ 62 _ (0, 0) rfl (fourCO HT10.out.rz _ _ _ _) rfl) rfl ?_
      refine dpans_yes (by rw [HE0.out]; exact HGz.out) (q := qc) (d := dc) ?_ (fat_set1 HT10.out.row HNe.out HT10.out.rz (fun s e => by cases e) (fun s e => by cases e) (fun s e => by cases e) _ _ _ _) ?_
      · rw [HNF.out, HRR.out]
        rfl
      · iterate 4 refine Below.setCell ?_ (show w.heap.size ≤ w.heap.size + 2 by omega) _
        exact HT10.out.low
  · as_aux_lemma =>
      obtain ⟨ge, hge⟩ : ∃ ge : Int, (greatE F.length e0 : Int) = ge := ⟨_, rfl⟩
      have hge0 : (ge != 0) = true := by simp; omega
      have hge1 : ¬ ge = 0 := by omega
      have HGE := hid hge
      
      have HGr := hid (show ∀ (W : World) (q : Option Addr) (d : Nat), Calls Tryz.prog 56 #[.slice q ((X1).length + 1) d, .int .i64 (e0 : Int)] W fun r w' => r = .returned (.int .i64 ge) ∧ w' = W from fun W q d => by
        have h := HSzd.out W q ((X1).length + 1) d e0
        rw [← HNF.out, hge] at h
        rw [← HNF.out]
        exact h)
      
      have HGz := hid hgr
      clear hgr HSzd hge
      go_wp2_with (first | (go_at_call 47; (with_reducible refine (HSt.out _ HR4.out.low).mono ?_); rintro e w5 ⟨v5, rfl, ho, hb⟩; obtain ⟨q5, d5, rfl⟩ := own_slice ho; have HR5 := hid (HR4.out.next hb); have HF5 := hid (OwnF.fat ho); have HO5 := hid (HO4.out.keep hb); clear hb ho HSt HR4 HO4 y0 y1 y2 y3) | (go_at_call 61; (with_reducible refine (HKe.out _ _ _ HF5.out).mono ?_); rintro e w6 ⟨bxa, bxb, rfl, hb⟩; have hn6 := below_new w6 (.cells #[.string bxa, .string bxb] 88 (0, 0)); have HR6 := hid ((HR5.out.next hb).next hn6); have HO6 := hid ((HO5.out.keep hb).keep hn6); obtain ⟨y0, y1, y2, y3, _⟩ := cells4O HR6.out.bx; obtain ⟨fb0, fb1⟩ := box2W HR6.out.fb; clear hb hn6 HKe HR5 HF5 HO5) | (go_at_call 60; (with_reducible refine (HFd.out _ _ _ _ HLv.out HO6.out.fat).mono ?_); rintro e w7 ⟨v7, rfl, ho, hb⟩; obtain ⟨q7, d7, rfl⟩ := own_slice ho; have HR7 := hid (HR6.out.next hb); have HK7 := hid (OwnF.fat ho); clear hb ho HFd HR6 HO6 y0 y1 y2 y3; obtain ⟨y0, y1, y2, y3, _⟩ := cells4O HR7.out.bx) | (go_at_call 53; (with_reducible refine (HAc.out _ _ _ _ (show (X1).length = (X1).length from rfl) HK7.out).mono ?_); rintro e wc ⟨qc, dc, rfl, hf, hb⟩; have HRc := hid (HR7.out.next hb); have HKc := hid hf; clear hb hf HAc y0 y1 y2 y3; obtain ⟨y0, y1, y2, y3, _⟩ := cells4O HRc.out.bx) | (go_at_call 62; have HT5 := hid (show RpD w (wc.alloc (.cells #[.int .i64 st, .string R, .int .i64 mi, .slice qc ((X1).length + 1) dc] 62 (0, 0))) #[.int .i64 st, .string R, .int .i64 mi, .slice qc ((X1).length + 1) dc] qc (World.heap wc).size F from ⟨below_out HRc.out.low (below_new _ _), ((below_new wc _).block _ (lt_of_heap HRc.out.rz)).trans HRc.out.rz, heap_alloc_new wc _, FAt.next (show FAt wc qc F from by have h9 := HKc.out; rw [HFe.out] at h9; exact h9) (below_new _ _)⟩); (with_reducible refine (HWr.out _ _ _ _ HNF.out HT5.out.row).mono ?_); rintro e w10 ⟨v10, rfl, hb⟩; have HT10 := hid (HT5.out.next hb); obtain ⟨c0, c1, c2, c3, _⟩ := cells4O HT10.out.nw; obtain ⟨z0, z1, z2, z3, zz⟩ := cells4O HT10.out.rz; have zz0 := zz 0; have zz1 := zz 1; have zz2 := zz 2; have zz3 := zz 3; clear zz hb HWr HT5 y0 y1 y2 y3) | (go_at_call 56; (with_reducible refine (HGr.out _ _ _).mono ?_); rintro e w11 ⟨rfl, hw11⟩; subst w11; clear HGr))
      (try simp only [Exit.inBlock, Exit.then])
      refine bodyPost_ret (results_respO rfl _ _ _ 62 _ (0, 0) rfl (fourCO HT10.out.rz _ _ _ _) rfl) rfl ?_
      refine dpans_no (by rw [HE0.out]; exact HGz.out) (by rw [HE0.out, HGE.out]; rfl) ?_
      iterate 4 refine Below.setCell ?_ (show w.heap.size ≤ w.heap.size + 2 by omega) _
      exact HT10.out.low
set_option maxRecDepth 20000 in
set_option maxHeartbeats 32000000 in
theorem dresp_nl (st : Int) (r : B) (k : Int) (fs : List (B × B)) (p : Option Addr) (n c : Nat) (hn : fs.length = n) (L mi : Int) (w : World) (hF : FAt w p fs) (hsz : szN fs) (hnn : n ≤ 1000) (hr : r.length ≤ 1048576) (hL0 : -9223372036854775808 ≤ L) (hL1 : L ≤ 9223372036854775807) (hs1 : ¬ 100 ≤ st) (hO : ownF1 (stripF fs) = none) :
    Calls Tryz.prog 26 #[.agg #[.int .i64 st, .string (str r), .int .i64 k, .slice p n c], .agg #[.int .i64 0, .int .i64 L], .int .i64 mi, .bool false] w fun e w' => DPAns st r mi (onP st 0 L false fs k) w e w' := by
  have hB : bareS st = false := by unfold bareS; rw [decide_eq_false (by omega), decide_eq_false (by omega)]; rfl
  have hFz : szC 1048576 (onP st 0 L false fs k) := onP_sz hsz hL0 hL1
  have h1w := szC_W (onP1_sz (k := k) hsz) (by decide)
  have h0w : szW (stripF fs) := fun f hf => szC_W (C := 1048576) hsz (by decide) f (List.mem_filter.1 hf).1
  have h0n : szN (stripF fs) := fun f hf => hsz f (List.mem_filter.1 hf).1
  have HSt := hid (show ∀ W : World, Below w.heap.size w W → _ from fun W hb => dstrip fs p n c hn W (hF.next hb) hsz hnn)
  have hl0 := stripF_le fs
  have hlf := framF_len (stripF fs) 0 0
  have hl1 := onP1_len fs k
  have hl2 := onP2_len st 0 L fs k
  have hlP := onP_len st 0 L false fs k
  have hnP := onP_ne st 0 L false fs k
  have HFr := hid (show ∀ (W : World) (q : Option Addr) (d : Nat), FAt W q (stripF fs) → _ from fun W q d h => dframing (stripF fs) 0 0 q (stripF fs).length d rfl W h h0w (by omega) (by decide) (by decide))
  have HVi := hid (show ∀ (W : World) (q : Option Addr) (d : Nat), FAt W q (framF (stripF fs) 0 0) → (q = none → d = 0) → _ from fun W q d h hc => dviaO (framF (stripF fs) 0 0) k q (framF (stripF fs) 0 0).length d rfl hc W h (by omega))
  rw [show viaF (framF (stripF fs) 0 0) k = onP1 fs k from rfl] at HVi
  have HLv := hid (show (onP1 fs k).length = (framF (stripF fs) 0 0).length + 1 from by unfold onP1 viaF; rw [List.length_append]; rfl)
  have HKe0 := hid (show ∀ (W : World) (q : Option Addr) (d : Nat), FAt W q (stripF fs) → _ from fun W q d h => dkept (stripF fs) q (stripF fs).length d rfl W h h0n (by omega))
  have HKe := hid (show ∀ (W : World) (q : Option Addr) (d : Nat), FAt W q (stripF fs) → Calls Tryz.prog 61 #[.slice q (stripF fs).length d] W fun e w' => ∃ a b, e = .returned (.tuple #[.agg #[.string a, .string b], .bool false]) ∧ Below W.heap.size W w' from fun W q d h => (HKe0.out W q d h).mono (by
    rintro e w' (⟨f', h1, _⟩ | ⟨_, a, b, h2, h3⟩)
    · rw [hO] at h1
      cases h1
    · exact ⟨a, b, h2, h3⟩))
  have HFd := hid (show ∀ (W : World) (q : Option Addr) (s d : Nat), (onP1 fs k).length = s → FAt W q (onP1 fs k) → _ from fun W q s d hs h => dframing (onP1 fs k) 0 L q s d hs W h h1w (by omega) hL0 hL1)
  rw [fram_id] at HFd
  obtain ⟨F, hFF⟩ : ∃ F, onP st 0 L false fs k = F := ⟨_, rfl⟩
  rw [hFF] at hFz hlP hnP
  rw [hFF]
  have HNe := hid hnP
  have HWr := hid (show ∀ (W : World) (q : Option Addr) (s d : Nat), F.length = s → FAt W q F → _ from fun W q s d hs h => rresp_e st r mi F q s d hs W h hFz (by omega) hr)
  have HFe := hid (show onP1 fs k = F from by rw [← hFF]; unfold onP; rw [if_neg (by decide), onP2_n hB hO])
  have HSzd := hid (show ∀ (W : World) (q : Option Addr) (s d e : Nat), _ from fun W q s d e => dsized q s d e W)
  obtain ⟨e0, he0⟩ : ∃ e0, respE st r mi F = e0 := ⟨_, rfl⟩
  have HE0 := hid he0
  rw [he0] at HWr
  obtain ⟨R, hR⟩ : ∃ R, str r = R := ⟨_, rfl⟩
  have HRR := hid hR
  rw [hR] at HWr
  rw [hR]
  obtain ⟨X0, hX0⟩ : ∃ X, stripF fs = X := ⟨_, rfl⟩
  rw [hX0] at HSt HFr HVi HKe HLv
  obtain ⟨XF, hXF⟩ : ∃ X, framF X0 0 0 = X := ⟨_, rfl⟩
  rw [hXF] at HFr HVi HLv
  have hxf : XF.length ≤ 2000 := by rw [← hXF, ← hX0]; omega
  obtain ⟨X1, hX1⟩ : ∃ X, onP1 fs k = X := ⟨_, rfl⟩
  rw [hX1] at HVi HLv HFe HFd
  have HR0 := hid (RpO.start w #[.int .i64 st, .string R, .int .i64 k, .slice p n c] #[.int .i64 0, .int .i64 L])
  obtain ⟨i0, hi0, hz0, hz1, hz2⟩ := info_parts infoF
  clear hF hsz hFz h1w h0w h0n hlf hl1 hl2 hlP hnP hFF he0 hR hX0 hXF hX1 hB hr HKe0 hO
  go_enter Tryz.func26, Tryz.ntmps26
  obtain ⟨y0, y1, y2, y3, _⟩ := cells4O HR0.out.bx
  go_wp2
  have HR1 := hid (show RpO w (((w.alloc (.cells #[.int .i64 st, .string R, .int .i64 k, .slice p n c] 62 (0, 0))).alloc (.cells #[.int .i64 0, .int .i64 L] 23 (0, 0))).alloc (.cells #[.int .i64 0, .string ⟨#[]⟩, .int .i64 0, .slice none 0 0] 62 (0, 0))).drew #[.int .i64 st, .string R, .int .i64 k, .slice p n c] #[.int .i64 0, .int .i64 L] from HR0.out.next ⟨rfl, rfl, rfl, Nat.le_refl _, fun _ _ => rfl⟩)
  generalize hW1 : (((w.alloc (.cells #[.int .i64 st, .string R, .int .i64 k, .slice p n c] 62 (0, 0))).alloc (.cells #[.int .i64 0, .int .i64 L] 23 (0, 0))).alloc (.cells #[.int .i64 0, .string ⟨#[]⟩, .int .i64 0, .slice none 0 0] 62 (0, 0))).drew = w1 at HR1
  refine wp_region_noPanic ?_
  refine any_begin 9 (by kernel_rfl) (by kernel_rfl) ?_
  rw [hW1]
  clear hW1 HR0 y0 y1 y2 y3
  refine late_begin (fun U => Cells4O U w.heap.size (.int .i64 st) (.string R) (.int .i64 k) (.slice p n c)) (fun _ => false) (show Cells4O w1 w.heap.size (.int .i64 st) (.string R) (.int .i64 k) (.slice p n c) from cells4O HR1.out.bx) (fun hS => ?_)
  refine late_take (i := 0) (some 31) rfl rfl (by kernel_rfl) (by kernel_rfl) (by kernel_rfl) (by kernel_rfl) (by kernel_rfl) (fun _ _ _ h => h) (by rfl) (v := ?v0r2dresp_nl) ?hy0r2dresp_nl hS ?rest0r2dresp_nl
  case hy0r2dresp_nl => intro w0 hSw; obtain ⟨a0, a1, a2, a3, _⟩ := hSw; go_simp; try with_reducible rfl
  simp only [Act.put, List.setIfInBounds_toArray, List.set_cons_zero, List.set_cons_succ]
  refine late_take (i := 1) (some 32) rfl rfl (by kernel_rfl) (by kernel_rfl) (by kernel_rfl) (by kernel_rfl) (by kernel_rfl) (fun _ _ _ h => h) (by rfl) (v := ?v1r2dresp_nl) ?hy1r2dresp_nl hS ?rest1r2dresp_nl
  case hy1r2dresp_nl => intro w0 hSw; obtain ⟨a0, a1, a2, a3, _⟩ := hSw; go_simp; try with_reducible rfl
  simp only [Act.put, List.setIfInBounds_toArray, List.set_cons_zero, List.set_cons_succ]
  refine late_take (i := 3) (some 34) rfl rfl (by kernel_rfl) (by kernel_rfl) (by kernel_rfl) (by kernel_rfl) (by kernel_rfl) (fun _ _ _ h => h) (by rfl) (v := ?v3r2dresp_nl) ?hy3r2dresp_nl hS ?rest3r2dresp_nl
  case hy3r2dresp_nl => intro w0 hSw; obtain ⟨a0, a1, a2, a3, _⟩ := hSw; go_simp; try with_reducible rfl
  simp only [Act.put, List.setIfInBounds_toArray, List.set_cons_zero, List.set_cons_succ]
  refine late_take (i := 5) (some 36) rfl rfl (by kernel_rfl) (by kernel_rfl) (by kernel_rfl) (by kernel_rfl) (by kernel_rfl) (fun _ _ _ h => h) (by rfl) (v := ?v5r2dresp_nl) ?hy5r2dresp_nl hS ?rest5r2dresp_nl
  case hy5r2dresp_nl => intro w0 hSw; obtain ⟨a0, a1, a2, a3, _⟩ := hSw; go_simp; try with_reducible rfl
  simp only [Act.put, List.setIfInBounds_toArray, List.set_cons_zero, List.set_cons_succ]
  refine late_take (i := 6) (some 37) rfl rfl (by kernel_rfl) (by kernel_rfl) (by kernel_rfl) (by kernel_rfl) (by kernel_rfl) (fun _ _ _ h => h) (by rfl) (v := ?v6r2dresp_nl) ?hy6r2dresp_nl hS ?rest6r2dresp_nl
  case hy6r2dresp_nl => intro w0 hSw; obtain ⟨a0, a1, a2, a3, _⟩ := hSw; go_simp; try with_reducible rfl
  simp only [Act.put, List.setIfInBounds_toArray, List.set_cons_zero, List.set_cons_succ]
  refine wpAnyD_one (i := 2) (by kernel_rfl) rfl (fun K' hK => ?_)
  go_simp
  go_at_call 47
  refine (HSt.out _ HR1.out.low).mono ?_
  rintro e w2 ⟨v2, rfl, ho, hb⟩
  obtain ⟨q2, d2, rfl⟩ := own_slice ho
  have HR2 := hid (HR1.out.next hb)
  have HF2 := hid (OwnF.fat ho)
  have hS2 : Cells4O w2 w.heap.size (.int .i64 st) (.string R) (.int .i64 k) (.slice p n c) := cells4O HR2.out.bx
  refine hK _ _ ⟨fun _ => hS2, ?_⟩
  clear hK K' hb ho HR1 hS
  refine wpAnyD_one (i := 4) (by kernel_rfl) rfl (fun K' hK => ?_)
  go_simp
  go_at_call 60
  refine (HFr.out _ _ _ HF2.out).mono ?_
  rintro e w3 ⟨v3, rfl, ho, hb⟩
  obtain ⟨q3, d3, rfl⟩ := own_slice ho
  have HR3 := hid (HR2.out.next hb)
  have HO3 := hid ho
  have hS3 : Cells4O w3 w.heap.size (.int .i64 st) (.string R) (.int .i64 k) (.slice p n c) := cells4O HR3.out.bx
  refine hK _ _ ⟨fun _ => hS3, ?_⟩
  clear hK K' hb ho HR2 HF2 HFr hS2
  refine wpAnyD_one (i := 7) (by kernel_rfl) rfl (fun K' hK => ?_)
  go_simp
  go_at_call 50
  refine (HVi.out _ _ _ HO3.out.fat (own_argsO HO3.out)).mono ?_
  rintro e w4 ⟨q4, d4, rfl, ho, hb⟩
  have HR4 := hid (HR3.out.next hb)
  have HO4 := hid ho
  have HZ4 := hid (show w.heap.size + 3 ≤ w3.heap.size from Nat.succ_le_of_lt (lt_of_heap HR3.out.rz))
  have hS4 : Cells4O w4 w.heap.size (.int .i64 st) (.string R) (.int .i64 k) (.slice p n c) := cells4O HR4.out.bx
  refine hK _ _ ⟨fun _ => hS4, ?_⟩
  clear hK K' hb ho HR3 HO3 HVi hS3
  refine late_take (i := 8) (some 11) rfl rfl (by kernel_rfl) (by kernel_rfl) (by kernel_rfl) (by kernel_rfl) (by kernel_rfl) (fun _ _ _ h => h) (by rfl) (v := ?v8r2dresp_nl) ?hy8r2dresp_nl hS4 ?rest8r2dresp_nl
  case hy8r2dresp_nl => intro w0 hSw; obtain ⟨a0, a1, a2, a3, _⟩ := hSw; go_simp; try with_reducible rfl
  simp only [Act.put, List.setIfInBounds_toArray, List.set_cons_zero, List.set_cons_succ]
  refine late_done (by kernel_rfl) ?_ _
  refine NoPanic.normal ?_
  clear hS4
  obtain ⟨y0, y1, y2, y3, _⟩ := cells4O HR4.out.bx
  have HNF := hid (show F.length = (X1).length from (congrArg List.length HFe.out.symm).trans (show (X1).length = (X1).length from rfl))
  by_cases hgr : greatE F.length e0 = 0
  · as_aux_lemma =>
      have HGr := hid (show ∀ (W : World) (q : Option Addr) (d : Nat), Calls Tryz.prog 56 #[.slice q (X1).length d, .int .i64 (e0 : Int)] W fun r w' => r = .returned (.int .i64 0) ∧ w' = W from fun W q d => by
        have h := HSzd.out W q (X1).length d e0
        rw [← HNF.out, hgr] at h
        rw [← HNF.out]
        exact h)
      
      have HGz := hid hgr
      clear hgr HSzd
      go_wp2_with (first | (go_at_call 47; (with_reducible refine (HSt.out _ HR4.out.low).mono ?_); rintro e w5 ⟨v5, rfl, ho, hb⟩; obtain ⟨q5, d5, rfl⟩ := own_slice ho; have HR5 := hid (HR4.out.next hb); have HF5 := hid (OwnF.fat ho); have HO5 := hid (HO4.out.keep hb); clear hb ho HSt HR4 HO4 y0 y1 y2 y3) | (go_at_call 61; (with_reducible refine (HKe.out _ _ _ HF5.out).mono ?_); rintro e w6 ⟨bxa, bxb, rfl, hb⟩; have hn6 := below_new w6 (.cells #[.string bxa, .string bxb] 88 (0, 0)); have HR6 := hid ((HR5.out.next hb).next hn6); have HO6 := hid ((HO5.out.keep hb).keep hn6); obtain ⟨y0, y1, y2, y3, _⟩ := cells4O HR6.out.bx; obtain ⟨fb0, fb1⟩ := box2W HR6.out.fb; clear hb hn6 HKe HR5 HF5 HO5) | (go_at_call 60; (with_reducible refine (HFd.out _ _ _ _ HLv.out HO6.out.fat).mono ?_); rintro e w7 ⟨v7, rfl, ho, hb⟩; obtain ⟨q7, d7, rfl⟩ := own_slice ho; have HR7 := hid (HR6.out.next hb); have HK7 := hid (OwnF.fat ho); clear hb ho HFd HR6 HO6 y0 y1 y2 y3; obtain ⟨y0, y1, y2, y3, _⟩ := cells4O HR7.out.bx) | (go_at_call 62; have HT5 := hid (show RpD w (w7.alloc (.cells #[.int .i64 st, .string R, .int .i64 mi, .slice q7 (X1).length d7] 62 (0, 0))) #[.int .i64 st, .string R, .int .i64 mi, .slice q7 (X1).length d7] q7 (World.heap w7).size F from ⟨below_out HR7.out.low (below_new _ _), ((below_new w7 _).block _ (lt_of_heap HR7.out.rz)).trans HR7.out.rz, heap_alloc_new w7 _, FAt.next (show FAt w7 q7 F from by have h9 := HK7.out; rw [HFe.out] at h9; exact h9) (below_new _ _)⟩); (with_reducible refine (HWr.out _ _ _ _ HNF.out HT5.out.row).mono ?_); rintro e w10 ⟨v10, rfl, hb⟩; have HT10 := hid (HT5.out.next hb); obtain ⟨c0, c1, c2, c3, _⟩ := cells4O HT10.out.nw; obtain ⟨z0, z1, z2, z3, zz⟩ := cells4O HT10.out.rz; have zz0 := zz 0; have zz1 := zz 1; have zz2 := zz 2; have zz3 := zz 3; clear zz hb HWr HT5 y0 y1 y2 y3) | (go_at_call 56; (with_reducible refine (HGr.out _ _ _).mono ?_); rintro e w11 ⟨rfl, hw11⟩; subst w11; clear HGr))
      (try simp only [Exit.inBlock, Exit.then])
      refine bodyPost_ret (results_respO rfl _ _ _ 62 _ (0, 0) rfl (fourCO HT10.out.rz _ _ _ _) rfl) rfl ?_
      refine dpans_yes (by rw [HE0.out]; exact HGz.out) (q := q7) (d := d7) ?_ (fat_set1 HT10.out.row HNe.out HT10.out.rz (fun s e => by cases e) (fun s e => by cases e) (fun s e => by cases e) _ _ _ _) ?_
      · rw [HNF.out, HRR.out]
        rfl
      · iterate 4 refine Below.setCell ?_ (show w.heap.size ≤ w.heap.size + 2 by omega) _
        exact HT10.out.low
  · as_aux_lemma =>
      obtain ⟨ge, hge⟩ : ∃ ge : Int, (greatE F.length e0 : Int) = ge := ⟨_, rfl⟩
      have hge0 : (ge != 0) = true := by simp; omega
      have hge1 : ¬ ge = 0 := by omega
      have HGE := hid hge
      
      have HGr := hid (show ∀ (W : World) (q : Option Addr) (d : Nat), Calls Tryz.prog 56 #[.slice q (X1).length d, .int .i64 (e0 : Int)] W fun r w' => r = .returned (.int .i64 ge) ∧ w' = W from fun W q d => by
        have h := HSzd.out W q (X1).length d e0
        rw [← HNF.out, hge] at h
        rw [← HNF.out]
        exact h)
      
      have HGz := hid hgr
      clear hgr HSzd hge
      go_wp2_with (first | (go_at_call 47; (with_reducible refine (HSt.out _ HR4.out.low).mono ?_); rintro e w5 ⟨v5, rfl, ho, hb⟩; obtain ⟨q5, d5, rfl⟩ := own_slice ho; have HR5 := hid (HR4.out.next hb); have HF5 := hid (OwnF.fat ho); have HO5 := hid (HO4.out.keep hb); clear hb ho HSt HR4 HO4 y0 y1 y2 y3) | (go_at_call 61; (with_reducible refine (HKe.out _ _ _ HF5.out).mono ?_); rintro e w6 ⟨bxa, bxb, rfl, hb⟩; have hn6 := below_new w6 (.cells #[.string bxa, .string bxb] 88 (0, 0)); have HR6 := hid ((HR5.out.next hb).next hn6); have HO6 := hid ((HO5.out.keep hb).keep hn6); obtain ⟨y0, y1, y2, y3, _⟩ := cells4O HR6.out.bx; obtain ⟨fb0, fb1⟩ := box2W HR6.out.fb; clear hb hn6 HKe HR5 HF5 HO5) | (go_at_call 60; (with_reducible refine (HFd.out _ _ _ _ HLv.out HO6.out.fat).mono ?_); rintro e w7 ⟨v7, rfl, ho, hb⟩; obtain ⟨q7, d7, rfl⟩ := own_slice ho; have HR7 := hid (HR6.out.next hb); have HK7 := hid (OwnF.fat ho); clear hb ho HFd HR6 HO6 y0 y1 y2 y3; obtain ⟨y0, y1, y2, y3, _⟩ := cells4O HR7.out.bx) | (go_at_call 62; have HT5 := hid (show RpD w (w7.alloc (.cells #[.int .i64 st, .string R, .int .i64 mi, .slice q7 (X1).length d7] 62 (0, 0))) #[.int .i64 st, .string R, .int .i64 mi, .slice q7 (X1).length d7] q7 (World.heap w7).size F from ⟨below_out HR7.out.low (below_new _ _), ((below_new w7 _).block _ (lt_of_heap HR7.out.rz)).trans HR7.out.rz, heap_alloc_new w7 _, FAt.next (show FAt w7 q7 F from by have h9 := HK7.out; rw [HFe.out] at h9; exact h9) (below_new _ _)⟩); (with_reducible refine (HWr.out _ _ _ _ HNF.out HT5.out.row).mono ?_); rintro e w10 ⟨v10, rfl, hb⟩; have HT10 := hid (HT5.out.next hb); obtain ⟨c0, c1, c2, c3, _⟩ := cells4O HT10.out.nw; obtain ⟨z0, z1, z2, z3, zz⟩ := cells4O HT10.out.rz; have zz0 := zz 0; have zz1 := zz 1; have zz2 := zz 2; have zz3 := zz 3; clear zz hb HWr HT5 y0 y1 y2 y3) | (go_at_call 56; (with_reducible refine (HGr.out _ _ _).mono ?_); rintro e w11 ⟨rfl, hw11⟩; subst w11; clear HGr))
      (try simp only [Exit.inBlock, Exit.then])
      refine bodyPost_ret (results_respO rfl _ _ _ 62 _ (0, 0) rfl (fourCO HT10.out.rz _ _ _ _) rfl) rfl ?_
      refine dpans_no (by rw [HE0.out]; exact HGz.out) (by rw [HE0.out, HGE.out]; rfl) ?_
      iterate 4 refine Below.setCell ?_ (show w.heap.size ≤ w.heap.size + 2 by omega) _
      exact HT10.out.low
set_option maxRecDepth 20000 in
set_option maxHeartbeats 32000000 in
theorem dresp_nhy (st : Int) (r : B) (k : Int) (fs : List (B × B)) (p : Option Addr) (n c : Nat) (hn : fs.length = n) (L mi : Int) (w : World) (hF : FAt w p fs) (hsz : szN fs) (hnn : n ≤ 1000) (hr : r.length ≤ 1048576) (hL0 : -9223372036854775808 ≤ L) (hL1 : L ≤ 9223372036854775807) (hs1 : 100 ≤ st) (hs2 : ¬ st ≤ 199) (hs3 : ¬ st = 204) (hO : ownF1 (stripF fs) = none) :
    Calls Tryz.prog 26 #[.agg #[.int .i64 st, .string (str r), .int .i64 k, .slice p n c], .agg #[.int .i64 0, .int .i64 L], .int .i64 mi, .bool true] w fun e w' => DPAns st r mi (onP st 0 L true fs k) w e w' := by
  have hB : bareS st = false := by unfold bareS; rw [decide_eq_false (by omega), decide_eq_false hs3]; rfl
  have hFz : szC 1048576 (onP st 0 L true fs k) := onP_sz hsz hL0 hL1
  have h1w := szC_W (onP1_sz (k := k) hsz) (by decide)
  have h0w : szW (stripF fs) := fun f hf => szC_W (C := 1048576) hsz (by decide) f (List.mem_filter.1 hf).1
  have h0n : szN (stripF fs) := fun f hf => hsz f (List.mem_filter.1 hf).1
  have HSt := hid (show ∀ W : World, Below w.heap.size w W → _ from fun W hb => dstrip fs p n c hn W (hF.next hb) hsz hnn)
  have hl0 := stripF_le fs
  have hlf := framF_len (stripF fs) 0 0
  have hl1 := onP1_len fs k
  have hl2 := onP2_len st 0 L fs k
  have hlP := onP_len st 0 L true fs k
  have hnP := onP_ne st 0 L true fs k
  have HFr := hid (show ∀ (W : World) (q : Option Addr) (d : Nat), FAt W q (stripF fs) → _ from fun W q d h => dframing (stripF fs) 0 0 q (stripF fs).length d rfl W h h0w (by omega) (by decide) (by decide))
  have HVi := hid (show ∀ (W : World) (q : Option Addr) (d : Nat), FAt W q (framF (stripF fs) 0 0) → (q = none → d = 0) → _ from fun W q d h hc => dviaO (framF (stripF fs) 0 0) k q (framF (stripF fs) 0 0).length d rfl hc W h (by omega))
  rw [show viaF (framF (stripF fs) 0 0) k = onP1 fs k from rfl] at HVi
  have HLv := hid (show (onP1 fs k).length = (framF (stripF fs) 0 0).length + 1 from by unfold onP1 viaF; rw [List.length_append]; rfl)
  have HKe0 := hid (show ∀ (W : World) (q : Option Addr) (d : Nat), FAt W q (stripF fs) → _ from fun W q d h => dkept (stripF fs) q (stripF fs).length d rfl W h h0n (by omega))
  have HKe := hid (show ∀ (W : World) (q : Option Addr) (d : Nat), FAt W q (stripF fs) → Calls Tryz.prog 61 #[.slice q (stripF fs).length d] W fun e w' => ∃ a b, e = .returned (.tuple #[.agg #[.string a, .string b], .bool false]) ∧ Below W.heap.size W w' from fun W q d h => (HKe0.out W q d h).mono (by
    rintro e w' (⟨f', h1, _⟩ | ⟨_, a, b, h2, h3⟩)
    · rw [hO] at h1
      cases h1
    · exact ⟨a, b, h2, h3⟩))
  have HFd := hid (show ∀ (W : World) (q : Option Addr) (s d : Nat), (onP1 fs k).length = s → FAt W q (onP1 fs k) → _ from fun W q s d hs h => dframing (onP1 fs k) 0 L q s d hs W h h1w (by omega) hL0 hL1)
  rw [fram_id] at HFd
  have HAc0 := hid (show ∀ (W : World) (q : Option Addr) (s d : Nat), (onP1 fs k).length = s → FAt W q (onP1 fs k) → _ from fun W q s d hs h => dadd (onP1 fs k) q s d hs connB cloB W h (fun e => absurd e (fat_some h (by have h9 := onP2_ne st 0 L fs k; rw [onP2_n hB hO] at h9; exact h9))) (by have h9 := hl2; rw [onP2_n hB hO] at h9; omega))
  have HAc := hid (show ∀ (W : World) (q : Option Addr) (s d : Nat), (onP1 fs k).length = s → FAt W q (onP1 fs k) → Calls Tryz.prog 53 #[.slice q s d, .string (⟨#[67, 111, 110, 110, 101, 99, 116, 105, 111, 110]⟩ : ByteArray), .string (⟨#[99, 108, 111, 115, 101]⟩ : ByteArray)] W _ from HAc0.out)
  obtain ⟨F, hFF⟩ : ∃ F, onP st 0 L true fs k = F := ⟨_, rfl⟩
  rw [hFF] at hFz hlP hnP
  rw [hFF]
  have HNe := hid hnP
  have HWr := hid (show ∀ (W : World) (q : Option Addr) (s d : Nat), F.length = s → FAt W q F → _ from fun W q s d hs h => rresp_e st r mi F q s d hs W h hFz (by omega) hr)
  have HFe := hid (show onP1 fs k ++ [(connB, cloB)] = F from by rw [← hFF]; unfold onP; rw [if_pos rfl, onP2_n hB hO])
  have HSzd := hid (show ∀ (W : World) (q : Option Addr) (s d e : Nat), _ from fun W q s d e => dsized q s d e W)
  obtain ⟨e0, he0⟩ : ∃ e0, respE st r mi F = e0 := ⟨_, rfl⟩
  have HE0 := hid he0
  rw [he0] at HWr
  obtain ⟨R, hR⟩ : ∃ R, str r = R := ⟨_, rfl⟩
  have HRR := hid hR
  rw [hR] at HWr
  rw [hR]
  obtain ⟨X0, hX0⟩ : ∃ X, stripF fs = X := ⟨_, rfl⟩
  rw [hX0] at HSt HFr HVi HKe HLv
  obtain ⟨XF, hXF⟩ : ∃ X, framF X0 0 0 = X := ⟨_, rfl⟩
  rw [hXF] at HFr HVi HLv
  have hxf : XF.length ≤ 2000 := by rw [← hXF, ← hX0]; omega
  obtain ⟨X1, hX1⟩ : ∃ X, onP1 fs k = X := ⟨_, rfl⟩
  rw [hX1] at HVi HLv HFe HFd HAc
  have HR0 := hid (RpO.start w #[.int .i64 st, .string R, .int .i64 k, .slice p n c] #[.int .i64 0, .int .i64 L])
  obtain ⟨i0, hi0, hz0, hz1, hz2⟩ := info_parts infoF
  clear hF hsz hFz h1w h0w h0n hlf hl1 hl2 hlP hnP hFF he0 hR hX0 hXF hX1 hB hr HKe0 hO HAc0
  go_enter Tryz.func26, Tryz.ntmps26
  obtain ⟨y0, y1, y2, y3, _⟩ := cells4O HR0.out.bx
  go_wp2
  have HR1 := hid (show RpO w (((w.alloc (.cells #[.int .i64 st, .string R, .int .i64 k, .slice p n c] 62 (0, 0))).alloc (.cells #[.int .i64 0, .int .i64 L] 23 (0, 0))).alloc (.cells #[.int .i64 0, .string ⟨#[]⟩, .int .i64 0, .slice none 0 0] 62 (0, 0))).drew #[.int .i64 st, .string R, .int .i64 k, .slice p n c] #[.int .i64 0, .int .i64 L] from HR0.out.next ⟨rfl, rfl, rfl, Nat.le_refl _, fun _ _ => rfl⟩)
  generalize hW1 : (((w.alloc (.cells #[.int .i64 st, .string R, .int .i64 k, .slice p n c] 62 (0, 0))).alloc (.cells #[.int .i64 0, .int .i64 L] 23 (0, 0))).alloc (.cells #[.int .i64 0, .string ⟨#[]⟩, .int .i64 0, .slice none 0 0] 62 (0, 0))).drew = w1 at HR1
  refine wp_region_noPanic ?_
  refine any_begin 9 (by kernel_rfl) (by kernel_rfl) ?_
  rw [hW1]
  clear hW1 HR0 y0 y1 y2 y3
  refine late_begin (fun U => Cells4O U w.heap.size (.int .i64 st) (.string R) (.int .i64 k) (.slice p n c)) (fun _ => false) (show Cells4O w1 w.heap.size (.int .i64 st) (.string R) (.int .i64 k) (.slice p n c) from cells4O HR1.out.bx) (fun hS => ?_)
  refine late_take (i := 0) (some 31) rfl rfl (by kernel_rfl) (by kernel_rfl) (by kernel_rfl) (by kernel_rfl) (by kernel_rfl) (fun _ _ _ h => h) (by rfl) (v := ?v0r2dresp_nhy) ?hy0r2dresp_nhy hS ?rest0r2dresp_nhy
  case hy0r2dresp_nhy => intro w0 hSw; obtain ⟨a0, a1, a2, a3, _⟩ := hSw; go_simp; try with_reducible rfl
  simp only [Act.put, List.setIfInBounds_toArray, List.set_cons_zero, List.set_cons_succ]
  refine late_take (i := 1) (some 32) rfl rfl (by kernel_rfl) (by kernel_rfl) (by kernel_rfl) (by kernel_rfl) (by kernel_rfl) (fun _ _ _ h => h) (by rfl) (v := ?v1r2dresp_nhy) ?hy1r2dresp_nhy hS ?rest1r2dresp_nhy
  case hy1r2dresp_nhy => intro w0 hSw; obtain ⟨a0, a1, a2, a3, _⟩ := hSw; go_simp; try with_reducible rfl
  simp only [Act.put, List.setIfInBounds_toArray, List.set_cons_zero, List.set_cons_succ]
  refine late_take (i := 3) (some 34) rfl rfl (by kernel_rfl) (by kernel_rfl) (by kernel_rfl) (by kernel_rfl) (by kernel_rfl) (fun _ _ _ h => h) (by rfl) (v := ?v3r2dresp_nhy) ?hy3r2dresp_nhy hS ?rest3r2dresp_nhy
  case hy3r2dresp_nhy => intro w0 hSw; obtain ⟨a0, a1, a2, a3, _⟩ := hSw; go_simp; try with_reducible rfl
  simp only [Act.put, List.setIfInBounds_toArray, List.set_cons_zero, List.set_cons_succ]
  refine late_take (i := 5) (some 36) rfl rfl (by kernel_rfl) (by kernel_rfl) (by kernel_rfl) (by kernel_rfl) (by kernel_rfl) (fun _ _ _ h => h) (by rfl) (v := ?v5r2dresp_nhy) ?hy5r2dresp_nhy hS ?rest5r2dresp_nhy
  case hy5r2dresp_nhy => intro w0 hSw; obtain ⟨a0, a1, a2, a3, _⟩ := hSw; go_simp; try with_reducible rfl
  simp only [Act.put, List.setIfInBounds_toArray, List.set_cons_zero, List.set_cons_succ]
  refine late_take (i := 6) (some 37) rfl rfl (by kernel_rfl) (by kernel_rfl) (by kernel_rfl) (by kernel_rfl) (by kernel_rfl) (fun _ _ _ h => h) (by rfl) (v := ?v6r2dresp_nhy) ?hy6r2dresp_nhy hS ?rest6r2dresp_nhy
  case hy6r2dresp_nhy => intro w0 hSw; obtain ⟨a0, a1, a2, a3, _⟩ := hSw; go_simp; try with_reducible rfl
  simp only [Act.put, List.setIfInBounds_toArray, List.set_cons_zero, List.set_cons_succ]
  refine wpAnyD_one (i := 2) (by kernel_rfl) rfl (fun K' hK => ?_)
  go_simp
  go_at_call 47
  refine (HSt.out _ HR1.out.low).mono ?_
  rintro e w2 ⟨v2, rfl, ho, hb⟩
  obtain ⟨q2, d2, rfl⟩ := own_slice ho
  have HR2 := hid (HR1.out.next hb)
  have HF2 := hid (OwnF.fat ho)
  have hS2 : Cells4O w2 w.heap.size (.int .i64 st) (.string R) (.int .i64 k) (.slice p n c) := cells4O HR2.out.bx
  refine hK _ _ ⟨fun _ => hS2, ?_⟩
  clear hK K' hb ho HR1 hS
  refine wpAnyD_one (i := 4) (by kernel_rfl) rfl (fun K' hK => ?_)
  go_simp
  go_at_call 60
  refine (HFr.out _ _ _ HF2.out).mono ?_
  rintro e w3 ⟨v3, rfl, ho, hb⟩
  obtain ⟨q3, d3, rfl⟩ := own_slice ho
  have HR3 := hid (HR2.out.next hb)
  have HO3 := hid ho
  have hS3 : Cells4O w3 w.heap.size (.int .i64 st) (.string R) (.int .i64 k) (.slice p n c) := cells4O HR3.out.bx
  refine hK _ _ ⟨fun _ => hS3, ?_⟩
  clear hK K' hb ho HR2 HF2 HFr hS2
  refine wpAnyD_one (i := 7) (by kernel_rfl) rfl (fun K' hK => ?_)
  go_simp
  go_at_call 50
  refine (HVi.out _ _ _ HO3.out.fat (own_argsO HO3.out)).mono ?_
  rintro e w4 ⟨q4, d4, rfl, ho, hb⟩
  have HR4 := hid (HR3.out.next hb)
  have HO4 := hid ho
  have HZ4 := hid (show w.heap.size + 3 ≤ w3.heap.size from Nat.succ_le_of_lt (lt_of_heap HR3.out.rz))
  have hS4 : Cells4O w4 w.heap.size (.int .i64 st) (.string R) (.int .i64 k) (.slice p n c) := cells4O HR4.out.bx
  refine hK _ _ ⟨fun _ => hS4, ?_⟩
  clear hK K' hb ho HR3 HO3 HVi hS3
  refine late_take (i := 8) (some 11) rfl rfl (by kernel_rfl) (by kernel_rfl) (by kernel_rfl) (by kernel_rfl) (by kernel_rfl) (fun _ _ _ h => h) (by rfl) (v := ?v8r2dresp_nhy) ?hy8r2dresp_nhy hS4 ?rest8r2dresp_nhy
  case hy8r2dresp_nhy => intro w0 hSw; obtain ⟨a0, a1, a2, a3, _⟩ := hSw; go_simp; try with_reducible rfl
  simp only [Act.put, List.setIfInBounds_toArray, List.set_cons_zero, List.set_cons_succ]
  refine late_done (by kernel_rfl) ?_ _
  refine NoPanic.normal ?_
  clear hS4
  obtain ⟨y0, y1, y2, y3, _⟩ := cells4O HR4.out.bx
  have HNF := hid (show F.length = ((X1).length + 1) from by rw [← HFe.out, List.length_append, show (X1).length = (X1).length from rfl]; rfl)
  by_cases hgr : greatE F.length e0 = 0
  · as_aux_lemma =>
      have HGr := hid (show ∀ (W : World) (q : Option Addr) (d : Nat), Calls Tryz.prog 56 #[.slice q ((X1).length + 1) d, .int .i64 (e0 : Int)] W fun r w' => r = .returned (.int .i64 0) ∧ w' = W from fun W q d => by
        have h := HSzd.out W q ((X1).length + 1) d e0
        rw [← HNF.out, hgr] at h
        rw [← HNF.out]
        exact h)
      
      have HGz := hid hgr
      clear hgr HSzd
      go_wp2_with (first | (go_at_call 47; (with_reducible refine (HSt.out _ HR4.out.low).mono ?_); rintro e w5 ⟨v5, rfl, ho, hb⟩; obtain ⟨q5, d5, rfl⟩ := own_slice ho; have HR5 := hid (HR4.out.next hb); have HF5 := hid (OwnF.fat ho); have HO5 := hid (HO4.out.keep hb); clear hb ho HSt HR4 HO4 y0 y1 y2 y3) | (go_at_call 61; (with_reducible refine (HKe.out _ _ _ HF5.out).mono ?_); rintro e w6 ⟨bxa, bxb, rfl, hb⟩; have hn6 := below_new w6 (.cells #[.string bxa, .string bxb] 88 (0, 0)); have HR6 := hid ((HR5.out.next hb).next hn6); have HO6 := hid ((HO5.out.keep hb).keep hn6); obtain ⟨y0, y1, y2, y3, _⟩ := cells4O HR6.out.bx; obtain ⟨fb0, fb1⟩ := box2W HR6.out.fb; clear hb hn6 HKe HR5 HF5 HO5) | (go_at_call 60; (with_reducible refine (HFd.out _ _ _ _ HLv.out HO6.out.fat).mono ?_); rintro e w7 ⟨v7, rfl, ho, hb⟩; obtain ⟨q7, d7, rfl⟩ := own_slice ho; have HR7 := hid (HR6.out.next hb); have HK7 := hid (OwnF.fat ho); clear hb ho HFd HR6 HO6 y0 y1 y2 y3; obtain ⟨y0, y1, y2, y3, _⟩ := cells4O HR7.out.bx) | (go_at_call 53; (with_reducible refine (HAc.out _ _ _ _ (show (X1).length = (X1).length from rfl) HK7.out).mono ?_); rintro e wc ⟨qc, dc, rfl, hf, hb⟩; have HRc := hid (HR7.out.next hb); have HKc := hid hf; clear hb hf HAc y0 y1 y2 y3; obtain ⟨y0, y1, y2, y3, _⟩ := cells4O HRc.out.bx) | (go_at_call 62; have HT5 := hid (show RpD w (wc.alloc (.cells #[.int .i64 st, .string R, .int .i64 mi, .slice qc ((X1).length + 1) dc] 62 (0, 0))) #[.int .i64 st, .string R, .int .i64 mi, .slice qc ((X1).length + 1) dc] qc (World.heap wc).size F from ⟨below_out HRc.out.low (below_new _ _), ((below_new wc _).block _ (lt_of_heap HRc.out.rz)).trans HRc.out.rz, heap_alloc_new wc _, FAt.next (show FAt wc qc F from by have h9 := HKc.out; rw [HFe.out] at h9; exact h9) (below_new _ _)⟩); (with_reducible refine (HWr.out _ _ _ _ HNF.out HT5.out.row).mono ?_); rintro e w10 ⟨v10, rfl, hb⟩; have HT10 := hid (HT5.out.next hb); obtain ⟨c0, c1, c2, c3, _⟩ := cells4O HT10.out.nw; obtain ⟨z0, z1, z2, z3, zz⟩ := cells4O HT10.out.rz; have zz0 := zz 0; have zz1 := zz 1; have zz2 := zz 2; have zz3 := zz 3; clear zz hb HWr HT5 y0 y1 y2 y3) | (go_at_call 56; (with_reducible refine (HGr.out _ _ _).mono ?_); rintro e w11 ⟨rfl, hw11⟩; subst w11; clear HGr))
      (try simp only [Exit.inBlock, Exit.then])
      refine bodyPost_ret (results_respO rfl _ _ _ 62 _ (0, 0) rfl (fourCO HT10.out.rz _ _ _ _) rfl) rfl ?_
      refine dpans_yes (by rw [HE0.out]; exact HGz.out) (q := qc) (d := dc) ?_ (fat_set1 HT10.out.row HNe.out HT10.out.rz (fun s e => by cases e) (fun s e => by cases e) (fun s e => by cases e) _ _ _ _) ?_
      · rw [HNF.out, HRR.out]
        rfl
      · iterate 4 refine Below.setCell ?_ (show w.heap.size ≤ w.heap.size + 2 by omega) _
        exact HT10.out.low
  · as_aux_lemma =>
      obtain ⟨ge, hge⟩ : ∃ ge : Int, (greatE F.length e0 : Int) = ge := ⟨_, rfl⟩
      have hge0 : (ge != 0) = true := by simp; omega
      have hge1 : ¬ ge = 0 := by omega
      have HGE := hid hge
      
      have HGr := hid (show ∀ (W : World) (q : Option Addr) (d : Nat), Calls Tryz.prog 56 #[.slice q ((X1).length + 1) d, .int .i64 (e0 : Int)] W fun r w' => r = .returned (.int .i64 ge) ∧ w' = W from fun W q d => by
        have h := HSzd.out W q ((X1).length + 1) d e0
        rw [← HNF.out, hge] at h
        rw [← HNF.out]
        exact h)
      
      have HGz := hid hgr
      clear hgr HSzd hge
      go_wp2_with (first | (go_at_call 47; (with_reducible refine (HSt.out _ HR4.out.low).mono ?_); rintro e w5 ⟨v5, rfl, ho, hb⟩; obtain ⟨q5, d5, rfl⟩ := own_slice ho; have HR5 := hid (HR4.out.next hb); have HF5 := hid (OwnF.fat ho); have HO5 := hid (HO4.out.keep hb); clear hb ho HSt HR4 HO4 y0 y1 y2 y3) | (go_at_call 61; (with_reducible refine (HKe.out _ _ _ HF5.out).mono ?_); rintro e w6 ⟨bxa, bxb, rfl, hb⟩; have hn6 := below_new w6 (.cells #[.string bxa, .string bxb] 88 (0, 0)); have HR6 := hid ((HR5.out.next hb).next hn6); have HO6 := hid ((HO5.out.keep hb).keep hn6); obtain ⟨y0, y1, y2, y3, _⟩ := cells4O HR6.out.bx; obtain ⟨fb0, fb1⟩ := box2W HR6.out.fb; clear hb hn6 HKe HR5 HF5 HO5) | (go_at_call 60; (with_reducible refine (HFd.out _ _ _ _ HLv.out HO6.out.fat).mono ?_); rintro e w7 ⟨v7, rfl, ho, hb⟩; obtain ⟨q7, d7, rfl⟩ := own_slice ho; have HR7 := hid (HR6.out.next hb); have HK7 := hid (OwnF.fat ho); clear hb ho HFd HR6 HO6 y0 y1 y2 y3; obtain ⟨y0, y1, y2, y3, _⟩ := cells4O HR7.out.bx) | (go_at_call 53; (with_reducible refine (HAc.out _ _ _ _ (show (X1).length = (X1).length from rfl) HK7.out).mono ?_); rintro e wc ⟨qc, dc, rfl, hf, hb⟩; have HRc := hid (HR7.out.next hb); have HKc := hid hf; clear hb hf HAc y0 y1 y2 y3; obtain ⟨y0, y1, y2, y3, _⟩ := cells4O HRc.out.bx) | (go_at_call 62; have HT5 := hid (show RpD w (wc.alloc (.cells #[.int .i64 st, .string R, .int .i64 mi, .slice qc ((X1).length + 1) dc] 62 (0, 0))) #[.int .i64 st, .string R, .int .i64 mi, .slice qc ((X1).length + 1) dc] qc (World.heap wc).size F from ⟨below_out HRc.out.low (below_new _ _), ((below_new wc _).block _ (lt_of_heap HRc.out.rz)).trans HRc.out.rz, heap_alloc_new wc _, FAt.next (show FAt wc qc F from by have h9 := HKc.out; rw [HFe.out] at h9; exact h9) (below_new _ _)⟩); (with_reducible refine (HWr.out _ _ _ _ HNF.out HT5.out.row).mono ?_); rintro e w10 ⟨v10, rfl, hb⟩; have HT10 := hid (HT5.out.next hb); obtain ⟨c0, c1, c2, c3, _⟩ := cells4O HT10.out.nw; obtain ⟨z0, z1, z2, z3, zz⟩ := cells4O HT10.out.rz; have zz0 := zz 0; have zz1 := zz 1; have zz2 := zz 2; have zz3 := zz 3; clear zz hb HWr HT5 y0 y1 y2 y3) | (go_at_call 56; (with_reducible refine (HGr.out _ _ _).mono ?_); rintro e w11 ⟨rfl, hw11⟩; subst w11; clear HGr))
      (try simp only [Exit.inBlock, Exit.then])
      refine bodyPost_ret (results_respO rfl _ _ _ 62 _ (0, 0) rfl (fourCO HT10.out.rz _ _ _ _) rfl) rfl ?_
      refine dpans_no (by rw [HE0.out]; exact HGz.out) (by rw [HE0.out, HGE.out]; rfl) ?_
      iterate 4 refine Below.setCell ?_ (show w.heap.size ≤ w.heap.size + 2 by omega) _
      exact HT10.out.low
set_option maxRecDepth 20000 in
set_option maxHeartbeats 32000000 in
theorem dresp_nh (st : Int) (r : B) (k : Int) (fs : List (B × B)) (p : Option Addr) (n c : Nat) (hn : fs.length = n) (L mi : Int) (w : World) (hF : FAt w p fs) (hsz : szN fs) (hnn : n ≤ 1000) (hr : r.length ≤ 1048576) (hL0 : -9223372036854775808 ≤ L) (hL1 : L ≤ 9223372036854775807) (hs1 : 100 ≤ st) (hs2 : ¬ st ≤ 199) (hs3 : ¬ st = 204) (hO : ownF1 (stripF fs) = none) :
    Calls Tryz.prog 26 #[.agg #[.int .i64 st, .string (str r), .int .i64 k, .slice p n c], .agg #[.int .i64 0, .int .i64 L], .int .i64 mi, .bool false] w fun e w' => DPAns st r mi (onP st 0 L false fs k) w e w' := by
  have hB : bareS st = false := by unfold bareS; rw [decide_eq_false (by omega), decide_eq_false hs3]; rfl
  have hFz : szC 1048576 (onP st 0 L false fs k) := onP_sz hsz hL0 hL1
  have h1w := szC_W (onP1_sz (k := k) hsz) (by decide)
  have h0w : szW (stripF fs) := fun f hf => szC_W (C := 1048576) hsz (by decide) f (List.mem_filter.1 hf).1
  have h0n : szN (stripF fs) := fun f hf => hsz f (List.mem_filter.1 hf).1
  have HSt := hid (show ∀ W : World, Below w.heap.size w W → _ from fun W hb => dstrip fs p n c hn W (hF.next hb) hsz hnn)
  have hl0 := stripF_le fs
  have hlf := framF_len (stripF fs) 0 0
  have hl1 := onP1_len fs k
  have hl2 := onP2_len st 0 L fs k
  have hlP := onP_len st 0 L false fs k
  have hnP := onP_ne st 0 L false fs k
  have HFr := hid (show ∀ (W : World) (q : Option Addr) (d : Nat), FAt W q (stripF fs) → _ from fun W q d h => dframing (stripF fs) 0 0 q (stripF fs).length d rfl W h h0w (by omega) (by decide) (by decide))
  have HVi := hid (show ∀ (W : World) (q : Option Addr) (d : Nat), FAt W q (framF (stripF fs) 0 0) → (q = none → d = 0) → _ from fun W q d h hc => dviaO (framF (stripF fs) 0 0) k q (framF (stripF fs) 0 0).length d rfl hc W h (by omega))
  rw [show viaF (framF (stripF fs) 0 0) k = onP1 fs k from rfl] at HVi
  have HLv := hid (show (onP1 fs k).length = (framF (stripF fs) 0 0).length + 1 from by unfold onP1 viaF; rw [List.length_append]; rfl)
  have HKe0 := hid (show ∀ (W : World) (q : Option Addr) (d : Nat), FAt W q (stripF fs) → _ from fun W q d h => dkept (stripF fs) q (stripF fs).length d rfl W h h0n (by omega))
  have HKe := hid (show ∀ (W : World) (q : Option Addr) (d : Nat), FAt W q (stripF fs) → Calls Tryz.prog 61 #[.slice q (stripF fs).length d] W fun e w' => ∃ a b, e = .returned (.tuple #[.agg #[.string a, .string b], .bool false]) ∧ Below W.heap.size W w' from fun W q d h => (HKe0.out W q d h).mono (by
    rintro e w' (⟨f', h1, _⟩ | ⟨_, a, b, h2, h3⟩)
    · rw [hO] at h1
      cases h1
    · exact ⟨a, b, h2, h3⟩))
  have HFd := hid (show ∀ (W : World) (q : Option Addr) (s d : Nat), (onP1 fs k).length = s → FAt W q (onP1 fs k) → _ from fun W q s d hs h => dframing (onP1 fs k) 0 L q s d hs W h h1w (by omega) hL0 hL1)
  rw [fram_id] at HFd
  obtain ⟨F, hFF⟩ : ∃ F, onP st 0 L false fs k = F := ⟨_, rfl⟩
  rw [hFF] at hFz hlP hnP
  rw [hFF]
  have HNe := hid hnP
  have HWr := hid (show ∀ (W : World) (q : Option Addr) (s d : Nat), F.length = s → FAt W q F → _ from fun W q s d hs h => rresp_e st r mi F q s d hs W h hFz (by omega) hr)
  have HFe := hid (show onP1 fs k = F from by rw [← hFF]; unfold onP; rw [if_neg (by decide), onP2_n hB hO])
  have HSzd := hid (show ∀ (W : World) (q : Option Addr) (s d e : Nat), _ from fun W q s d e => dsized q s d e W)
  obtain ⟨e0, he0⟩ : ∃ e0, respE st r mi F = e0 := ⟨_, rfl⟩
  have HE0 := hid he0
  rw [he0] at HWr
  obtain ⟨R, hR⟩ : ∃ R, str r = R := ⟨_, rfl⟩
  have HRR := hid hR
  rw [hR] at HWr
  rw [hR]
  obtain ⟨X0, hX0⟩ : ∃ X, stripF fs = X := ⟨_, rfl⟩
  rw [hX0] at HSt HFr HVi HKe HLv
  obtain ⟨XF, hXF⟩ : ∃ X, framF X0 0 0 = X := ⟨_, rfl⟩
  rw [hXF] at HFr HVi HLv
  have hxf : XF.length ≤ 2000 := by rw [← hXF, ← hX0]; omega
  obtain ⟨X1, hX1⟩ : ∃ X, onP1 fs k = X := ⟨_, rfl⟩
  rw [hX1] at HVi HLv HFe HFd
  have HR0 := hid (RpO.start w #[.int .i64 st, .string R, .int .i64 k, .slice p n c] #[.int .i64 0, .int .i64 L])
  obtain ⟨i0, hi0, hz0, hz1, hz2⟩ := info_parts infoF
  clear hF hsz hFz h1w h0w h0n hlf hl1 hl2 hlP hnP hFF he0 hR hX0 hXF hX1 hB hr HKe0 hO
  go_enter Tryz.func26, Tryz.ntmps26
  obtain ⟨y0, y1, y2, y3, _⟩ := cells4O HR0.out.bx
  go_wp2
  have HR1 := hid (show RpO w (((w.alloc (.cells #[.int .i64 st, .string R, .int .i64 k, .slice p n c] 62 (0, 0))).alloc (.cells #[.int .i64 0, .int .i64 L] 23 (0, 0))).alloc (.cells #[.int .i64 0, .string ⟨#[]⟩, .int .i64 0, .slice none 0 0] 62 (0, 0))).drew #[.int .i64 st, .string R, .int .i64 k, .slice p n c] #[.int .i64 0, .int .i64 L] from HR0.out.next ⟨rfl, rfl, rfl, Nat.le_refl _, fun _ _ => rfl⟩)
  generalize hW1 : (((w.alloc (.cells #[.int .i64 st, .string R, .int .i64 k, .slice p n c] 62 (0, 0))).alloc (.cells #[.int .i64 0, .int .i64 L] 23 (0, 0))).alloc (.cells #[.int .i64 0, .string ⟨#[]⟩, .int .i64 0, .slice none 0 0] 62 (0, 0))).drew = w1 at HR1
  refine wp_region_noPanic ?_
  refine any_begin 9 (by kernel_rfl) (by kernel_rfl) ?_
  rw [hW1]
  clear hW1 HR0 y0 y1 y2 y3
  refine late_begin (fun U => Cells4O U w.heap.size (.int .i64 st) (.string R) (.int .i64 k) (.slice p n c)) (fun _ => false) (show Cells4O w1 w.heap.size (.int .i64 st) (.string R) (.int .i64 k) (.slice p n c) from cells4O HR1.out.bx) (fun hS => ?_)
  refine late_take (i := 0) (some 31) rfl rfl (by kernel_rfl) (by kernel_rfl) (by kernel_rfl) (by kernel_rfl) (by kernel_rfl) (fun _ _ _ h => h) (by rfl) (v := ?v0r2dresp_nh) ?hy0r2dresp_nh hS ?rest0r2dresp_nh
  case hy0r2dresp_nh => intro w0 hSw; obtain ⟨a0, a1, a2, a3, _⟩ := hSw; go_simp; try with_reducible rfl
  simp only [Act.put, List.setIfInBounds_toArray, List.set_cons_zero, List.set_cons_succ]
  refine late_take (i := 1) (some 32) rfl rfl (by kernel_rfl) (by kernel_rfl) (by kernel_rfl) (by kernel_rfl) (by kernel_rfl) (fun _ _ _ h => h) (by rfl) (v := ?v1r2dresp_nh) ?hy1r2dresp_nh hS ?rest1r2dresp_nh
  case hy1r2dresp_nh => intro w0 hSw; obtain ⟨a0, a1, a2, a3, _⟩ := hSw; go_simp; try with_reducible rfl
  simp only [Act.put, List.setIfInBounds_toArray, List.set_cons_zero, List.set_cons_succ]
  refine late_take (i := 3) (some 34) rfl rfl (by kernel_rfl) (by kernel_rfl) (by kernel_rfl) (by kernel_rfl) (by kernel_rfl) (fun _ _ _ h => h) (by rfl) (v := ?v3r2dresp_nh) ?hy3r2dresp_nh hS ?rest3r2dresp_nh
  case hy3r2dresp_nh => intro w0 hSw; obtain ⟨a0, a1, a2, a3, _⟩ := hSw; go_simp; try with_reducible rfl
  simp only [Act.put, List.setIfInBounds_toArray, List.set_cons_zero, List.set_cons_succ]
  refine late_take (i := 5) (some 36) rfl rfl (by kernel_rfl) (by kernel_rfl) (by kernel_rfl) (by kernel_rfl) (by kernel_rfl) (fun _ _ _ h => h) (by rfl) (v := ?v5r2dresp_nh) ?hy5r2dresp_nh hS ?rest5r2dresp_nh
  case hy5r2dresp_nh => intro w0 hSw; obtain ⟨a0, a1, a2, a3, _⟩ := hSw; go_simp; try with_reducible rfl
  simp only [Act.put, List.setIfInBounds_toArray, List.set_cons_zero, List.set_cons_succ]
  refine late_take (i := 6) (some 37) rfl rfl (by kernel_rfl) (by kernel_rfl) (by kernel_rfl) (by kernel_rfl) (by kernel_rfl) (fun _ _ _ h => h) (by rfl) (v := ?v6r2dresp_nh) ?hy6r2dresp_nh hS ?rest6r2dresp_nh
  case hy6r2dresp_nh => intro w0 hSw; obtain ⟨a0, a1, a2, a3, _⟩ := hSw; go_simp; try with_reducible rfl
  simp only [Act.put, List.setIfInBounds_toArray, List.set_cons_zero, List.set_cons_succ]
  refine wpAnyD_one (i := 2) (by kernel_rfl) rfl (fun K' hK => ?_)
  go_simp
  go_at_call 47
  refine (HSt.out _ HR1.out.low).mono ?_
  rintro e w2 ⟨v2, rfl, ho, hb⟩
  obtain ⟨q2, d2, rfl⟩ := own_slice ho
  have HR2 := hid (HR1.out.next hb)
  have HF2 := hid (OwnF.fat ho)
  have hS2 : Cells4O w2 w.heap.size (.int .i64 st) (.string R) (.int .i64 k) (.slice p n c) := cells4O HR2.out.bx
  refine hK _ _ ⟨fun _ => hS2, ?_⟩
  clear hK K' hb ho HR1 hS
  refine wpAnyD_one (i := 4) (by kernel_rfl) rfl (fun K' hK => ?_)
  go_simp
  go_at_call 60
  refine (HFr.out _ _ _ HF2.out).mono ?_
  rintro e w3 ⟨v3, rfl, ho, hb⟩
  obtain ⟨q3, d3, rfl⟩ := own_slice ho
  have HR3 := hid (HR2.out.next hb)
  have HO3 := hid ho
  have hS3 : Cells4O w3 w.heap.size (.int .i64 st) (.string R) (.int .i64 k) (.slice p n c) := cells4O HR3.out.bx
  refine hK _ _ ⟨fun _ => hS3, ?_⟩
  clear hK K' hb ho HR2 HF2 HFr hS2
  refine wpAnyD_one (i := 7) (by kernel_rfl) rfl (fun K' hK => ?_)
  go_simp
  go_at_call 50
  refine (HVi.out _ _ _ HO3.out.fat (own_argsO HO3.out)).mono ?_
  rintro e w4 ⟨q4, d4, rfl, ho, hb⟩
  have HR4 := hid (HR3.out.next hb)
  have HO4 := hid ho
  have HZ4 := hid (show w.heap.size + 3 ≤ w3.heap.size from Nat.succ_le_of_lt (lt_of_heap HR3.out.rz))
  have hS4 : Cells4O w4 w.heap.size (.int .i64 st) (.string R) (.int .i64 k) (.slice p n c) := cells4O HR4.out.bx
  refine hK _ _ ⟨fun _ => hS4, ?_⟩
  clear hK K' hb ho HR3 HO3 HVi hS3
  refine late_take (i := 8) (some 11) rfl rfl (by kernel_rfl) (by kernel_rfl) (by kernel_rfl) (by kernel_rfl) (by kernel_rfl) (fun _ _ _ h => h) (by rfl) (v := ?v8r2dresp_nh) ?hy8r2dresp_nh hS4 ?rest8r2dresp_nh
  case hy8r2dresp_nh => intro w0 hSw; obtain ⟨a0, a1, a2, a3, _⟩ := hSw; go_simp; try with_reducible rfl
  simp only [Act.put, List.setIfInBounds_toArray, List.set_cons_zero, List.set_cons_succ]
  refine late_done (by kernel_rfl) ?_ _
  refine NoPanic.normal ?_
  clear hS4
  obtain ⟨y0, y1, y2, y3, _⟩ := cells4O HR4.out.bx
  have HNF := hid (show F.length = (X1).length from (congrArg List.length HFe.out.symm).trans (show (X1).length = (X1).length from rfl))
  by_cases hgr : greatE F.length e0 = 0
  · as_aux_lemma =>
      have HGr := hid (show ∀ (W : World) (q : Option Addr) (d : Nat), Calls Tryz.prog 56 #[.slice q (X1).length d, .int .i64 (e0 : Int)] W fun r w' => r = .returned (.int .i64 0) ∧ w' = W from fun W q d => by
        have h := HSzd.out W q (X1).length d e0
        rw [← HNF.out, hgr] at h
        rw [← HNF.out]
        exact h)
      
      have HGz := hid hgr
      clear hgr HSzd
      go_wp2_with (first | (go_at_call 47; (with_reducible refine (HSt.out _ HR4.out.low).mono ?_); rintro e w5 ⟨v5, rfl, ho, hb⟩; obtain ⟨q5, d5, rfl⟩ := own_slice ho; have HR5 := hid (HR4.out.next hb); have HF5 := hid (OwnF.fat ho); have HO5 := hid (HO4.out.keep hb); clear hb ho HSt HR4 HO4 y0 y1 y2 y3) | (go_at_call 61; (with_reducible refine (HKe.out _ _ _ HF5.out).mono ?_); rintro e w6 ⟨bxa, bxb, rfl, hb⟩; have hn6 := below_new w6 (.cells #[.string bxa, .string bxb] 88 (0, 0)); have HR6 := hid ((HR5.out.next hb).next hn6); have HO6 := hid ((HO5.out.keep hb).keep hn6); obtain ⟨y0, y1, y2, y3, _⟩ := cells4O HR6.out.bx; obtain ⟨fb0, fb1⟩ := box2W HR6.out.fb; clear hb hn6 HKe HR5 HF5 HO5) | (go_at_call 60; (with_reducible refine (HFd.out _ _ _ _ HLv.out HO6.out.fat).mono ?_); rintro e w7 ⟨v7, rfl, ho, hb⟩; obtain ⟨q7, d7, rfl⟩ := own_slice ho; have HR7 := hid (HR6.out.next hb); have HK7 := hid (OwnF.fat ho); clear hb ho HFd HR6 HO6 y0 y1 y2 y3; obtain ⟨y0, y1, y2, y3, _⟩ := cells4O HR7.out.bx) | (go_at_call 62; have HT5 := hid (show RpD w (w7.alloc (.cells #[.int .i64 st, .string R, .int .i64 mi, .slice q7 (X1).length d7] 62 (0, 0))) #[.int .i64 st, .string R, .int .i64 mi, .slice q7 (X1).length d7] q7 (World.heap w7).size F from ⟨below_out HR7.out.low (below_new _ _), ((below_new w7 _).block _ (lt_of_heap HR7.out.rz)).trans HR7.out.rz, heap_alloc_new w7 _, FAt.next (show FAt w7 q7 F from by have h9 := HK7.out; rw [HFe.out] at h9; exact h9) (below_new _ _)⟩); (with_reducible refine (HWr.out _ _ _ _ HNF.out HT5.out.row).mono ?_); rintro e w10 ⟨v10, rfl, hb⟩; have HT10 := hid (HT5.out.next hb); obtain ⟨c0, c1, c2, c3, _⟩ := cells4O HT10.out.nw; obtain ⟨z0, z1, z2, z3, zz⟩ := cells4O HT10.out.rz; have zz0 := zz 0; have zz1 := zz 1; have zz2 := zz 2; have zz3 := zz 3; clear zz hb HWr HT5 y0 y1 y2 y3) | (go_at_call 56; (with_reducible refine (HGr.out _ _ _).mono ?_); rintro e w11 ⟨rfl, hw11⟩; subst w11; clear HGr))
      (try simp only [Exit.inBlock, Exit.then])
      refine bodyPost_ret (results_respO rfl _ _ _ 62 _ (0, 0) rfl (fourCO HT10.out.rz _ _ _ _) rfl) rfl ?_
      refine dpans_yes (by rw [HE0.out]; exact HGz.out) (q := q7) (d := d7) ?_ (fat_set1 HT10.out.row HNe.out HT10.out.rz (fun s e => by cases e) (fun s e => by cases e) (fun s e => by cases e) _ _ _ _) ?_
      · rw [HNF.out, HRR.out]
        rfl
      · iterate 4 refine Below.setCell ?_ (show w.heap.size ≤ w.heap.size + 2 by omega) _
        exact HT10.out.low
  · as_aux_lemma =>
      obtain ⟨ge, hge⟩ : ∃ ge : Int, (greatE F.length e0 : Int) = ge := ⟨_, rfl⟩
      have hge0 : (ge != 0) = true := by simp; omega
      have hge1 : ¬ ge = 0 := by omega
      have HGE := hid hge
      
      have HGr := hid (show ∀ (W : World) (q : Option Addr) (d : Nat), Calls Tryz.prog 56 #[.slice q (X1).length d, .int .i64 (e0 : Int)] W fun r w' => r = .returned (.int .i64 ge) ∧ w' = W from fun W q d => by
        have h := HSzd.out W q (X1).length d e0
        rw [← HNF.out, hge] at h
        rw [← HNF.out]
        exact h)
      
      have HGz := hid hgr
      clear hgr HSzd hge
      go_wp2_with (first | (go_at_call 47; (with_reducible refine (HSt.out _ HR4.out.low).mono ?_); rintro e w5 ⟨v5, rfl, ho, hb⟩; obtain ⟨q5, d5, rfl⟩ := own_slice ho; have HR5 := hid (HR4.out.next hb); have HF5 := hid (OwnF.fat ho); have HO5 := hid (HO4.out.keep hb); clear hb ho HSt HR4 HO4 y0 y1 y2 y3) | (go_at_call 61; (with_reducible refine (HKe.out _ _ _ HF5.out).mono ?_); rintro e w6 ⟨bxa, bxb, rfl, hb⟩; have hn6 := below_new w6 (.cells #[.string bxa, .string bxb] 88 (0, 0)); have HR6 := hid ((HR5.out.next hb).next hn6); have HO6 := hid ((HO5.out.keep hb).keep hn6); obtain ⟨y0, y1, y2, y3, _⟩ := cells4O HR6.out.bx; obtain ⟨fb0, fb1⟩ := box2W HR6.out.fb; clear hb hn6 HKe HR5 HF5 HO5) | (go_at_call 60; (with_reducible refine (HFd.out _ _ _ _ HLv.out HO6.out.fat).mono ?_); rintro e w7 ⟨v7, rfl, ho, hb⟩; obtain ⟨q7, d7, rfl⟩ := own_slice ho; have HR7 := hid (HR6.out.next hb); have HK7 := hid (OwnF.fat ho); clear hb ho HFd HR6 HO6 y0 y1 y2 y3; obtain ⟨y0, y1, y2, y3, _⟩ := cells4O HR7.out.bx) | (go_at_call 62; have HT5 := hid (show RpD w (w7.alloc (.cells #[.int .i64 st, .string R, .int .i64 mi, .slice q7 (X1).length d7] 62 (0, 0))) #[.int .i64 st, .string R, .int .i64 mi, .slice q7 (X1).length d7] q7 (World.heap w7).size F from ⟨below_out HR7.out.low (below_new _ _), ((below_new w7 _).block _ (lt_of_heap HR7.out.rz)).trans HR7.out.rz, heap_alloc_new w7 _, FAt.next (show FAt w7 q7 F from by have h9 := HK7.out; rw [HFe.out] at h9; exact h9) (below_new _ _)⟩); (with_reducible refine (HWr.out _ _ _ _ HNF.out HT5.out.row).mono ?_); rintro e w10 ⟨v10, rfl, hb⟩; have HT10 := hid (HT5.out.next hb); obtain ⟨c0, c1, c2, c3, _⟩ := cells4O HT10.out.nw; obtain ⟨z0, z1, z2, z3, zz⟩ := cells4O HT10.out.rz; have zz0 := zz 0; have zz1 := zz 1; have zz2 := zz 2; have zz3 := zz 3; clear zz hb HWr HT5 y0 y1 y2 y3) | (go_at_call 56; (with_reducible refine (HGr.out _ _ _).mono ?_); rintro e w11 ⟨rfl, hw11⟩; subst w11; clear HGr))
      (try simp only [Exit.inBlock, Exit.then])
      refine bodyPost_ret (results_respO rfl _ _ _ 62 _ (0, 0) rfl (fourCO HT10.out.rz _ _ _ _) rfl) rfl ?_
      refine dpans_no (by rw [HE0.out]; exact HGz.out) (by rw [HE0.out, HGE.out]; rfl) ?_
      iterate 4 refine Below.setCell ?_ (show w.heap.size ≤ w.heap.size + 2 by omega) _
      exact HT10.out.low
end Go.Proofs.YtnlmjlfoeodleaaGreatDoor
