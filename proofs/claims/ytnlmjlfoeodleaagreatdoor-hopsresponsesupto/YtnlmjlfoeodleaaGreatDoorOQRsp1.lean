/- A response that goes on, by the program: one without a body, or framed. -/
import Derived.Test.YtnlmjlfoeodleaaGreatDoorOQRspD
namespace Go.Proofs.YtnlmjlfoeodleaaGreatDoor
open Go.RowKit

set_option maxRecDepth 20000 in
set_option maxHeartbeats 32000000 in
theorem presp_bl (st : Int) (r : B) (k : Int) (fs : List (B × B)) (p : Option Addr) (n c : Nat) (hn : fs.length = n) (K L mi : Int) (w : World) (hF : FAt w p fs) (hsz : szN fs) (hnn : n ≤ 1000) (hr : r.length ≤ 1048576) (hL0 : -9223372036854775808 ≤ L) (hL1 : L ≤ 9223372036854775807) (hE : EnvP w) (hmx : ∃ m : Int, w.cell? ⟨2, 0, none⟩ = some (.int .i64 m)) (hB : bareS st = true) :
    Calls Tryz.prog 25 #[.agg #[.int .i64 st, .string (str r), .int .i64 k, .slice p n c], .agg #[.int .i64 K, .int .i64 L], .int .i64 mi, .bool true] w fun e w' => PAns st r mi (onP st K L true fs k) w e w' := by
  have hFz : szC 1048576 (onP st K L true fs k) := onP_sz hsz hL0 hL1
  have h1z : szC 1048576 (onP1 fs k) := onP1_sz hsz
  have h1w := szC_W h1z (by decide)
  have h2w := szC_W (onP2_sz (st := st) (K := K) (k := k) hsz hL0 hL1) (by decide)
  have h0w : szW (stripF fs) := fun f hf => szC_W (C := 1048576) hsz (by decide) f (List.mem_filter.1 hf).1
  have h0n : szN (stripF fs) := fun f hf => hsz f (List.mem_filter.1 hf).1
  have hfw : szW (framF (stripF fs) 0 0) := fun f hf => by
    rcases framF_mem hf with h | h
    · exact h0w f h
    · exact szC_W (frmA_sz (K := 0) (L := 0) (by decide) (by decide)) (by decide) f h
  have HSt := hid (show ∀ W : World, Below w.heap.size w W → _ from fun W hb => pstrip fs p n c hn W (hF.next hb) hsz hnn (hmx.elim fun m h => ⟨m, cell_keep hb h⟩))
  have hl0 := stripF_le fs
  have hlf := framF_len (stripF fs) 0 0
  have hl1 := onP1_len fs k
  have hl2 := onP2_len st K L fs k
  have hlP := onP_len st K L true fs k
  have HFr := hid (show ∀ (W : World) (q : Option Addr) (d : Nat), Below w.heap.size w W → FAt W q (stripF fs) → _ from fun W q d hb h => pframing (stripF fs) 0 0 q (stripF fs).length d rfl W h h0w (by omega) (by decide) (by decide) (hE.next hb))
  have HVi := hid (show ∀ (W : World) (g s : Nat), Below w.heap.size w W → (framF (stripF fs) 0 0).length = s → BlkF W g (framF (stripF fs) 0 0) → _ from fun W g s hb hs h => pvia (framF (stripF fs) 0 0) k (some ⟨g, 0, none⟩) s s hs (Nat.le_refl _) (fun e => by cases e) (fun ad e => by cases e; rfl) W h.fat hfw (by omega) (hE.next hb))
  rw [show viaF (framF (stripF fs) 0 0) k = onP1 fs k from rfl] at HVi
  have HBa := hid (show ∀ W : World, _ from fun W => pbare st W)
  rw [hB] at HBa
  have HAc0 := hid (show ∀ (W : World) (g s : Nat), (onP1 fs k).length = s → BlkF W g (onP1 fs k) → _ from fun W g s hs h => padd_some (onP1 fs k) g 0 s s hs (Nat.le_refl _) connB cloB W h.fat (by have h9 := h2w; rw [onP2_b hB] at h9; exact h9) (by decide) (by decide) (by have h9 := hl2; rw [onP2_b hB] at h9; omega))
  have HAc := hid (show ∀ (W : World) (g s : Nat), (onP1 fs k).length = s → BlkF W g (onP1 fs k) → Calls Tryz.prog 42 #[.slice (some ⟨g, 0, none⟩) s s, .string (⟨#[67, 111, 110, 110, 101, 99, 116, 105, 111, 110]⟩ : ByteArray), .string (⟨#[99, 108, 111, 115, 101]⟩ : ByteArray)] W _ from HAc0.out)
  obtain ⟨F, hFF⟩ : ∃ F, onP st K L true fs k = F := ⟨_, rfl⟩
  rw [hFF] at hFz hlP
  rw [hFF]
  have HWr := hid (show ∀ (W : World) (g s : Nat), Below w.heap.size w W → F.length = s → BlkF W g F → _ from fun W g s hb hs h => wresp_e st r mi F (some ⟨g, 0, none⟩) s s hs W (hE.next hb) h.fat hFz (by omega) hr)
  have HC1 := hid (show ∀ W : World, _ from fun W => clone_any (str r) W (by rw [str_size]; omega))
  have HFe := hid (show onP1 fs k ++ [(connB, cloB)] = F from by rw [← hFF]; unfold onP; rw [if_pos rfl, onP2_b hB])
  unfold PAns
  obtain ⟨e0, he0⟩ : ∃ e0, respE st r mi F = e0 := ⟨_, rfl⟩
  rw [he0] at HWr
  rw [he0]
  obtain ⟨R, hR⟩ : ∃ R, str r = R := ⟨_, rfl⟩
  rw [hR] at HWr HC1
  rw [hR]
  obtain ⟨X0, hX0⟩ : ∃ X, stripF fs = X := ⟨_, rfl⟩
  rw [hX0] at HSt HFr HVi
  obtain ⟨XF, hXF⟩ : ∃ X, framF X0 0 0 = X := ⟨_, rfl⟩
  rw [hXF] at HFr HVi
  obtain ⟨X1, hX1⟩ : ∃ X, onP1 fs k = X := ⟨_, rfl⟩
  rw [hX1] at HVi HFe HAc
  have HR0 := hid (RpO.start w #[.int .i64 st, .string R, .int .i64 k, .slice p n c] #[.int .i64 K, .int .i64 L])
  clear hF hsz hn hmx hFz h1z h1w h2w h0w h0n hfw hl0 hlf hl1 hl2 hlP hFF he0 hR hX0 hXF hX1 hB hE hr  HAc0
  go_enter Tryz.func25, Tryz.ntmps25
  obtain ⟨y0, y1, y2, y3, _⟩ := cells4O HR0.out.bx
  go_wp2_with (go_at_call 36; (with_reducible refine (HSt.out _ HR0.out.low).mono ?_); rintro e w1 ⟨v1, rfl, ho, hb⟩; obtain ⟨q1, d1, rfl⟩ := own_slice ho; have HR1 := hid (HR0.out.next hb); have HF1 := hid (OwnF.fat ho); clear hb ho HSt HR0 y0 y1 y2 y3)
  have HR4 := hid (show RpO w w1.drew #[.int .i64 st, .string R, .int .i64 k, .slice p n c] #[.int .i64 K, .int .i64 L] from HR1.out.next ⟨rfl, rfl, rfl, Nat.le_refl _, fun _ _ => rfl⟩)
  have HF4 := hid (show FAt w1.drew q1 X0 from HF1.out.next ⟨rfl, rfl, rfl, Nat.le_refl _, fun _ _ => rfl⟩)
  generalize hW4 : w1.drew = w4 at HR4 HF4
  refine wp_region_noPanic ?_
  refine any_begin 7 (by kernel_rfl) (by kernel_rfl) ?_
  rw [hW4]
  clear hW4 HR1 HF1
  refine late_begin (fun U => Cells4O U w.heap.size (.int .i64 st) (.string R) (.int .i64 k) (.slice p n c)) (fun _ => false) (show Cells4O w4 w.heap.size (.int .i64 st) (.string R) (.int .i64 k) (.slice p n c) from cells4O HR4.out.bx) (fun hS => ?_)
  refine late_take (i := 0) (some 21) rfl rfl (by kernel_rfl) (by kernel_rfl) (by kernel_rfl) (by kernel_rfl) (by kernel_rfl) (fun _ _ _ h => h) (by rfl) (v := ?v0r2presp_bl) ?hy0r2presp_bl hS ?rest0r2presp_bl
  case hy0r2presp_bl => intro w0 hSw; obtain ⟨a0, a1, a2, a3, _⟩ := hSw; go_simp; try with_reducible rfl
  simp only [Act.put, List.setIfInBounds_toArray, List.set_cons_zero, List.set_cons_succ]
  refine late_take (i := 1) (some 22) rfl rfl (by kernel_rfl) (by kernel_rfl) (by kernel_rfl) (by kernel_rfl) (by kernel_rfl) (fun _ _ _ h => h) (by rfl) (v := ?v1r2presp_bl) ?hy1r2presp_bl hS ?rest1r2presp_bl
  case hy1r2presp_bl => intro w0 hSw; obtain ⟨a0, a1, a2, a3, _⟩ := hSw; go_simp; try with_reducible rfl
  simp only [Act.put, List.setIfInBounds_toArray, List.set_cons_zero, List.set_cons_succ]
  refine late_take (i := 3) (some 24) rfl rfl (by kernel_rfl) (by kernel_rfl) (by kernel_rfl) (by kernel_rfl) (by kernel_rfl) (fun _ _ _ h => h) (by rfl) (v := ?v3r2presp_bl) ?hy3r2presp_bl hS ?rest3r2presp_bl
  case hy3r2presp_bl => intro w0 hSw; obtain ⟨a0, a1, a2, a3, _⟩ := hSw; go_simp; try with_reducible rfl
  simp only [Act.put, List.setIfInBounds_toArray, List.set_cons_zero, List.set_cons_succ]
  refine late_take (i := 4) (some 25) rfl rfl (by kernel_rfl) (by kernel_rfl) (by kernel_rfl) (by kernel_rfl) (by kernel_rfl) (fun _ _ _ h => h) (by rfl) (v := ?v4r2presp_bl) ?hy4r2presp_bl hS ?rest4r2presp_bl
  case hy4r2presp_bl => intro w0 hSw; obtain ⟨a0, a1, a2, a3, _⟩ := hSw; go_simp; try with_reducible rfl
  simp only [Act.put, List.setIfInBounds_toArray, List.set_cons_zero, List.set_cons_succ]
  refine wpAnyD_one (i := 2) (by kernel_rfl) rfl (fun K' hK => ?_)
  go_simp
  go_at_call 37
  refine (HFr.out _ _ _ HR4.out.low HF4.out).mono ?_
  rintro e w5 ⟨g5, m5, rfl, hl, hg, hbk, hb⟩
  have HR5 := hid (HR4.out.next hb)
  have HF5 := hid (HF4.out.next hb)
  have HK5 := hid hbk
  have HL5 := hid hl
  have hS5 : Cells4O w5 w.heap.size (.int .i64 st) (.string R) (.int .i64 k) (.slice p n c) := cells4O HR5.out.bx
  refine hK _ _ ⟨fun _ => hS5, ?_⟩
  clear hK K' hb hl hg hbk HFr HR4 HF4 hS
  refine wpAnyD_one (i := 5) (by kernel_rfl) rfl (fun K' hK => ?_)
  go_simp
  go_at_call 39
  refine (HVi.out _ _ _ HR5.out.low HL5.out HK5.out).mono ?_
  rintro e w6 ⟨g6, m6, rfl, hl, hg, hbk, hb⟩
  have HR6 := hid (HR5.out.next hb)
  have HF6 := hid (HF5.out.next hb)
  have HK6 := hid hbk
  have HL6 := hid hl
  have HG6 := hid (show w.heap.size + 2 < g6 from Nat.lt_of_lt_of_le (lt_of_heap HR5.out.rz) hg)
  have hS6 : Cells4O w6 w.heap.size (.int .i64 st) (.string R) (.int .i64 k) (.slice p n c) := cells4O HR6.out.bx
  refine hK _ _ ⟨fun _ => hS6, ?_⟩
  clear hK K' hb hl hg hbk HVi HR5 HK5 HL5 HF5 hS5
  refine late_take (i := 6) (some 11) rfl rfl (by kernel_rfl) (by kernel_rfl) (by kernel_rfl) (by kernel_rfl) (by kernel_rfl) (fun _ _ _ h => h) (by rfl) (v := ?v6r2presp_bl) ?hy6r2presp_bl hS6 ?rest6r2presp_bl
  case hy6r2presp_bl => intro w0 hSw; obtain ⟨a0, a1, a2, a3, _⟩ := hSw; go_simp; try with_reducible rfl
  simp only [Act.put, List.setIfInBounds_toArray, List.set_cons_zero, List.set_cons_succ]
  refine late_done (by kernel_rfl) ?_ _
  refine NoPanic.normal ?_
  clear hS6
  obtain ⟨y0, y1, y2, y3, _⟩ := cells4O HR6.out.bx
  obtain ⟨fb0, fb1⟩ := box2W HR6.out.fb
  go_wp2_with (first | (go_at_call 57; (with_reducible refine (HBa.out _).mono ?_); rintro e w7 ⟨rfl, hw7⟩; subst w7; clear HBa) | (go_at_call 42; (with_reducible refine (HAc.out _ _ _ HL6.out HK6.out).mono ?_); rintro e wc ⟨gc, mc, rfl, hl, hg, hbk, hb⟩; have HRc := hid (HR6.out.next hb); have HKc := hid hbk; have HLc := hid hl; have HGc := hid (show w.heap.size + 2 < gc from Nat.lt_of_lt_of_le (lt_of_heap HR6.out.rz) hg); clear hb hl hg hbk HAc y0 y1 y2 y3; obtain ⟨y0, y1, y2, y3, _⟩ := cells4O HRc.out.bx))
  rw [HFe.out] at HKc HLc
  have HR_v0 := hid (show RpO w wc.drew #[.int .i64 st, .string R, .int .i64 k, .slice p n c] #[.int .i64 K, .int .i64 L] from HRc.out.next ⟨rfl, rfl, rfl, Nat.le_refl _, fun _ _ => rfl⟩)
  have HK_v0 := hid (show BlkF wc.drew gc F from HKc.out)
  have HLL := hid (show F.length = mc from HLc.out)
  have HGL := hid (show w.heap.size + 2 < gc from HGc.out)
  generalize hW0 : wc.drew = v0 at HR_v0 HK_v0
  obtain ⟨gL, hgL⟩ : ∃ gL, gc = gL := ⟨_, rfl⟩
  obtain ⟨nL, hnL⟩ : ∃ nL, mc = nL := ⟨_, rfl⟩
  rw [hgL] at HK_v0 HGL ⊢
  rw [hnL] at HLL ⊢
  refine wp_region_noPanic ?_
  refine any_begin 10 (by kernel_rfl) (by kernel_rfl) ?_
  rw [hW0]
  clear hW0 HRc HKc HLc HGc hgL hnL y0 y1 y2 y3
  refine late_begin (fun U => Cells4O U w.heap.size (.int .i64 st) (.string R) (.int .i64 k) (.slice p n c)) (fun _ => false) (show Cells4O v0 w.heap.size (.int .i64 st) (.string R) (.int .i64 k) (.slice p n c) from cells4O HR_v0.out.bx) (fun hS_v0 => ?_)
  refine late_take (i := 0) (some 53) rfl rfl (by kernel_rfl) (by kernel_rfl) (by kernel_rfl) (by kernel_rfl) (by kernel_rfl) (fun _ _ _ h => h) (by rfl) (v := ?v0r5presp_bl) ?hy0r5presp_bl hS_v0 ?rest0r5presp_bl
  case hy0r5presp_bl => intro w0 hSw; obtain ⟨a0, a1, a2, a3, _⟩ := hSw; go_simp; try with_reducible rfl
  simp only [Act.put, List.setIfInBounds_toArray, List.set_cons_zero, List.set_cons_succ]
  refine late_take (i := 1) (some 54) rfl rfl (by kernel_rfl) (by kernel_rfl) (by kernel_rfl) (by kernel_rfl) (by kernel_rfl) (fun _ _ _ h => h) (by rfl) (v := ?v1r5presp_bl) ?hy1r5presp_bl hS_v0 ?rest1r5presp_bl
  case hy1r5presp_bl => intro w0 hSw; obtain ⟨a0, a1, a2, a3, _⟩ := hSw; go_simp; try with_reducible rfl
  simp only [Act.put, List.setIfInBounds_toArray, List.set_cons_zero, List.set_cons_succ]
  refine late_take (i := 2) (some 55) rfl rfl (by kernel_rfl) (by kernel_rfl) (by kernel_rfl) (by kernel_rfl) (by kernel_rfl) (fun _ _ _ h => h) (by rfl) (v := ?v2r5presp_bl) ?hy2r5presp_bl hS_v0 ?rest2r5presp_bl
  case hy2r5presp_bl => intro w0 hSw; obtain ⟨a0, a1, a2, a3, _⟩ := hSw; go_simp; try with_reducible rfl
  simp only [Act.put, List.setIfInBounds_toArray, List.set_cons_zero, List.set_cons_succ]
  refine late_take (i := 3) (some 56) rfl rfl (by kernel_rfl) (by kernel_rfl) (by kernel_rfl) (by kernel_rfl) (by kernel_rfl) (fun _ _ _ h => h) (by rfl) (v := ?v3r5presp_bl) ?hy3r5presp_bl hS_v0 ?rest3r5presp_bl
  case hy3r5presp_bl => intro w0 hSw; obtain ⟨a0, a1, a2, a3, _⟩ := hSw; go_simp; try with_reducible rfl
  simp only [Act.put, List.setIfInBounds_toArray, List.set_cons_zero, List.set_cons_succ]
  refine late_take (i := 5) (some 58) rfl rfl (by kernel_rfl) (by kernel_rfl) (by kernel_rfl) (by kernel_rfl) (by kernel_rfl) (fun _ _ _ h => h) (by rfl) (v := ?v5r5presp_bl) ?hy5r5presp_bl hS_v0 ?rest5r5presp_bl
  case hy5r5presp_bl => intro w0 hSw; obtain ⟨a0, a1, a2, a3, _⟩ := hSw; go_simp; try with_reducible rfl
  simp only [Act.put, List.setIfInBounds_toArray, List.set_cons_zero, List.set_cons_succ]
  refine late_take (i := 6) (some 59) rfl rfl (by kernel_rfl) (by kernel_rfl) (by kernel_rfl) (by kernel_rfl) (by kernel_rfl) (fun _ _ _ h => h) (by rfl) (v := ?v6r5presp_bl) ?hy6r5presp_bl hS_v0 ?rest6r5presp_bl
  case hy6r5presp_bl => intro w0 hSw; obtain ⟨a0, a1, a2, a3, _⟩ := hSw; go_simp; try with_reducible rfl
  simp only [Act.put, List.setIfInBounds_toArray, List.set_cons_zero, List.set_cons_succ]
  refine wpAnyD_twoD (i := 4) (j := 8) (by kernel_rfl) rfl rfl (fun K' hK => ?_) (fun K' hK => ?_)
  · as_aux_lemma =>
      go_simp
      go_at_call 44
      refine (HC1.out _).mono ?_
      rintro e v1 ⟨rfl, hb⟩
      have HR_v1 := hid (HR_v0.out.next hb)
      have HK_v1 := hid (HK_v0.out.next hb)
      have hS_v1 : Cells4O v1 w.heap.size (.int .i64 st) (.string R) (.int .i64 k) (.slice p n c) := cells4O HR_v1.out.bx
      refine hK _ _ ⟨fun _ => hS_v1, ?_⟩
      clear hK K' HR_v0 HK_v0 hS_v0
      clear hb
      refine late_take (i := 7) (some 60) rfl rfl (by kernel_rfl) (by kernel_rfl) (by kernel_rfl) (by kernel_rfl) (by kernel_rfl) (fun _ _ _ h => h) (by rfl) (v := ?v7r5apresp_bl) ?hy7r5apresp_bl hS_v1 ?rest7r5apresp_bl
      case hy7r5apresp_bl => intro w0 hSw; obtain ⟨a0, a1, a2, a3, _⟩ := hSw; go_simp; try with_reducible rfl
      simp only [Act.put, List.setIfInBounds_toArray, List.set_cons_zero, List.set_cons_succ]
      refine wpAnyD_one (i := 8) (by kernel_rfl) rfl (fun K' hK => ?_)
      go_simp
      have HN_v2 := hid (heap_alloc_new v1 (.cells #[.int .i64 0, .string ⟨#[]⟩, .int .i64 0, .slice none 0 0] 62 (0, 0)))
      have HH9 := hid (show w.heap.size + 2 < v1.heap.size from lt_of_heap HR_v1.out.rz)
      have HJ9 := hid (show gL ≠ v1.heap.size from fun e => Nat.lt_irrefl _ (by have h9 := lt_of_heap HK_v1.out; rw [e] at h9; exact h9))
      have HR_v2 := hid (HR_v1.out.next (below_new v1 (.cells #[.int .i64 0, .string ⟨#[]⟩, .int .i64 0, .slice none 0 0] 62 (0, 0))))
      have HK_v2 := hid (HK_v1.out.next (below_new v1 (.cells #[.int .i64 0, .string ⟨#[]⟩, .int .i64 0, .slice none 0 0] 62 (0, 0))))
      have hS_v2 : Cells4O (v1.alloc (.cells #[.int .i64 0, .string ⟨#[]⟩, .int .i64 0, .slice none 0 0] 62 (0, 0))) w.heap.size (.int .i64 st) (.string R) (.int .i64 k) (.slice p n c) := cells4O HR_v2.out.bx
      refine hK _ _ ⟨fun _ => hS_v2, ?_⟩
      clear hK K'
      generalize hB_ : v1.alloc (.cells #[.int .i64 0, .string ⟨#[]⟩, .int .i64 0, .slice none 0 0] 62 (0, 0)) = v2 at HN_v2 HR_v2 HK_v2 hS_v2 ⊢
      generalize hg9_ : v1.heap.size = g9 at HN_v2 HH9 HJ9 ⊢
      clear hB_ hg9_ HR_v1 HK_v1 hS_v1
      obtain ⟨z0, z1, z2, z3, zz⟩ := cells4O HN_v2.out
      have zz0 := zz 0; have zz1 := zz 1; have zz2 := zz 2; have zz3 := zz 3
      clear zz
      refine wpAnyD_one (i := 9) (by kernel_rfl) rfl (fun K' hK => ?_)
      go_simp
      have HT5 := hid (RpT.made HR_v2.out HK_v2.out HGL.out HN_v2.out HH9.out HJ9.out (.int .i64 st) (.string R) (.int .i64 mi) (.slice (some ⟨gL, 0, none⟩) nL nL))
      have hS5 : Cells4O ((((v2.setCell ⟨g9, 0, none⟩ (.int .i64 st)).setCell ⟨g9, 1, none⟩ (.string R)).setCell ⟨g9, 2, none⟩ (.int .i64 mi)).setCell ⟨g9, 3, none⟩ (.slice (some ⟨gL, 0, none⟩) nL nL)) w.heap.size (.int .i64 st) (.string R) (.int .i64 k) (.slice p n c) := ⟨by rw [keep4O (show w.heap.size ≠ g9 from by have h8 := HH9.out; omega)]; exact hS_v2.a0, by rw [keep4O (show w.heap.size ≠ g9 from by have h8 := HH9.out; omega)]; exact hS_v2.a1, by rw [keep4O (show w.heap.size ≠ g9 from by have h8 := HH9.out; omega)]; exact hS_v2.a2, by rw [keep4O (show w.heap.size ≠ g9 from by have h8 := HH9.out; omega)]; exact hS_v2.a3, fun j => (keep4Z (show w.heap.size ≠ g9 from by have h8 := HH9.out; omega)).trans (hS_v2.z j)⟩
      refine hK _ _ ⟨fun _ => hS5, ?_⟩
      clear hK K'
      generalize hW5 : ((((v2.setCell ⟨g9, 0, none⟩ (.int .i64 st)).setCell ⟨g9, 1, none⟩ (.string R)).setCell ⟨g9, 2, none⟩ (.int .i64 mi)).setCell ⟨g9, 3, none⟩ (.slice (some ⟨gL, 0, none⟩) nL nL)) = U5 at HT5 hS5 ⊢
      clear hW5 z0 z1 z2 z3 zz0 zz1 zz2 zz3 HR_v2 HK_v2 HN_v2 hS_v2
      refine late_done (by kernel_rfl) ?_ _
      refine NoPanic.normal ?_
      clear hS5
      obtain ⟨c0, c1, c2, c3, _⟩ := cells4O HT5.out.nw
      by_cases hgr : greatE F.length e0 = 0
      · as_aux_lemma =>
          have HGr := hid (show ∀ W : World, Calls Tryz.prog 46 #[.slice (some ⟨gL, 0, none⟩) nL nL, errOf e0] W fun r w' => r = .returned .nilIface ∧ Below W.heap.size W w' from fun W => by
            have h := pgreat (some ⟨gL, 0, none⟩) nL nL e0 W
            rw [← HLL.out, hgr, show errOf 0 = Value.nilIface from rfl] at h
            rw [← HLL.out]
            exact h)
          have HGz := hid hgr
          clear hgr
          go_wp2_with (first | (go_at_call 59; (with_reducible refine (HWr.out _ _ _ HT5.out.low HLL.out HT5.out.row).mono ?_); rintro e w10 ⟨v10, rfl, hb⟩; have HT10 := hid (HT5.out.next hb); clear hb HWr HT5 c0 c1 c2 c3) | (go_at_call 46; (with_reducible refine (HGr.out _).mono ?_); rintro e w11 ⟨rfl, hb⟩; have HT11 := hid (HT10.out.next hb); clear hb HGr HT10; obtain ⟨c0, c1, c2, c3, _⟩ := cells4O HT11.out.nw; obtain ⟨z0, z1, z2, z3, zz⟩ := cells4O HT11.out.rz; have zz0 := zz 0; have zz1 := zz 1; have zz2 := zz 2; have zz3 := zz 3; clear zz))
          (try simp only [Exit.inBlock, Exit.then])
          refine bodyPost_ret (results_respO rfl _ _ _ 62 _ (0, 0) rfl (fourCO HT11.out.rz _ _ _ _) rfl) rfl ?_
          refine .inr ⟨HGz.out, gL, ?_, by have h9 := HT11.out.gl; omega, blkF_only HT11.out.row (only4O (F := fun k => k = w.heap.size + 2) rfl _ _ _ _) (by have h9 := HT11.out.gl; omega), ?_⟩
          · rw [HLL.out]
            rfl
          · iterate 4 refine Below.setCell ?_ (show w.heap.size ≤ w.heap.size + 2 by omega) _
            exact HT11.out.low
      · as_aux_lemma =>
          have HGr := hid (show ∀ W : World, Calls Tryz.prog 46 #[.slice (some ⟨gL, 0, none⟩) nL nL, errOf e0] W fun r w' => r = .returned (.iface 72 (.int .i64 (greatE F.length e0 : Int))) ∧ Below W.heap.size W w' from fun W => by
            have h := pgreat (some ⟨gL, 0, none⟩) nL nL e0 W
            rw [← HLL.out, errOf_pos hgr] at h
            rw [← HLL.out]
            exact h)
          have HGz := hid hgr
          obtain ⟨ge, hge⟩ : ∃ ge : Int, (greatE F.length e0 : Int) = ge := ⟨_, rfl⟩
          rw [hge] at HGr
          have HGE := hid hge
          clear hgr hge
          go_wp2_with (first | (go_at_call 59; (with_reducible refine (HWr.out _ _ _ HT5.out.low HLL.out HT5.out.row).mono ?_); rintro e w10 ⟨v10, rfl, hb⟩; have HT10 := hid (HT5.out.next hb); clear hb HWr HT5 c0 c1 c2 c3) | (go_at_call 46; (with_reducible refine (HGr.out _).mono ?_); rintro e w11 ⟨rfl, hb⟩; have HT11 := hid (HT10.out.next hb); clear hb HGr HT10; obtain ⟨z0, z1, z2, z3, zz⟩ := cells4O HT11.out.rz; have zz0 := zz 0; have zz1 := zz 1; have zz2 := zz 2; have zz3 := zz 3; clear zz))
          (try simp only [Exit.inBlock, Exit.then])
          refine bodyPost_ret (results_respO rfl _ _ _ 62 _ (0, 0) rfl (fourCO HT11.out.rz _ _ _ _) rfl) rfl ?_
          refine .inl ⟨HGz.out, (by rw [HGE.out]; rfl), ?_⟩
          iterate 4 refine Below.setCell ?_ (show w.heap.size ≤ w.heap.size + 2 by omega) _
          exact HT11.out.low
  · as_aux_lemma =>
      go_simp
      have HN_v1 := hid (heap_alloc_new v0 (.cells #[.int .i64 0, .string ⟨#[]⟩, .int .i64 0, .slice none 0 0] 62 (0, 0)))
      have HH9 := hid (show w.heap.size + 2 < v0.heap.size from lt_of_heap HR_v0.out.rz)
      have HJ9 := hid (show gL ≠ v0.heap.size from fun e => Nat.lt_irrefl _ (by have h9 := lt_of_heap HK_v0.out; rw [e] at h9; exact h9))
      have HR_v1 := hid (HR_v0.out.next (below_new v0 (.cells #[.int .i64 0, .string ⟨#[]⟩, .int .i64 0, .slice none 0 0] 62 (0, 0))))
      have HK_v1 := hid (HK_v0.out.next (below_new v0 (.cells #[.int .i64 0, .string ⟨#[]⟩, .int .i64 0, .slice none 0 0] 62 (0, 0))))
      have hS_v1 : Cells4O (v0.alloc (.cells #[.int .i64 0, .string ⟨#[]⟩, .int .i64 0, .slice none 0 0] 62 (0, 0))) w.heap.size (.int .i64 st) (.string R) (.int .i64 k) (.slice p n c) := cells4O HR_v1.out.bx
      refine hK _ _ ⟨fun _ => hS_v1, ?_⟩
      clear hK K'
      generalize hB_ : v0.alloc (.cells #[.int .i64 0, .string ⟨#[]⟩, .int .i64 0, .slice none 0 0] 62 (0, 0)) = v1 at HN_v1 HR_v1 HK_v1 hS_v1 ⊢
      generalize hg9_ : v0.heap.size = g9 at HN_v1 HH9 HJ9 ⊢
      clear hB_ hg9_ HR_v0 HK_v0 hS_v0
      refine wpAnyD_one (i := 4) (by kernel_rfl) rfl (fun K' hK => ?_)
      go_simp
      go_at_call 44
      refine (HC1.out _).mono ?_
      rintro e v2 ⟨rfl, hb⟩
      have HR_v2 := hid (HR_v1.out.next hb)
      have HK_v2 := hid (HK_v1.out.next hb)
      have HN_v2 := hid ((hb.block _ (lt_of_heap HN_v1.out)).trans HN_v1.out)
      have hS_v2 : Cells4O v2 w.heap.size (.int .i64 st) (.string R) (.int .i64 k) (.slice p n c) := cells4O HR_v2.out.bx
      refine hK _ _ ⟨fun _ => hS_v2, ?_⟩
      clear hK K' HR_v1 HK_v1 hS_v1 HN_v1
      clear hb
      refine late_take (i := 7) (some 60) rfl rfl (by kernel_rfl) (by kernel_rfl) (by kernel_rfl) (by kernel_rfl) (by kernel_rfl) (fun _ _ _ h => h) (by rfl) (v := ?v7r5bpresp_bl) ?hy7r5bpresp_bl hS_v2 ?rest7r5bpresp_bl
      case hy7r5bpresp_bl => intro w0 hSw; obtain ⟨a0, a1, a2, a3, _⟩ := hSw; go_simp; try with_reducible rfl
      simp only [Act.put, List.setIfInBounds_toArray, List.set_cons_zero, List.set_cons_succ]
      obtain ⟨z0, z1, z2, z3, zz⟩ := cells4O HN_v2.out
      have zz0 := zz 0; have zz1 := zz 1; have zz2 := zz 2; have zz3 := zz 3
      clear zz
      refine wpAnyD_one (i := 9) (by kernel_rfl) rfl (fun K' hK => ?_)
      go_simp
      have HT5 := hid (RpT.made HR_v2.out HK_v2.out HGL.out HN_v2.out HH9.out HJ9.out (.int .i64 st) (.string R) (.int .i64 mi) (.slice (some ⟨gL, 0, none⟩) nL nL))
      have hS5 : Cells4O ((((v2.setCell ⟨g9, 0, none⟩ (.int .i64 st)).setCell ⟨g9, 1, none⟩ (.string R)).setCell ⟨g9, 2, none⟩ (.int .i64 mi)).setCell ⟨g9, 3, none⟩ (.slice (some ⟨gL, 0, none⟩) nL nL)) w.heap.size (.int .i64 st) (.string R) (.int .i64 k) (.slice p n c) := ⟨by rw [keep4O (show w.heap.size ≠ g9 from by have h8 := HH9.out; omega)]; exact hS_v2.a0, by rw [keep4O (show w.heap.size ≠ g9 from by have h8 := HH9.out; omega)]; exact hS_v2.a1, by rw [keep4O (show w.heap.size ≠ g9 from by have h8 := HH9.out; omega)]; exact hS_v2.a2, by rw [keep4O (show w.heap.size ≠ g9 from by have h8 := HH9.out; omega)]; exact hS_v2.a3, fun j => (keep4Z (show w.heap.size ≠ g9 from by have h8 := HH9.out; omega)).trans (hS_v2.z j)⟩
      refine hK _ _ ⟨fun _ => hS5, ?_⟩
      clear hK K'
      generalize hW5 : ((((v2.setCell ⟨g9, 0, none⟩ (.int .i64 st)).setCell ⟨g9, 1, none⟩ (.string R)).setCell ⟨g9, 2, none⟩ (.int .i64 mi)).setCell ⟨g9, 3, none⟩ (.slice (some ⟨gL, 0, none⟩) nL nL)) = U5 at HT5 hS5 ⊢
      clear hW5 z0 z1 z2 z3 zz0 zz1 zz2 zz3 HR_v2 HK_v2 HN_v2 hS_v2
      refine late_done (by kernel_rfl) ?_ _
      refine NoPanic.normal ?_
      clear hS5
      obtain ⟨c0, c1, c2, c3, _⟩ := cells4O HT5.out.nw
      by_cases hgr : greatE F.length e0 = 0
      · as_aux_lemma =>
          have HGr := hid (show ∀ W : World, Calls Tryz.prog 46 #[.slice (some ⟨gL, 0, none⟩) nL nL, errOf e0] W fun r w' => r = .returned .nilIface ∧ Below W.heap.size W w' from fun W => by
            have h := pgreat (some ⟨gL, 0, none⟩) nL nL e0 W
            rw [← HLL.out, hgr, show errOf 0 = Value.nilIface from rfl] at h
            rw [← HLL.out]
            exact h)
          have HGz := hid hgr
          clear hgr
          go_wp2_with (first | (go_at_call 59; (with_reducible refine (HWr.out _ _ _ HT5.out.low HLL.out HT5.out.row).mono ?_); rintro e w10 ⟨v10, rfl, hb⟩; have HT10 := hid (HT5.out.next hb); clear hb HWr HT5 c0 c1 c2 c3) | (go_at_call 46; (with_reducible refine (HGr.out _).mono ?_); rintro e w11 ⟨rfl, hb⟩; have HT11 := hid (HT10.out.next hb); clear hb HGr HT10; obtain ⟨c0, c1, c2, c3, _⟩ := cells4O HT11.out.nw; obtain ⟨z0, z1, z2, z3, zz⟩ := cells4O HT11.out.rz; have zz0 := zz 0; have zz1 := zz 1; have zz2 := zz 2; have zz3 := zz 3; clear zz))
          (try simp only [Exit.inBlock, Exit.then])
          refine bodyPost_ret (results_respO rfl _ _ _ 62 _ (0, 0) rfl (fourCO HT11.out.rz _ _ _ _) rfl) rfl ?_
          refine .inr ⟨HGz.out, gL, ?_, by have h9 := HT11.out.gl; omega, blkF_only HT11.out.row (only4O (F := fun k => k = w.heap.size + 2) rfl _ _ _ _) (by have h9 := HT11.out.gl; omega), ?_⟩
          · rw [HLL.out]
            rfl
          · iterate 4 refine Below.setCell ?_ (show w.heap.size ≤ w.heap.size + 2 by omega) _
            exact HT11.out.low
      · as_aux_lemma =>
          have HGr := hid (show ∀ W : World, Calls Tryz.prog 46 #[.slice (some ⟨gL, 0, none⟩) nL nL, errOf e0] W fun r w' => r = .returned (.iface 72 (.int .i64 (greatE F.length e0 : Int))) ∧ Below W.heap.size W w' from fun W => by
            have h := pgreat (some ⟨gL, 0, none⟩) nL nL e0 W
            rw [← HLL.out, errOf_pos hgr] at h
            rw [← HLL.out]
            exact h)
          have HGz := hid hgr
          obtain ⟨ge, hge⟩ : ∃ ge : Int, (greatE F.length e0 : Int) = ge := ⟨_, rfl⟩
          rw [hge] at HGr
          have HGE := hid hge
          clear hgr hge
          go_wp2_with (first | (go_at_call 59; (with_reducible refine (HWr.out _ _ _ HT5.out.low HLL.out HT5.out.row).mono ?_); rintro e w10 ⟨v10, rfl, hb⟩; have HT10 := hid (HT5.out.next hb); clear hb HWr HT5 c0 c1 c2 c3) | (go_at_call 46; (with_reducible refine (HGr.out _).mono ?_); rintro e w11 ⟨rfl, hb⟩; have HT11 := hid (HT10.out.next hb); clear hb HGr HT10; obtain ⟨z0, z1, z2, z3, zz⟩ := cells4O HT11.out.rz; have zz0 := zz 0; have zz1 := zz 1; have zz2 := zz 2; have zz3 := zz 3; clear zz))
          (try simp only [Exit.inBlock, Exit.then])
          refine bodyPost_ret (results_respO rfl _ _ _ 62 _ (0, 0) rfl (fourCO HT11.out.rz _ _ _ _) rfl) rfl ?_
          refine .inl ⟨HGz.out, (by rw [HGE.out]; rfl), ?_⟩
          iterate 4 refine Below.setCell ?_ (show w.heap.size ≤ w.heap.size + 2 by omega) _
          exact HT11.out.low
set_option maxRecDepth 20000 in
set_option maxHeartbeats 32000000 in
theorem presp_b (st : Int) (r : B) (k : Int) (fs : List (B × B)) (p : Option Addr) (n c : Nat) (hn : fs.length = n) (K L mi : Int) (w : World) (hF : FAt w p fs) (hsz : szN fs) (hnn : n ≤ 1000) (hr : r.length ≤ 1048576) (hL0 : -9223372036854775808 ≤ L) (hL1 : L ≤ 9223372036854775807) (hE : EnvP w) (hmx : ∃ m : Int, w.cell? ⟨2, 0, none⟩ = some (.int .i64 m)) (hB : bareS st = true) :
    Calls Tryz.prog 25 #[.agg #[.int .i64 st, .string (str r), .int .i64 k, .slice p n c], .agg #[.int .i64 K, .int .i64 L], .int .i64 mi, .bool false] w fun e w' => PAns st r mi (onP st K L false fs k) w e w' := by
  have hFz : szC 1048576 (onP st K L false fs k) := onP_sz hsz hL0 hL1
  have h1z : szC 1048576 (onP1 fs k) := onP1_sz hsz
  have h1w := szC_W h1z (by decide)
  have h2w := szC_W (onP2_sz (st := st) (K := K) (k := k) hsz hL0 hL1) (by decide)
  have h0w : szW (stripF fs) := fun f hf => szC_W (C := 1048576) hsz (by decide) f (List.mem_filter.1 hf).1
  have h0n : szN (stripF fs) := fun f hf => hsz f (List.mem_filter.1 hf).1
  have hfw : szW (framF (stripF fs) 0 0) := fun f hf => by
    rcases framF_mem hf with h | h
    · exact h0w f h
    · exact szC_W (frmA_sz (K := 0) (L := 0) (by decide) (by decide)) (by decide) f h
  have HSt := hid (show ∀ W : World, Below w.heap.size w W → _ from fun W hb => pstrip fs p n c hn W (hF.next hb) hsz hnn (hmx.elim fun m h => ⟨m, cell_keep hb h⟩))
  have hl0 := stripF_le fs
  have hlf := framF_len (stripF fs) 0 0
  have hl1 := onP1_len fs k
  have hl2 := onP2_len st K L fs k
  have hlP := onP_len st K L false fs k
  have HFr := hid (show ∀ (W : World) (q : Option Addr) (d : Nat), Below w.heap.size w W → FAt W q (stripF fs) → _ from fun W q d hb h => pframing (stripF fs) 0 0 q (stripF fs).length d rfl W h h0w (by omega) (by decide) (by decide) (hE.next hb))
  have HVi := hid (show ∀ (W : World) (g s : Nat), Below w.heap.size w W → (framF (stripF fs) 0 0).length = s → BlkF W g (framF (stripF fs) 0 0) → _ from fun W g s hb hs h => pvia (framF (stripF fs) 0 0) k (some ⟨g, 0, none⟩) s s hs (Nat.le_refl _) (fun e => by cases e) (fun ad e => by cases e; rfl) W h.fat hfw (by omega) (hE.next hb))
  rw [show viaF (framF (stripF fs) 0 0) k = onP1 fs k from rfl] at HVi
  have HBa := hid (show ∀ W : World, _ from fun W => pbare st W)
  rw [hB] at HBa
  obtain ⟨F, hFF⟩ : ∃ F, onP st K L false fs k = F := ⟨_, rfl⟩
  rw [hFF] at hFz hlP
  rw [hFF]
  have HWr := hid (show ∀ (W : World) (g s : Nat), Below w.heap.size w W → F.length = s → BlkF W g F → _ from fun W g s hb hs h => wresp_e st r mi F (some ⟨g, 0, none⟩) s s hs W (hE.next hb) h.fat hFz (by omega) hr)
  have HC1 := hid (show ∀ W : World, _ from fun W => clone_any (str r) W (by rw [str_size]; omega))
  have HFe := hid (show onP1 fs k = F from by rw [← hFF]; unfold onP; rw [if_neg (by decide), onP2_b hB])
  unfold PAns
  obtain ⟨e0, he0⟩ : ∃ e0, respE st r mi F = e0 := ⟨_, rfl⟩
  rw [he0] at HWr
  rw [he0]
  obtain ⟨R, hR⟩ : ∃ R, str r = R := ⟨_, rfl⟩
  rw [hR] at HWr HC1
  rw [hR]
  obtain ⟨X0, hX0⟩ : ∃ X, stripF fs = X := ⟨_, rfl⟩
  rw [hX0] at HSt HFr HVi
  obtain ⟨XF, hXF⟩ : ∃ X, framF X0 0 0 = X := ⟨_, rfl⟩
  rw [hXF] at HFr HVi
  obtain ⟨X1, hX1⟩ : ∃ X, onP1 fs k = X := ⟨_, rfl⟩
  rw [hX1] at HVi HFe
  have HR0 := hid (RpO.start w #[.int .i64 st, .string R, .int .i64 k, .slice p n c] #[.int .i64 K, .int .i64 L])
  clear hF hsz hn hmx hFz h1z h1w h2w h0w h0n hfw hl0 hlf hl1 hl2 hlP hFF he0 hR hX0 hXF hX1 hB hE hr
  go_enter Tryz.func25, Tryz.ntmps25
  obtain ⟨y0, y1, y2, y3, _⟩ := cells4O HR0.out.bx
  go_wp2_with (go_at_call 36; (with_reducible refine (HSt.out _ HR0.out.low).mono ?_); rintro e w1 ⟨v1, rfl, ho, hb⟩; obtain ⟨q1, d1, rfl⟩ := own_slice ho; have HR1 := hid (HR0.out.next hb); have HF1 := hid (OwnF.fat ho); clear hb ho HSt HR0 y0 y1 y2 y3)
  have HR4 := hid (show RpO w w1.drew #[.int .i64 st, .string R, .int .i64 k, .slice p n c] #[.int .i64 K, .int .i64 L] from HR1.out.next ⟨rfl, rfl, rfl, Nat.le_refl _, fun _ _ => rfl⟩)
  have HF4 := hid (show FAt w1.drew q1 X0 from HF1.out.next ⟨rfl, rfl, rfl, Nat.le_refl _, fun _ _ => rfl⟩)
  generalize hW4 : w1.drew = w4 at HR4 HF4
  refine wp_region_noPanic ?_
  refine any_begin 7 (by kernel_rfl) (by kernel_rfl) ?_
  rw [hW4]
  clear hW4 HR1 HF1
  refine late_begin (fun U => Cells4O U w.heap.size (.int .i64 st) (.string R) (.int .i64 k) (.slice p n c)) (fun _ => false) (show Cells4O w4 w.heap.size (.int .i64 st) (.string R) (.int .i64 k) (.slice p n c) from cells4O HR4.out.bx) (fun hS => ?_)
  refine late_take (i := 0) (some 21) rfl rfl (by kernel_rfl) (by kernel_rfl) (by kernel_rfl) (by kernel_rfl) (by kernel_rfl) (fun _ _ _ h => h) (by rfl) (v := ?v0r2presp_b) ?hy0r2presp_b hS ?rest0r2presp_b
  case hy0r2presp_b => intro w0 hSw; obtain ⟨a0, a1, a2, a3, _⟩ := hSw; go_simp; try with_reducible rfl
  simp only [Act.put, List.setIfInBounds_toArray, List.set_cons_zero, List.set_cons_succ]
  refine late_take (i := 1) (some 22) rfl rfl (by kernel_rfl) (by kernel_rfl) (by kernel_rfl) (by kernel_rfl) (by kernel_rfl) (fun _ _ _ h => h) (by rfl) (v := ?v1r2presp_b) ?hy1r2presp_b hS ?rest1r2presp_b
  case hy1r2presp_b => intro w0 hSw; obtain ⟨a0, a1, a2, a3, _⟩ := hSw; go_simp; try with_reducible rfl
  simp only [Act.put, List.setIfInBounds_toArray, List.set_cons_zero, List.set_cons_succ]
  refine late_take (i := 3) (some 24) rfl rfl (by kernel_rfl) (by kernel_rfl) (by kernel_rfl) (by kernel_rfl) (by kernel_rfl) (fun _ _ _ h => h) (by rfl) (v := ?v3r2presp_b) ?hy3r2presp_b hS ?rest3r2presp_b
  case hy3r2presp_b => intro w0 hSw; obtain ⟨a0, a1, a2, a3, _⟩ := hSw; go_simp; try with_reducible rfl
  simp only [Act.put, List.setIfInBounds_toArray, List.set_cons_zero, List.set_cons_succ]
  refine late_take (i := 4) (some 25) rfl rfl (by kernel_rfl) (by kernel_rfl) (by kernel_rfl) (by kernel_rfl) (by kernel_rfl) (fun _ _ _ h => h) (by rfl) (v := ?v4r2presp_b) ?hy4r2presp_b hS ?rest4r2presp_b
  case hy4r2presp_b => intro w0 hSw; obtain ⟨a0, a1, a2, a3, _⟩ := hSw; go_simp; try with_reducible rfl
  simp only [Act.put, List.setIfInBounds_toArray, List.set_cons_zero, List.set_cons_succ]
  refine wpAnyD_one (i := 2) (by kernel_rfl) rfl (fun K' hK => ?_)
  go_simp
  go_at_call 37
  refine (HFr.out _ _ _ HR4.out.low HF4.out).mono ?_
  rintro e w5 ⟨g5, m5, rfl, hl, hg, hbk, hb⟩
  have HR5 := hid (HR4.out.next hb)
  have HF5 := hid (HF4.out.next hb)
  have HK5 := hid hbk
  have HL5 := hid hl
  have hS5 : Cells4O w5 w.heap.size (.int .i64 st) (.string R) (.int .i64 k) (.slice p n c) := cells4O HR5.out.bx
  refine hK _ _ ⟨fun _ => hS5, ?_⟩
  clear hK K' hb hl hg hbk HFr HR4 HF4 hS
  refine wpAnyD_one (i := 5) (by kernel_rfl) rfl (fun K' hK => ?_)
  go_simp
  go_at_call 39
  refine (HVi.out _ _ _ HR5.out.low HL5.out HK5.out).mono ?_
  rintro e w6 ⟨g6, m6, rfl, hl, hg, hbk, hb⟩
  have HR6 := hid (HR5.out.next hb)
  have HF6 := hid (HF5.out.next hb)
  have HK6 := hid hbk
  have HL6 := hid hl
  have HG6 := hid (show w.heap.size + 2 < g6 from Nat.lt_of_lt_of_le (lt_of_heap HR5.out.rz) hg)
  have hS6 : Cells4O w6 w.heap.size (.int .i64 st) (.string R) (.int .i64 k) (.slice p n c) := cells4O HR6.out.bx
  refine hK _ _ ⟨fun _ => hS6, ?_⟩
  clear hK K' hb hl hg hbk HVi HR5 HK5 HL5 HF5 hS5
  refine late_take (i := 6) (some 11) rfl rfl (by kernel_rfl) (by kernel_rfl) (by kernel_rfl) (by kernel_rfl) (by kernel_rfl) (fun _ _ _ h => h) (by rfl) (v := ?v6r2presp_b) ?hy6r2presp_b hS6 ?rest6r2presp_b
  case hy6r2presp_b => intro w0 hSw; obtain ⟨a0, a1, a2, a3, _⟩ := hSw; go_simp; try with_reducible rfl
  simp only [Act.put, List.setIfInBounds_toArray, List.set_cons_zero, List.set_cons_succ]
  refine late_done (by kernel_rfl) ?_ _
  refine NoPanic.normal ?_
  clear hS6
  obtain ⟨y0, y1, y2, y3, _⟩ := cells4O HR6.out.bx
  obtain ⟨fb0, fb1⟩ := box2W HR6.out.fb
  go_wp2_with (first | (go_at_call 57; (with_reducible refine (HBa.out _).mono ?_); rintro e w7 ⟨rfl, hw7⟩; subst w7; clear HBa))
  rw [HFe.out] at HK6 HL6
  have HR_v0 := hid (show RpO w w6.drew #[.int .i64 st, .string R, .int .i64 k, .slice p n c] #[.int .i64 K, .int .i64 L] from HR6.out.next ⟨rfl, rfl, rfl, Nat.le_refl _, fun _ _ => rfl⟩)
  have HK_v0 := hid (show BlkF w6.drew g6 F from HK6.out)
  have HLL := hid (show F.length = m6 from HL6.out)
  have HGL := hid (show w.heap.size + 2 < g6 from HG6.out)
  generalize hW0 : w6.drew = v0 at HR_v0 HK_v0
  obtain ⟨gL, hgL⟩ : ∃ gL, g6 = gL := ⟨_, rfl⟩
  obtain ⟨nL, hnL⟩ : ∃ nL, m6 = nL := ⟨_, rfl⟩
  rw [hgL] at HK_v0 HGL ⊢
  rw [hnL] at HLL ⊢
  refine wp_region_noPanic ?_
  refine any_begin 10 (by kernel_rfl) (by kernel_rfl) ?_
  rw [hW0]
  clear hW0 HR6 HK6 HL6 HG6 hgL hnL y0 y1 y2 y3
  refine late_begin (fun U => Cells4O U w.heap.size (.int .i64 st) (.string R) (.int .i64 k) (.slice p n c)) (fun _ => false) (show Cells4O v0 w.heap.size (.int .i64 st) (.string R) (.int .i64 k) (.slice p n c) from cells4O HR_v0.out.bx) (fun hS_v0 => ?_)
  refine late_take (i := 0) (some 53) rfl rfl (by kernel_rfl) (by kernel_rfl) (by kernel_rfl) (by kernel_rfl) (by kernel_rfl) (fun _ _ _ h => h) (by rfl) (v := ?v0r5presp_b) ?hy0r5presp_b hS_v0 ?rest0r5presp_b
  case hy0r5presp_b => intro w0 hSw; obtain ⟨a0, a1, a2, a3, _⟩ := hSw; go_simp; try with_reducible rfl
  simp only [Act.put, List.setIfInBounds_toArray, List.set_cons_zero, List.set_cons_succ]
  refine late_take (i := 1) (some 54) rfl rfl (by kernel_rfl) (by kernel_rfl) (by kernel_rfl) (by kernel_rfl) (by kernel_rfl) (fun _ _ _ h => h) (by rfl) (v := ?v1r5presp_b) ?hy1r5presp_b hS_v0 ?rest1r5presp_b
  case hy1r5presp_b => intro w0 hSw; obtain ⟨a0, a1, a2, a3, _⟩ := hSw; go_simp; try with_reducible rfl
  simp only [Act.put, List.setIfInBounds_toArray, List.set_cons_zero, List.set_cons_succ]
  refine late_take (i := 2) (some 55) rfl rfl (by kernel_rfl) (by kernel_rfl) (by kernel_rfl) (by kernel_rfl) (by kernel_rfl) (fun _ _ _ h => h) (by rfl) (v := ?v2r5presp_b) ?hy2r5presp_b hS_v0 ?rest2r5presp_b
  case hy2r5presp_b => intro w0 hSw; obtain ⟨a0, a1, a2, a3, _⟩ := hSw; go_simp; try with_reducible rfl
  simp only [Act.put, List.setIfInBounds_toArray, List.set_cons_zero, List.set_cons_succ]
  refine late_take (i := 3) (some 56) rfl rfl (by kernel_rfl) (by kernel_rfl) (by kernel_rfl) (by kernel_rfl) (by kernel_rfl) (fun _ _ _ h => h) (by rfl) (v := ?v3r5presp_b) ?hy3r5presp_b hS_v0 ?rest3r5presp_b
  case hy3r5presp_b => intro w0 hSw; obtain ⟨a0, a1, a2, a3, _⟩ := hSw; go_simp; try with_reducible rfl
  simp only [Act.put, List.setIfInBounds_toArray, List.set_cons_zero, List.set_cons_succ]
  refine late_take (i := 5) (some 58) rfl rfl (by kernel_rfl) (by kernel_rfl) (by kernel_rfl) (by kernel_rfl) (by kernel_rfl) (fun _ _ _ h => h) (by rfl) (v := ?v5r5presp_b) ?hy5r5presp_b hS_v0 ?rest5r5presp_b
  case hy5r5presp_b => intro w0 hSw; obtain ⟨a0, a1, a2, a3, _⟩ := hSw; go_simp; try with_reducible rfl
  simp only [Act.put, List.setIfInBounds_toArray, List.set_cons_zero, List.set_cons_succ]
  refine late_take (i := 6) (some 59) rfl rfl (by kernel_rfl) (by kernel_rfl) (by kernel_rfl) (by kernel_rfl) (by kernel_rfl) (fun _ _ _ h => h) (by rfl) (v := ?v6r5presp_b) ?hy6r5presp_b hS_v0 ?rest6r5presp_b
  case hy6r5presp_b => intro w0 hSw; obtain ⟨a0, a1, a2, a3, _⟩ := hSw; go_simp; try with_reducible rfl
  simp only [Act.put, List.setIfInBounds_toArray, List.set_cons_zero, List.set_cons_succ]
  refine wpAnyD_twoD (i := 4) (j := 8) (by kernel_rfl) rfl rfl (fun K' hK => ?_) (fun K' hK => ?_)
  · as_aux_lemma =>
      go_simp
      go_at_call 44
      refine (HC1.out _).mono ?_
      rintro e v1 ⟨rfl, hb⟩
      have HR_v1 := hid (HR_v0.out.next hb)
      have HK_v1 := hid (HK_v0.out.next hb)
      have hS_v1 : Cells4O v1 w.heap.size (.int .i64 st) (.string R) (.int .i64 k) (.slice p n c) := cells4O HR_v1.out.bx
      refine hK _ _ ⟨fun _ => hS_v1, ?_⟩
      clear hK K' HR_v0 HK_v0 hS_v0
      clear hb
      refine late_take (i := 7) (some 60) rfl rfl (by kernel_rfl) (by kernel_rfl) (by kernel_rfl) (by kernel_rfl) (by kernel_rfl) (fun _ _ _ h => h) (by rfl) (v := ?v7r5apresp_b) ?hy7r5apresp_b hS_v1 ?rest7r5apresp_b
      case hy7r5apresp_b => intro w0 hSw; obtain ⟨a0, a1, a2, a3, _⟩ := hSw; go_simp; try with_reducible rfl
      simp only [Act.put, List.setIfInBounds_toArray, List.set_cons_zero, List.set_cons_succ]
      refine wpAnyD_one (i := 8) (by kernel_rfl) rfl (fun K' hK => ?_)
      go_simp
      have HN_v2 := hid (heap_alloc_new v1 (.cells #[.int .i64 0, .string ⟨#[]⟩, .int .i64 0, .slice none 0 0] 62 (0, 0)))
      have HH9 := hid (show w.heap.size + 2 < v1.heap.size from lt_of_heap HR_v1.out.rz)
      have HJ9 := hid (show gL ≠ v1.heap.size from fun e => Nat.lt_irrefl _ (by have h9 := lt_of_heap HK_v1.out; rw [e] at h9; exact h9))
      have HR_v2 := hid (HR_v1.out.next (below_new v1 (.cells #[.int .i64 0, .string ⟨#[]⟩, .int .i64 0, .slice none 0 0] 62 (0, 0))))
      have HK_v2 := hid (HK_v1.out.next (below_new v1 (.cells #[.int .i64 0, .string ⟨#[]⟩, .int .i64 0, .slice none 0 0] 62 (0, 0))))
      have hS_v2 : Cells4O (v1.alloc (.cells #[.int .i64 0, .string ⟨#[]⟩, .int .i64 0, .slice none 0 0] 62 (0, 0))) w.heap.size (.int .i64 st) (.string R) (.int .i64 k) (.slice p n c) := cells4O HR_v2.out.bx
      refine hK _ _ ⟨fun _ => hS_v2, ?_⟩
      clear hK K'
      generalize hB_ : v1.alloc (.cells #[.int .i64 0, .string ⟨#[]⟩, .int .i64 0, .slice none 0 0] 62 (0, 0)) = v2 at HN_v2 HR_v2 HK_v2 hS_v2 ⊢
      generalize hg9_ : v1.heap.size = g9 at HN_v2 HH9 HJ9 ⊢
      clear hB_ hg9_ HR_v1 HK_v1 hS_v1
      obtain ⟨z0, z1, z2, z3, zz⟩ := cells4O HN_v2.out
      have zz0 := zz 0; have zz1 := zz 1; have zz2 := zz 2; have zz3 := zz 3
      clear zz
      refine wpAnyD_one (i := 9) (by kernel_rfl) rfl (fun K' hK => ?_)
      go_simp
      have HT5 := hid (RpT.made HR_v2.out HK_v2.out HGL.out HN_v2.out HH9.out HJ9.out (.int .i64 st) (.string R) (.int .i64 mi) (.slice (some ⟨gL, 0, none⟩) nL nL))
      have hS5 : Cells4O ((((v2.setCell ⟨g9, 0, none⟩ (.int .i64 st)).setCell ⟨g9, 1, none⟩ (.string R)).setCell ⟨g9, 2, none⟩ (.int .i64 mi)).setCell ⟨g9, 3, none⟩ (.slice (some ⟨gL, 0, none⟩) nL nL)) w.heap.size (.int .i64 st) (.string R) (.int .i64 k) (.slice p n c) := ⟨by rw [keep4O (show w.heap.size ≠ g9 from by have h8 := HH9.out; omega)]; exact hS_v2.a0, by rw [keep4O (show w.heap.size ≠ g9 from by have h8 := HH9.out; omega)]; exact hS_v2.a1, by rw [keep4O (show w.heap.size ≠ g9 from by have h8 := HH9.out; omega)]; exact hS_v2.a2, by rw [keep4O (show w.heap.size ≠ g9 from by have h8 := HH9.out; omega)]; exact hS_v2.a3, fun j => (keep4Z (show w.heap.size ≠ g9 from by have h8 := HH9.out; omega)).trans (hS_v2.z j)⟩
      refine hK _ _ ⟨fun _ => hS5, ?_⟩
      clear hK K'
      generalize hW5 : ((((v2.setCell ⟨g9, 0, none⟩ (.int .i64 st)).setCell ⟨g9, 1, none⟩ (.string R)).setCell ⟨g9, 2, none⟩ (.int .i64 mi)).setCell ⟨g9, 3, none⟩ (.slice (some ⟨gL, 0, none⟩) nL nL)) = U5 at HT5 hS5 ⊢
      clear hW5 z0 z1 z2 z3 zz0 zz1 zz2 zz3 HR_v2 HK_v2 HN_v2 hS_v2
      refine late_done (by kernel_rfl) ?_ _
      refine NoPanic.normal ?_
      clear hS5
      obtain ⟨c0, c1, c2, c3, _⟩ := cells4O HT5.out.nw
      by_cases hgr : greatE F.length e0 = 0
      · as_aux_lemma =>
          have HGr := hid (show ∀ W : World, Calls Tryz.prog 46 #[.slice (some ⟨gL, 0, none⟩) nL nL, errOf e0] W fun r w' => r = .returned .nilIface ∧ Below W.heap.size W w' from fun W => by
            have h := pgreat (some ⟨gL, 0, none⟩) nL nL e0 W
            rw [← HLL.out, hgr, show errOf 0 = Value.nilIface from rfl] at h
            rw [← HLL.out]
            exact h)
          have HGz := hid hgr
          clear hgr
          go_wp2_with (first | (go_at_call 59; (with_reducible refine (HWr.out _ _ _ HT5.out.low HLL.out HT5.out.row).mono ?_); rintro e w10 ⟨v10, rfl, hb⟩; have HT10 := hid (HT5.out.next hb); clear hb HWr HT5 c0 c1 c2 c3) | (go_at_call 46; (with_reducible refine (HGr.out _).mono ?_); rintro e w11 ⟨rfl, hb⟩; have HT11 := hid (HT10.out.next hb); clear hb HGr HT10; obtain ⟨c0, c1, c2, c3, _⟩ := cells4O HT11.out.nw; obtain ⟨z0, z1, z2, z3, zz⟩ := cells4O HT11.out.rz; have zz0 := zz 0; have zz1 := zz 1; have zz2 := zz 2; have zz3 := zz 3; clear zz))
          (try simp only [Exit.inBlock, Exit.then])
          refine bodyPost_ret (results_respO rfl _ _ _ 62 _ (0, 0) rfl (fourCO HT11.out.rz _ _ _ _) rfl) rfl ?_
          refine .inr ⟨HGz.out, gL, ?_, by have h9 := HT11.out.gl; omega, blkF_only HT11.out.row (only4O (F := fun k => k = w.heap.size + 2) rfl _ _ _ _) (by have h9 := HT11.out.gl; omega), ?_⟩
          · rw [HLL.out]
            rfl
          · iterate 4 refine Below.setCell ?_ (show w.heap.size ≤ w.heap.size + 2 by omega) _
            exact HT11.out.low
      · as_aux_lemma =>
          have HGr := hid (show ∀ W : World, Calls Tryz.prog 46 #[.slice (some ⟨gL, 0, none⟩) nL nL, errOf e0] W fun r w' => r = .returned (.iface 72 (.int .i64 (greatE F.length e0 : Int))) ∧ Below W.heap.size W w' from fun W => by
            have h := pgreat (some ⟨gL, 0, none⟩) nL nL e0 W
            rw [← HLL.out, errOf_pos hgr] at h
            rw [← HLL.out]
            exact h)
          have HGz := hid hgr
          obtain ⟨ge, hge⟩ : ∃ ge : Int, (greatE F.length e0 : Int) = ge := ⟨_, rfl⟩
          rw [hge] at HGr
          have HGE := hid hge
          clear hgr hge
          go_wp2_with (first | (go_at_call 59; (with_reducible refine (HWr.out _ _ _ HT5.out.low HLL.out HT5.out.row).mono ?_); rintro e w10 ⟨v10, rfl, hb⟩; have HT10 := hid (HT5.out.next hb); clear hb HWr HT5 c0 c1 c2 c3) | (go_at_call 46; (with_reducible refine (HGr.out _).mono ?_); rintro e w11 ⟨rfl, hb⟩; have HT11 := hid (HT10.out.next hb); clear hb HGr HT10; obtain ⟨z0, z1, z2, z3, zz⟩ := cells4O HT11.out.rz; have zz0 := zz 0; have zz1 := zz 1; have zz2 := zz 2; have zz3 := zz 3; clear zz))
          (try simp only [Exit.inBlock, Exit.then])
          refine bodyPost_ret (results_respO rfl _ _ _ 62 _ (0, 0) rfl (fourCO HT11.out.rz _ _ _ _) rfl) rfl ?_
          refine .inl ⟨HGz.out, (by rw [HGE.out]; rfl), ?_⟩
          iterate 4 refine Below.setCell ?_ (show w.heap.size ≤ w.heap.size + 2 by omega) _
          exact HT11.out.low
  · as_aux_lemma =>
      go_simp
      have HN_v1 := hid (heap_alloc_new v0 (.cells #[.int .i64 0, .string ⟨#[]⟩, .int .i64 0, .slice none 0 0] 62 (0, 0)))
      have HH9 := hid (show w.heap.size + 2 < v0.heap.size from lt_of_heap HR_v0.out.rz)
      have HJ9 := hid (show gL ≠ v0.heap.size from fun e => Nat.lt_irrefl _ (by have h9 := lt_of_heap HK_v0.out; rw [e] at h9; exact h9))
      have HR_v1 := hid (HR_v0.out.next (below_new v0 (.cells #[.int .i64 0, .string ⟨#[]⟩, .int .i64 0, .slice none 0 0] 62 (0, 0))))
      have HK_v1 := hid (HK_v0.out.next (below_new v0 (.cells #[.int .i64 0, .string ⟨#[]⟩, .int .i64 0, .slice none 0 0] 62 (0, 0))))
      have hS_v1 : Cells4O (v0.alloc (.cells #[.int .i64 0, .string ⟨#[]⟩, .int .i64 0, .slice none 0 0] 62 (0, 0))) w.heap.size (.int .i64 st) (.string R) (.int .i64 k) (.slice p n c) := cells4O HR_v1.out.bx
      refine hK _ _ ⟨fun _ => hS_v1, ?_⟩
      clear hK K'
      generalize hB_ : v0.alloc (.cells #[.int .i64 0, .string ⟨#[]⟩, .int .i64 0, .slice none 0 0] 62 (0, 0)) = v1 at HN_v1 HR_v1 HK_v1 hS_v1 ⊢
      generalize hg9_ : v0.heap.size = g9 at HN_v1 HH9 HJ9 ⊢
      clear hB_ hg9_ HR_v0 HK_v0 hS_v0
      refine wpAnyD_one (i := 4) (by kernel_rfl) rfl (fun K' hK => ?_)
      go_simp
      go_at_call 44
      refine (HC1.out _).mono ?_
      rintro e v2 ⟨rfl, hb⟩
      have HR_v2 := hid (HR_v1.out.next hb)
      have HK_v2 := hid (HK_v1.out.next hb)
      have HN_v2 := hid ((hb.block _ (lt_of_heap HN_v1.out)).trans HN_v1.out)
      have hS_v2 : Cells4O v2 w.heap.size (.int .i64 st) (.string R) (.int .i64 k) (.slice p n c) := cells4O HR_v2.out.bx
      refine hK _ _ ⟨fun _ => hS_v2, ?_⟩
      clear hK K' HR_v1 HK_v1 hS_v1 HN_v1
      clear hb
      refine late_take (i := 7) (some 60) rfl rfl (by kernel_rfl) (by kernel_rfl) (by kernel_rfl) (by kernel_rfl) (by kernel_rfl) (fun _ _ _ h => h) (by rfl) (v := ?v7r5bpresp_b) ?hy7r5bpresp_b hS_v2 ?rest7r5bpresp_b
      case hy7r5bpresp_b => intro w0 hSw; obtain ⟨a0, a1, a2, a3, _⟩ := hSw; go_simp; try with_reducible rfl
      simp only [Act.put, List.setIfInBounds_toArray, List.set_cons_zero, List.set_cons_succ]
      obtain ⟨z0, z1, z2, z3, zz⟩ := cells4O HN_v2.out
      have zz0 := zz 0; have zz1 := zz 1; have zz2 := zz 2; have zz3 := zz 3
      clear zz
      refine wpAnyD_one (i := 9) (by kernel_rfl) rfl (fun K' hK => ?_)
      go_simp
      have HT5 := hid (RpT.made HR_v2.out HK_v2.out HGL.out HN_v2.out HH9.out HJ9.out (.int .i64 st) (.string R) (.int .i64 mi) (.slice (some ⟨gL, 0, none⟩) nL nL))
      have hS5 : Cells4O ((((v2.setCell ⟨g9, 0, none⟩ (.int .i64 st)).setCell ⟨g9, 1, none⟩ (.string R)).setCell ⟨g9, 2, none⟩ (.int .i64 mi)).setCell ⟨g9, 3, none⟩ (.slice (some ⟨gL, 0, none⟩) nL nL)) w.heap.size (.int .i64 st) (.string R) (.int .i64 k) (.slice p n c) := ⟨by rw [keep4O (show w.heap.size ≠ g9 from by have h8 := HH9.out; omega)]; exact hS_v2.a0, by rw [keep4O (show w.heap.size ≠ g9 from by have h8 := HH9.out; omega)]; exact hS_v2.a1, by rw [keep4O (show w.heap.size ≠ g9 from by have h8 := HH9.out; omega)]; exact hS_v2.a2, by rw [keep4O (show w.heap.size ≠ g9 from by have h8 := HH9.out; omega)]; exact hS_v2.a3, fun j => (keep4Z (show w.heap.size ≠ g9 from by have h8 := HH9.out; omega)).trans (hS_v2.z j)⟩
      refine hK _ _ ⟨fun _ => hS5, ?_⟩
      clear hK K'
      generalize hW5 : ((((v2.setCell ⟨g9, 0, none⟩ (.int .i64 st)).setCell ⟨g9, 1, none⟩ (.string R)).setCell ⟨g9, 2, none⟩ (.int .i64 mi)).setCell ⟨g9, 3, none⟩ (.slice (some ⟨gL, 0, none⟩) nL nL)) = U5 at HT5 hS5 ⊢
      clear hW5 z0 z1 z2 z3 zz0 zz1 zz2 zz3 HR_v2 HK_v2 HN_v2 hS_v2
      refine late_done (by kernel_rfl) ?_ _
      refine NoPanic.normal ?_
      clear hS5
      obtain ⟨c0, c1, c2, c3, _⟩ := cells4O HT5.out.nw
      by_cases hgr : greatE F.length e0 = 0
      · as_aux_lemma =>
          have HGr := hid (show ∀ W : World, Calls Tryz.prog 46 #[.slice (some ⟨gL, 0, none⟩) nL nL, errOf e0] W fun r w' => r = .returned .nilIface ∧ Below W.heap.size W w' from fun W => by
            have h := pgreat (some ⟨gL, 0, none⟩) nL nL e0 W
            rw [← HLL.out, hgr, show errOf 0 = Value.nilIface from rfl] at h
            rw [← HLL.out]
            exact h)
          have HGz := hid hgr
          clear hgr
          go_wp2_with (first | (go_at_call 59; (with_reducible refine (HWr.out _ _ _ HT5.out.low HLL.out HT5.out.row).mono ?_); rintro e w10 ⟨v10, rfl, hb⟩; have HT10 := hid (HT5.out.next hb); clear hb HWr HT5 c0 c1 c2 c3) | (go_at_call 46; (with_reducible refine (HGr.out _).mono ?_); rintro e w11 ⟨rfl, hb⟩; have HT11 := hid (HT10.out.next hb); clear hb HGr HT10; obtain ⟨c0, c1, c2, c3, _⟩ := cells4O HT11.out.nw; obtain ⟨z0, z1, z2, z3, zz⟩ := cells4O HT11.out.rz; have zz0 := zz 0; have zz1 := zz 1; have zz2 := zz 2; have zz3 := zz 3; clear zz))
          (try simp only [Exit.inBlock, Exit.then])
          refine bodyPost_ret (results_respO rfl _ _ _ 62 _ (0, 0) rfl (fourCO HT11.out.rz _ _ _ _) rfl) rfl ?_
          refine .inr ⟨HGz.out, gL, ?_, by have h9 := HT11.out.gl; omega, blkF_only HT11.out.row (only4O (F := fun k => k = w.heap.size + 2) rfl _ _ _ _) (by have h9 := HT11.out.gl; omega), ?_⟩
          · rw [HLL.out]
            rfl
          · iterate 4 refine Below.setCell ?_ (show w.heap.size ≤ w.heap.size + 2 by omega) _
            exact HT11.out.low
      · as_aux_lemma =>
          have HGr := hid (show ∀ W : World, Calls Tryz.prog 46 #[.slice (some ⟨gL, 0, none⟩) nL nL, errOf e0] W fun r w' => r = .returned (.iface 72 (.int .i64 (greatE F.length e0 : Int))) ∧ Below W.heap.size W w' from fun W => by
            have h := pgreat (some ⟨gL, 0, none⟩) nL nL e0 W
            rw [← HLL.out, errOf_pos hgr] at h
            rw [← HLL.out]
            exact h)
          have HGz := hid hgr
          obtain ⟨ge, hge⟩ : ∃ ge : Int, (greatE F.length e0 : Int) = ge := ⟨_, rfl⟩
          rw [hge] at HGr
          have HGE := hid hge
          clear hgr hge
          go_wp2_with (first | (go_at_call 59; (with_reducible refine (HWr.out _ _ _ HT5.out.low HLL.out HT5.out.row).mono ?_); rintro e w10 ⟨v10, rfl, hb⟩; have HT10 := hid (HT5.out.next hb); clear hb HWr HT5 c0 c1 c2 c3) | (go_at_call 46; (with_reducible refine (HGr.out _).mono ?_); rintro e w11 ⟨rfl, hb⟩; have HT11 := hid (HT10.out.next hb); clear hb HGr HT10; obtain ⟨z0, z1, z2, z3, zz⟩ := cells4O HT11.out.rz; have zz0 := zz 0; have zz1 := zz 1; have zz2 := zz 2; have zz3 := zz 3; clear zz))
          (try simp only [Exit.inBlock, Exit.then])
          refine bodyPost_ret (results_respO rfl _ _ _ 62 _ (0, 0) rfl (fourCO HT11.out.rz _ _ _ _) rfl) rfl ?_
          refine .inl ⟨HGz.out, (by rw [HGE.out]; rfl), ?_⟩
          iterate 4 refine Below.setCell ?_ (show w.heap.size ≤ w.heap.size + 2 by omega) _
          exact HT11.out.low
set_option maxRecDepth 20000 in
set_option maxHeartbeats 32000000 in
theorem presp_dl (st : Int) (r : B) (k : Int) (fs : List (B × B)) (p : Option Addr) (n c : Nat) (hn : fs.length = n) (K L mi : Int) (w : World) (hF : FAt w p fs) (hsz : szN fs) (hnn : n ≤ 1000) (hr : r.length ≤ 1048576) (hL0 : -9223372036854775808 ≤ L) (hL1 : L ≤ 9223372036854775807) (hE : EnvP w) (hmx : ∃ m : Int, w.cell? ⟨2, 0, none⟩ = some (.int .i64 m)) (hB : bareS st = false) (hK : ¬ K = 0) :
    Calls Tryz.prog 25 #[.agg #[.int .i64 st, .string (str r), .int .i64 k, .slice p n c], .agg #[.int .i64 K, .int .i64 L], .int .i64 mi, .bool true] w fun e w' => PAns st r mi (onP st K L true fs k) w e w' := by
  have hFz : szC 1048576 (onP st K L true fs k) := onP_sz hsz hL0 hL1
  have h1z : szC 1048576 (onP1 fs k) := onP1_sz hsz
  have h1w := szC_W h1z (by decide)
  have h2w := szC_W (onP2_sz (st := st) (K := K) (k := k) hsz hL0 hL1) (by decide)
  have h0w : szW (stripF fs) := fun f hf => szC_W (C := 1048576) hsz (by decide) f (List.mem_filter.1 hf).1
  have h0n : szN (stripF fs) := fun f hf => hsz f (List.mem_filter.1 hf).1
  have hfw : szW (framF (stripF fs) 0 0) := fun f hf => by
    rcases framF_mem hf with h | h
    · exact h0w f h
    · exact szC_W (frmA_sz (K := 0) (L := 0) (by decide) (by decide)) (by decide) f h
  have HSt := hid (show ∀ W : World, Below w.heap.size w W → _ from fun W hb => pstrip fs p n c hn W (hF.next hb) hsz hnn (hmx.elim fun m h => ⟨m, cell_keep hb h⟩))
  have hl0 := stripF_le fs
  have hlf := framF_len (stripF fs) 0 0
  have hl1 := onP1_len fs k
  have hl2 := onP2_len st K L fs k
  have hlP := onP_len st K L true fs k
  have HFr := hid (show ∀ (W : World) (q : Option Addr) (d : Nat), Below w.heap.size w W → FAt W q (stripF fs) → _ from fun W q d hb h => pframing (stripF fs) 0 0 q (stripF fs).length d rfl W h h0w (by omega) (by decide) (by decide) (hE.next hb))
  have HVi := hid (show ∀ (W : World) (g s : Nat), Below w.heap.size w W → (framF (stripF fs) 0 0).length = s → BlkF W g (framF (stripF fs) 0 0) → _ from fun W g s hb hs h => pvia (framF (stripF fs) 0 0) k (some ⟨g, 0, none⟩) s s hs (Nat.le_refl _) (fun e => by cases e) (fun ad e => by cases e; rfl) W h.fat hfw (by omega) (hE.next hb))
  rw [show viaF (framF (stripF fs) 0 0) k = onP1 fs k from rfl] at HVi
  have HBa := hid (show ∀ W : World, _ from fun W => pbare st W)
  rw [hB] at HBa
  have HFd := hid (show ∀ (W : World) (g s : Nat), Below w.heap.size w W → (onP1 fs k).length = s → BlkF W g (onP1 fs k) → _ from fun W g s hb hs h => pframing (onP1 fs k) K L (some ⟨g, 0, none⟩) s s hs W h.fat h1w (by omega) hL0 hL1 (hE.next hb))
  have hKb : (K == 0) = false := by simpa using hK
  have HAc0 := hid (show ∀ (W : World) (g s : Nat), (framF (onP1 fs k) K L).length = s → BlkF W g (framF (onP1 fs k) K L) → _ from fun W g s hs h => padd_some (framF (onP1 fs k) K L) g 0 s s hs (Nat.le_refl _) connB cloB W h.fat (by have h9 := h2w; rw [onP2_d hB hK] at h9; exact h9) (by decide) (by decide) (by have h9 := hl2; rw [onP2_d hB hK] at h9; omega))
  have HAc := hid (show ∀ (W : World) (g s : Nat), (framF (onP1 fs k) K L).length = s → BlkF W g (framF (onP1 fs k) K L) → Calls Tryz.prog 42 #[.slice (some ⟨g, 0, none⟩) s s, .string (⟨#[67, 111, 110, 110, 101, 99, 116, 105, 111, 110]⟩ : ByteArray), .string (⟨#[99, 108, 111, 115, 101]⟩ : ByteArray)] W _ from HAc0.out)
  obtain ⟨F, hFF⟩ : ∃ F, onP st K L true fs k = F := ⟨_, rfl⟩
  rw [hFF] at hFz hlP
  rw [hFF]
  have HWr := hid (show ∀ (W : World) (g s : Nat), Below w.heap.size w W → F.length = s → BlkF W g F → _ from fun W g s hb hs h => wresp_e st r mi F (some ⟨g, 0, none⟩) s s hs W (hE.next hb) h.fat hFz (by omega) hr)
  have HC1 := hid (show ∀ W : World, _ from fun W => clone_any (str r) W (by rw [str_size]; omega))
  have HFe := hid (show framF (onP1 fs k) K L ++ [(connB, cloB)] = F from by rw [← hFF]; unfold onP; rw [if_pos rfl, onP2_d hB hK])
  unfold PAns
  obtain ⟨e0, he0⟩ : ∃ e0, respE st r mi F = e0 := ⟨_, rfl⟩
  rw [he0] at HWr
  rw [he0]
  obtain ⟨R, hR⟩ : ∃ R, str r = R := ⟨_, rfl⟩
  rw [hR] at HWr HC1
  rw [hR]
  obtain ⟨X0, hX0⟩ : ∃ X, stripF fs = X := ⟨_, rfl⟩
  rw [hX0] at HSt HFr HVi
  obtain ⟨XF, hXF⟩ : ∃ X, framF X0 0 0 = X := ⟨_, rfl⟩
  rw [hXF] at HFr HVi
  obtain ⟨X1, hX1⟩ : ∃ X, onP1 fs k = X := ⟨_, rfl⟩
  rw [hX1] at HVi HFd HFe HAc
  have HR0 := hid (RpO.start w #[.int .i64 st, .string R, .int .i64 k, .slice p n c] #[.int .i64 K, .int .i64 L])
  clear hF hsz hn hmx hFz h1z h1w h2w h0w h0n hfw hl0 hlf hl1 hl2 hlP hFF he0 hR hX0 hXF hX1 hB hE hr  HAc0
  go_enter Tryz.func25, Tryz.ntmps25
  obtain ⟨y0, y1, y2, y3, _⟩ := cells4O HR0.out.bx
  go_wp2_with (go_at_call 36; (with_reducible refine (HSt.out _ HR0.out.low).mono ?_); rintro e w1 ⟨v1, rfl, ho, hb⟩; obtain ⟨q1, d1, rfl⟩ := own_slice ho; have HR1 := hid (HR0.out.next hb); have HF1 := hid (OwnF.fat ho); clear hb ho HSt HR0 y0 y1 y2 y3)
  have HR4 := hid (show RpO w w1.drew #[.int .i64 st, .string R, .int .i64 k, .slice p n c] #[.int .i64 K, .int .i64 L] from HR1.out.next ⟨rfl, rfl, rfl, Nat.le_refl _, fun _ _ => rfl⟩)
  have HF4 := hid (show FAt w1.drew q1 X0 from HF1.out.next ⟨rfl, rfl, rfl, Nat.le_refl _, fun _ _ => rfl⟩)
  generalize hW4 : w1.drew = w4 at HR4 HF4
  refine wp_region_noPanic ?_
  refine any_begin 7 (by kernel_rfl) (by kernel_rfl) ?_
  rw [hW4]
  clear hW4 HR1 HF1
  refine late_begin (fun U => Cells4O U w.heap.size (.int .i64 st) (.string R) (.int .i64 k) (.slice p n c)) (fun _ => false) (show Cells4O w4 w.heap.size (.int .i64 st) (.string R) (.int .i64 k) (.slice p n c) from cells4O HR4.out.bx) (fun hS => ?_)
  refine late_take (i := 0) (some 21) rfl rfl (by kernel_rfl) (by kernel_rfl) (by kernel_rfl) (by kernel_rfl) (by kernel_rfl) (fun _ _ _ h => h) (by rfl) (v := ?v0r2presp_dl) ?hy0r2presp_dl hS ?rest0r2presp_dl
  case hy0r2presp_dl => intro w0 hSw; obtain ⟨a0, a1, a2, a3, _⟩ := hSw; go_simp; try with_reducible rfl
  simp only [Act.put, List.setIfInBounds_toArray, List.set_cons_zero, List.set_cons_succ]
  refine late_take (i := 1) (some 22) rfl rfl (by kernel_rfl) (by kernel_rfl) (by kernel_rfl) (by kernel_rfl) (by kernel_rfl) (fun _ _ _ h => h) (by rfl) (v := ?v1r2presp_dl) ?hy1r2presp_dl hS ?rest1r2presp_dl
  case hy1r2presp_dl => intro w0 hSw; obtain ⟨a0, a1, a2, a3, _⟩ := hSw; go_simp; try with_reducible rfl
  simp only [Act.put, List.setIfInBounds_toArray, List.set_cons_zero, List.set_cons_succ]
  refine late_take (i := 3) (some 24) rfl rfl (by kernel_rfl) (by kernel_rfl) (by kernel_rfl) (by kernel_rfl) (by kernel_rfl) (fun _ _ _ h => h) (by rfl) (v := ?v3r2presp_dl) ?hy3r2presp_dl hS ?rest3r2presp_dl
  case hy3r2presp_dl => intro w0 hSw; obtain ⟨a0, a1, a2, a3, _⟩ := hSw; go_simp; try with_reducible rfl
  simp only [Act.put, List.setIfInBounds_toArray, List.set_cons_zero, List.set_cons_succ]
  refine late_take (i := 4) (some 25) rfl rfl (by kernel_rfl) (by kernel_rfl) (by kernel_rfl) (by kernel_rfl) (by kernel_rfl) (fun _ _ _ h => h) (by rfl) (v := ?v4r2presp_dl) ?hy4r2presp_dl hS ?rest4r2presp_dl
  case hy4r2presp_dl => intro w0 hSw; obtain ⟨a0, a1, a2, a3, _⟩ := hSw; go_simp; try with_reducible rfl
  simp only [Act.put, List.setIfInBounds_toArray, List.set_cons_zero, List.set_cons_succ]
  refine wpAnyD_one (i := 2) (by kernel_rfl) rfl (fun K' hK => ?_)
  go_simp
  go_at_call 37
  refine (HFr.out _ _ _ HR4.out.low HF4.out).mono ?_
  rintro e w5 ⟨g5, m5, rfl, hl, hg, hbk, hb⟩
  have HR5 := hid (HR4.out.next hb)
  have HF5 := hid (HF4.out.next hb)
  have HK5 := hid hbk
  have HL5 := hid hl
  have hS5 : Cells4O w5 w.heap.size (.int .i64 st) (.string R) (.int .i64 k) (.slice p n c) := cells4O HR5.out.bx
  refine hK _ _ ⟨fun _ => hS5, ?_⟩
  clear hK K' hb hl hg hbk HFr HR4 HF4 hS
  refine wpAnyD_one (i := 5) (by kernel_rfl) rfl (fun K' hK => ?_)
  go_simp
  go_at_call 39
  refine (HVi.out _ _ _ HR5.out.low HL5.out HK5.out).mono ?_
  rintro e w6 ⟨g6, m6, rfl, hl, hg, hbk, hb⟩
  have HR6 := hid (HR5.out.next hb)
  have HF6 := hid (HF5.out.next hb)
  have HK6 := hid hbk
  have HL6 := hid hl
  have HG6 := hid (show w.heap.size + 2 < g6 from Nat.lt_of_lt_of_le (lt_of_heap HR5.out.rz) hg)
  have hS6 : Cells4O w6 w.heap.size (.int .i64 st) (.string R) (.int .i64 k) (.slice p n c) := cells4O HR6.out.bx
  refine hK _ _ ⟨fun _ => hS6, ?_⟩
  clear hK K' hb hl hg hbk HVi HR5 HK5 HL5 HF5 hS5
  refine late_take (i := 6) (some 11) rfl rfl (by kernel_rfl) (by kernel_rfl) (by kernel_rfl) (by kernel_rfl) (by kernel_rfl) (fun _ _ _ h => h) (by rfl) (v := ?v6r2presp_dl) ?hy6r2presp_dl hS6 ?rest6r2presp_dl
  case hy6r2presp_dl => intro w0 hSw; obtain ⟨a0, a1, a2, a3, _⟩ := hSw; go_simp; try with_reducible rfl
  simp only [Act.put, List.setIfInBounds_toArray, List.set_cons_zero, List.set_cons_succ]
  refine late_done (by kernel_rfl) ?_ _
  refine NoPanic.normal ?_
  clear hS6
  obtain ⟨y0, y1, y2, y3, _⟩ := cells4O HR6.out.bx
  obtain ⟨fb0, fb1⟩ := box2W HR6.out.fb
  go_wp2_with (first | (go_at_call 57; (with_reducible refine (HBa.out _).mono ?_); rintro e w7 ⟨rfl, hw7⟩; subst w7; clear HBa) | (go_at_call 37; (with_reducible refine (HFd.out _ _ _ HR6.out.low HL6.out HK6.out).mono ?_); rintro e w9 ⟨g9a, m9a, rfl, hl, hg, hbk, hb⟩; have HR9 := hid (HR6.out.next hb); have HK9 := hid hbk; have HL9 := hid hl; have HG9 := hid (show w.heap.size + 2 < g9a from Nat.lt_of_lt_of_le (lt_of_heap HR6.out.rz) hg); clear hb hl hg hbk HFd HR6 HK6 y0 y1 y2 y3 fb0 fb1; obtain ⟨y0, y1, y2, y3, _⟩ := cells4O HR9.out.bx) | (go_at_call 42; (with_reducible refine (HAc.out _ _ _ HL9.out HK9.out).mono ?_); rintro e wc ⟨gc, mc, rfl, hl, hg, hbk, hb⟩; have HRc := hid (HR9.out.next hb); have HKc := hid hbk; have HLc := hid hl; have HGc := hid (show w.heap.size + 2 < gc from Nat.lt_of_lt_of_le (lt_of_heap HR9.out.rz) hg); clear hb hl hg hbk HAc y0 y1 y2 y3; obtain ⟨y0, y1, y2, y3, _⟩ := cells4O HRc.out.bx))
  rw [HFe.out] at HKc HLc
  have HR_v0 := hid (show RpO w wc.drew #[.int .i64 st, .string R, .int .i64 k, .slice p n c] #[.int .i64 K, .int .i64 L] from HRc.out.next ⟨rfl, rfl, rfl, Nat.le_refl _, fun _ _ => rfl⟩)
  have HK_v0 := hid (show BlkF wc.drew gc F from HKc.out)
  have HLL := hid (show F.length = mc from HLc.out)
  have HGL := hid (show w.heap.size + 2 < gc from HGc.out)
  generalize hW0 : wc.drew = v0 at HR_v0 HK_v0
  obtain ⟨gL, hgL⟩ : ∃ gL, gc = gL := ⟨_, rfl⟩
  obtain ⟨nL, hnL⟩ : ∃ nL, mc = nL := ⟨_, rfl⟩
  rw [hgL] at HK_v0 HGL ⊢
  rw [hnL] at HLL ⊢
  refine wp_region_noPanic ?_
  refine any_begin 10 (by kernel_rfl) (by kernel_rfl) ?_
  rw [hW0]
  clear hW0 HRc HKc HLc HGc hgL hnL y0 y1 y2 y3
  refine late_begin (fun U => Cells4O U w.heap.size (.int .i64 st) (.string R) (.int .i64 k) (.slice p n c)) (fun _ => false) (show Cells4O v0 w.heap.size (.int .i64 st) (.string R) (.int .i64 k) (.slice p n c) from cells4O HR_v0.out.bx) (fun hS_v0 => ?_)
  refine late_take (i := 0) (some 53) rfl rfl (by kernel_rfl) (by kernel_rfl) (by kernel_rfl) (by kernel_rfl) (by kernel_rfl) (fun _ _ _ h => h) (by rfl) (v := ?v0r5presp_dl) ?hy0r5presp_dl hS_v0 ?rest0r5presp_dl
  case hy0r5presp_dl => intro w0 hSw; obtain ⟨a0, a1, a2, a3, _⟩ := hSw; go_simp; try with_reducible rfl
  simp only [Act.put, List.setIfInBounds_toArray, List.set_cons_zero, List.set_cons_succ]
  refine late_take (i := 1) (some 54) rfl rfl (by kernel_rfl) (by kernel_rfl) (by kernel_rfl) (by kernel_rfl) (by kernel_rfl) (fun _ _ _ h => h) (by rfl) (v := ?v1r5presp_dl) ?hy1r5presp_dl hS_v0 ?rest1r5presp_dl
  case hy1r5presp_dl => intro w0 hSw; obtain ⟨a0, a1, a2, a3, _⟩ := hSw; go_simp; try with_reducible rfl
  simp only [Act.put, List.setIfInBounds_toArray, List.set_cons_zero, List.set_cons_succ]
  refine late_take (i := 2) (some 55) rfl rfl (by kernel_rfl) (by kernel_rfl) (by kernel_rfl) (by kernel_rfl) (by kernel_rfl) (fun _ _ _ h => h) (by rfl) (v := ?v2r5presp_dl) ?hy2r5presp_dl hS_v0 ?rest2r5presp_dl
  case hy2r5presp_dl => intro w0 hSw; obtain ⟨a0, a1, a2, a3, _⟩ := hSw; go_simp; try with_reducible rfl
  simp only [Act.put, List.setIfInBounds_toArray, List.set_cons_zero, List.set_cons_succ]
  refine late_take (i := 3) (some 56) rfl rfl (by kernel_rfl) (by kernel_rfl) (by kernel_rfl) (by kernel_rfl) (by kernel_rfl) (fun _ _ _ h => h) (by rfl) (v := ?v3r5presp_dl) ?hy3r5presp_dl hS_v0 ?rest3r5presp_dl
  case hy3r5presp_dl => intro w0 hSw; obtain ⟨a0, a1, a2, a3, _⟩ := hSw; go_simp; try with_reducible rfl
  simp only [Act.put, List.setIfInBounds_toArray, List.set_cons_zero, List.set_cons_succ]
  refine late_take (i := 5) (some 58) rfl rfl (by kernel_rfl) (by kernel_rfl) (by kernel_rfl) (by kernel_rfl) (by kernel_rfl) (fun _ _ _ h => h) (by rfl) (v := ?v5r5presp_dl) ?hy5r5presp_dl hS_v0 ?rest5r5presp_dl
  case hy5r5presp_dl => intro w0 hSw; obtain ⟨a0, a1, a2, a3, _⟩ := hSw; go_simp; try with_reducible rfl
  simp only [Act.put, List.setIfInBounds_toArray, List.set_cons_zero, List.set_cons_succ]
  refine late_take (i := 6) (some 59) rfl rfl (by kernel_rfl) (by kernel_rfl) (by kernel_rfl) (by kernel_rfl) (by kernel_rfl) (fun _ _ _ h => h) (by rfl) (v := ?v6r5presp_dl) ?hy6r5presp_dl hS_v0 ?rest6r5presp_dl
  case hy6r5presp_dl => intro w0 hSw; obtain ⟨a0, a1, a2, a3, _⟩ := hSw; go_simp; try with_reducible rfl
  simp only [Act.put, List.setIfInBounds_toArray, List.set_cons_zero, List.set_cons_succ]
  refine wpAnyD_twoD (i := 4) (j := 8) (by kernel_rfl) rfl rfl (fun K' hK => ?_) (fun K' hK => ?_)
  · as_aux_lemma =>
      go_simp
      go_at_call 44
      refine (HC1.out _).mono ?_
      rintro e v1 ⟨rfl, hb⟩
      have HR_v1 := hid (HR_v0.out.next hb)
      have HK_v1 := hid (HK_v0.out.next hb)
      have hS_v1 : Cells4O v1 w.heap.size (.int .i64 st) (.string R) (.int .i64 k) (.slice p n c) := cells4O HR_v1.out.bx
      refine hK _ _ ⟨fun _ => hS_v1, ?_⟩
      clear hK K' HR_v0 HK_v0 hS_v0
      clear hb
      refine late_take (i := 7) (some 60) rfl rfl (by kernel_rfl) (by kernel_rfl) (by kernel_rfl) (by kernel_rfl) (by kernel_rfl) (fun _ _ _ h => h) (by rfl) (v := ?v7r5apresp_dl) ?hy7r5apresp_dl hS_v1 ?rest7r5apresp_dl
      case hy7r5apresp_dl => intro w0 hSw; obtain ⟨a0, a1, a2, a3, _⟩ := hSw; go_simp; try with_reducible rfl
      simp only [Act.put, List.setIfInBounds_toArray, List.set_cons_zero, List.set_cons_succ]
      refine wpAnyD_one (i := 8) (by kernel_rfl) rfl (fun K' hK => ?_)
      go_simp
      have HN_v2 := hid (heap_alloc_new v1 (.cells #[.int .i64 0, .string ⟨#[]⟩, .int .i64 0, .slice none 0 0] 62 (0, 0)))
      have HH9 := hid (show w.heap.size + 2 < v1.heap.size from lt_of_heap HR_v1.out.rz)
      have HJ9 := hid (show gL ≠ v1.heap.size from fun e => Nat.lt_irrefl _ (by have h9 := lt_of_heap HK_v1.out; rw [e] at h9; exact h9))
      have HR_v2 := hid (HR_v1.out.next (below_new v1 (.cells #[.int .i64 0, .string ⟨#[]⟩, .int .i64 0, .slice none 0 0] 62 (0, 0))))
      have HK_v2 := hid (HK_v1.out.next (below_new v1 (.cells #[.int .i64 0, .string ⟨#[]⟩, .int .i64 0, .slice none 0 0] 62 (0, 0))))
      have hS_v2 : Cells4O (v1.alloc (.cells #[.int .i64 0, .string ⟨#[]⟩, .int .i64 0, .slice none 0 0] 62 (0, 0))) w.heap.size (.int .i64 st) (.string R) (.int .i64 k) (.slice p n c) := cells4O HR_v2.out.bx
      refine hK _ _ ⟨fun _ => hS_v2, ?_⟩
      clear hK K'
      generalize hB_ : v1.alloc (.cells #[.int .i64 0, .string ⟨#[]⟩, .int .i64 0, .slice none 0 0] 62 (0, 0)) = v2 at HN_v2 HR_v2 HK_v2 hS_v2 ⊢
      generalize hg9_ : v1.heap.size = g9 at HN_v2 HH9 HJ9 ⊢
      clear hB_ hg9_ HR_v1 HK_v1 hS_v1
      obtain ⟨z0, z1, z2, z3, zz⟩ := cells4O HN_v2.out
      have zz0 := zz 0; have zz1 := zz 1; have zz2 := zz 2; have zz3 := zz 3
      clear zz
      refine wpAnyD_one (i := 9) (by kernel_rfl) rfl (fun K' hK => ?_)
      go_simp
      have HT5 := hid (RpT.made HR_v2.out HK_v2.out HGL.out HN_v2.out HH9.out HJ9.out (.int .i64 st) (.string R) (.int .i64 mi) (.slice (some ⟨gL, 0, none⟩) nL nL))
      have hS5 : Cells4O ((((v2.setCell ⟨g9, 0, none⟩ (.int .i64 st)).setCell ⟨g9, 1, none⟩ (.string R)).setCell ⟨g9, 2, none⟩ (.int .i64 mi)).setCell ⟨g9, 3, none⟩ (.slice (some ⟨gL, 0, none⟩) nL nL)) w.heap.size (.int .i64 st) (.string R) (.int .i64 k) (.slice p n c) := ⟨by rw [keep4O (show w.heap.size ≠ g9 from by have h8 := HH9.out; omega)]; exact hS_v2.a0, by rw [keep4O (show w.heap.size ≠ g9 from by have h8 := HH9.out; omega)]; exact hS_v2.a1, by rw [keep4O (show w.heap.size ≠ g9 from by have h8 := HH9.out; omega)]; exact hS_v2.a2, by rw [keep4O (show w.heap.size ≠ g9 from by have h8 := HH9.out; omega)]; exact hS_v2.a3, fun j => (keep4Z (show w.heap.size ≠ g9 from by have h8 := HH9.out; omega)).trans (hS_v2.z j)⟩
      refine hK _ _ ⟨fun _ => hS5, ?_⟩
      clear hK K'
      generalize hW5 : ((((v2.setCell ⟨g9, 0, none⟩ (.int .i64 st)).setCell ⟨g9, 1, none⟩ (.string R)).setCell ⟨g9, 2, none⟩ (.int .i64 mi)).setCell ⟨g9, 3, none⟩ (.slice (some ⟨gL, 0, none⟩) nL nL)) = U5 at HT5 hS5 ⊢
      clear hW5 z0 z1 z2 z3 zz0 zz1 zz2 zz3 HR_v2 HK_v2 HN_v2 hS_v2
      refine late_done (by kernel_rfl) ?_ _
      refine NoPanic.normal ?_
      clear hS5
      obtain ⟨c0, c1, c2, c3, _⟩ := cells4O HT5.out.nw
      by_cases hgr : greatE F.length e0 = 0
      · as_aux_lemma =>
          have HGr := hid (show ∀ W : World, Calls Tryz.prog 46 #[.slice (some ⟨gL, 0, none⟩) nL nL, errOf e0] W fun r w' => r = .returned .nilIface ∧ Below W.heap.size W w' from fun W => by
            have h := pgreat (some ⟨gL, 0, none⟩) nL nL e0 W
            rw [← HLL.out, hgr, show errOf 0 = Value.nilIface from rfl] at h
            rw [← HLL.out]
            exact h)
          have HGz := hid hgr
          clear hgr
          go_wp2_with (first | (go_at_call 59; (with_reducible refine (HWr.out _ _ _ HT5.out.low HLL.out HT5.out.row).mono ?_); rintro e w10 ⟨v10, rfl, hb⟩; have HT10 := hid (HT5.out.next hb); clear hb HWr HT5 c0 c1 c2 c3) | (go_at_call 46; (with_reducible refine (HGr.out _).mono ?_); rintro e w11 ⟨rfl, hb⟩; have HT11 := hid (HT10.out.next hb); clear hb HGr HT10; obtain ⟨c0, c1, c2, c3, _⟩ := cells4O HT11.out.nw; obtain ⟨z0, z1, z2, z3, zz⟩ := cells4O HT11.out.rz; have zz0 := zz 0; have zz1 := zz 1; have zz2 := zz 2; have zz3 := zz 3; clear zz))
          (try simp only [Exit.inBlock, Exit.then])
          refine bodyPost_ret (results_respO rfl _ _ _ 62 _ (0, 0) rfl (fourCO HT11.out.rz _ _ _ _) rfl) rfl ?_
          refine .inr ⟨HGz.out, gL, ?_, by have h9 := HT11.out.gl; omega, blkF_only HT11.out.row (only4O (F := fun k => k = w.heap.size + 2) rfl _ _ _ _) (by have h9 := HT11.out.gl; omega), ?_⟩
          · rw [HLL.out]
            rfl
          · iterate 4 refine Below.setCell ?_ (show w.heap.size ≤ w.heap.size + 2 by omega) _
            exact HT11.out.low
      · as_aux_lemma =>
          have HGr := hid (show ∀ W : World, Calls Tryz.prog 46 #[.slice (some ⟨gL, 0, none⟩) nL nL, errOf e0] W fun r w' => r = .returned (.iface 72 (.int .i64 (greatE F.length e0 : Int))) ∧ Below W.heap.size W w' from fun W => by
            have h := pgreat (some ⟨gL, 0, none⟩) nL nL e0 W
            rw [← HLL.out, errOf_pos hgr] at h
            rw [← HLL.out]
            exact h)
          have HGz := hid hgr
          obtain ⟨ge, hge⟩ : ∃ ge : Int, (greatE F.length e0 : Int) = ge := ⟨_, rfl⟩
          rw [hge] at HGr
          have HGE := hid hge
          clear hgr hge
          go_wp2_with (first | (go_at_call 59; (with_reducible refine (HWr.out _ _ _ HT5.out.low HLL.out HT5.out.row).mono ?_); rintro e w10 ⟨v10, rfl, hb⟩; have HT10 := hid (HT5.out.next hb); clear hb HWr HT5 c0 c1 c2 c3) | (go_at_call 46; (with_reducible refine (HGr.out _).mono ?_); rintro e w11 ⟨rfl, hb⟩; have HT11 := hid (HT10.out.next hb); clear hb HGr HT10; obtain ⟨z0, z1, z2, z3, zz⟩ := cells4O HT11.out.rz; have zz0 := zz 0; have zz1 := zz 1; have zz2 := zz 2; have zz3 := zz 3; clear zz))
          (try simp only [Exit.inBlock, Exit.then])
          refine bodyPost_ret (results_respO rfl _ _ _ 62 _ (0, 0) rfl (fourCO HT11.out.rz _ _ _ _) rfl) rfl ?_
          refine .inl ⟨HGz.out, (by rw [HGE.out]; rfl), ?_⟩
          iterate 4 refine Below.setCell ?_ (show w.heap.size ≤ w.heap.size + 2 by omega) _
          exact HT11.out.low
  · as_aux_lemma =>
      go_simp
      have HN_v1 := hid (heap_alloc_new v0 (.cells #[.int .i64 0, .string ⟨#[]⟩, .int .i64 0, .slice none 0 0] 62 (0, 0)))
      have HH9 := hid (show w.heap.size + 2 < v0.heap.size from lt_of_heap HR_v0.out.rz)
      have HJ9 := hid (show gL ≠ v0.heap.size from fun e => Nat.lt_irrefl _ (by have h9 := lt_of_heap HK_v0.out; rw [e] at h9; exact h9))
      have HR_v1 := hid (HR_v0.out.next (below_new v0 (.cells #[.int .i64 0, .string ⟨#[]⟩, .int .i64 0, .slice none 0 0] 62 (0, 0))))
      have HK_v1 := hid (HK_v0.out.next (below_new v0 (.cells #[.int .i64 0, .string ⟨#[]⟩, .int .i64 0, .slice none 0 0] 62 (0, 0))))
      have hS_v1 : Cells4O (v0.alloc (.cells #[.int .i64 0, .string ⟨#[]⟩, .int .i64 0, .slice none 0 0] 62 (0, 0))) w.heap.size (.int .i64 st) (.string R) (.int .i64 k) (.slice p n c) := cells4O HR_v1.out.bx
      refine hK _ _ ⟨fun _ => hS_v1, ?_⟩
      clear hK K'
      generalize hB_ : v0.alloc (.cells #[.int .i64 0, .string ⟨#[]⟩, .int .i64 0, .slice none 0 0] 62 (0, 0)) = v1 at HN_v1 HR_v1 HK_v1 hS_v1 ⊢
      generalize hg9_ : v0.heap.size = g9 at HN_v1 HH9 HJ9 ⊢
      clear hB_ hg9_ HR_v0 HK_v0 hS_v0
      refine wpAnyD_one (i := 4) (by kernel_rfl) rfl (fun K' hK => ?_)
      go_simp
      go_at_call 44
      refine (HC1.out _).mono ?_
      rintro e v2 ⟨rfl, hb⟩
      have HR_v2 := hid (HR_v1.out.next hb)
      have HK_v2 := hid (HK_v1.out.next hb)
      have HN_v2 := hid ((hb.block _ (lt_of_heap HN_v1.out)).trans HN_v1.out)
      have hS_v2 : Cells4O v2 w.heap.size (.int .i64 st) (.string R) (.int .i64 k) (.slice p n c) := cells4O HR_v2.out.bx
      refine hK _ _ ⟨fun _ => hS_v2, ?_⟩
      clear hK K' HR_v1 HK_v1 hS_v1 HN_v1
      clear hb
      refine late_take (i := 7) (some 60) rfl rfl (by kernel_rfl) (by kernel_rfl) (by kernel_rfl) (by kernel_rfl) (by kernel_rfl) (fun _ _ _ h => h) (by rfl) (v := ?v7r5bpresp_dl) ?hy7r5bpresp_dl hS_v2 ?rest7r5bpresp_dl
      case hy7r5bpresp_dl => intro w0 hSw; obtain ⟨a0, a1, a2, a3, _⟩ := hSw; go_simp; try with_reducible rfl
      simp only [Act.put, List.setIfInBounds_toArray, List.set_cons_zero, List.set_cons_succ]
      obtain ⟨z0, z1, z2, z3, zz⟩ := cells4O HN_v2.out
      have zz0 := zz 0; have zz1 := zz 1; have zz2 := zz 2; have zz3 := zz 3
      clear zz
      refine wpAnyD_one (i := 9) (by kernel_rfl) rfl (fun K' hK => ?_)
      go_simp
      have HT5 := hid (RpT.made HR_v2.out HK_v2.out HGL.out HN_v2.out HH9.out HJ9.out (.int .i64 st) (.string R) (.int .i64 mi) (.slice (some ⟨gL, 0, none⟩) nL nL))
      have hS5 : Cells4O ((((v2.setCell ⟨g9, 0, none⟩ (.int .i64 st)).setCell ⟨g9, 1, none⟩ (.string R)).setCell ⟨g9, 2, none⟩ (.int .i64 mi)).setCell ⟨g9, 3, none⟩ (.slice (some ⟨gL, 0, none⟩) nL nL)) w.heap.size (.int .i64 st) (.string R) (.int .i64 k) (.slice p n c) := ⟨by rw [keep4O (show w.heap.size ≠ g9 from by have h8 := HH9.out; omega)]; exact hS_v2.a0, by rw [keep4O (show w.heap.size ≠ g9 from by have h8 := HH9.out; omega)]; exact hS_v2.a1, by rw [keep4O (show w.heap.size ≠ g9 from by have h8 := HH9.out; omega)]; exact hS_v2.a2, by rw [keep4O (show w.heap.size ≠ g9 from by have h8 := HH9.out; omega)]; exact hS_v2.a3, fun j => (keep4Z (show w.heap.size ≠ g9 from by have h8 := HH9.out; omega)).trans (hS_v2.z j)⟩
      refine hK _ _ ⟨fun _ => hS5, ?_⟩
      clear hK K'
      generalize hW5 : ((((v2.setCell ⟨g9, 0, none⟩ (.int .i64 st)).setCell ⟨g9, 1, none⟩ (.string R)).setCell ⟨g9, 2, none⟩ (.int .i64 mi)).setCell ⟨g9, 3, none⟩ (.slice (some ⟨gL, 0, none⟩) nL nL)) = U5 at HT5 hS5 ⊢
      clear hW5 z0 z1 z2 z3 zz0 zz1 zz2 zz3 HR_v2 HK_v2 HN_v2 hS_v2
      refine late_done (by kernel_rfl) ?_ _
      refine NoPanic.normal ?_
      clear hS5
      obtain ⟨c0, c1, c2, c3, _⟩ := cells4O HT5.out.nw
      by_cases hgr : greatE F.length e0 = 0
      · as_aux_lemma =>
          have HGr := hid (show ∀ W : World, Calls Tryz.prog 46 #[.slice (some ⟨gL, 0, none⟩) nL nL, errOf e0] W fun r w' => r = .returned .nilIface ∧ Below W.heap.size W w' from fun W => by
            have h := pgreat (some ⟨gL, 0, none⟩) nL nL e0 W
            rw [← HLL.out, hgr, show errOf 0 = Value.nilIface from rfl] at h
            rw [← HLL.out]
            exact h)
          have HGz := hid hgr
          clear hgr
          go_wp2_with (first | (go_at_call 59; (with_reducible refine (HWr.out _ _ _ HT5.out.low HLL.out HT5.out.row).mono ?_); rintro e w10 ⟨v10, rfl, hb⟩; have HT10 := hid (HT5.out.next hb); clear hb HWr HT5 c0 c1 c2 c3) | (go_at_call 46; (with_reducible refine (HGr.out _).mono ?_); rintro e w11 ⟨rfl, hb⟩; have HT11 := hid (HT10.out.next hb); clear hb HGr HT10; obtain ⟨c0, c1, c2, c3, _⟩ := cells4O HT11.out.nw; obtain ⟨z0, z1, z2, z3, zz⟩ := cells4O HT11.out.rz; have zz0 := zz 0; have zz1 := zz 1; have zz2 := zz 2; have zz3 := zz 3; clear zz))
          (try simp only [Exit.inBlock, Exit.then])
          refine bodyPost_ret (results_respO rfl _ _ _ 62 _ (0, 0) rfl (fourCO HT11.out.rz _ _ _ _) rfl) rfl ?_
          refine .inr ⟨HGz.out, gL, ?_, by have h9 := HT11.out.gl; omega, blkF_only HT11.out.row (only4O (F := fun k => k = w.heap.size + 2) rfl _ _ _ _) (by have h9 := HT11.out.gl; omega), ?_⟩
          · rw [HLL.out]
            rfl
          · iterate 4 refine Below.setCell ?_ (show w.heap.size ≤ w.heap.size + 2 by omega) _
            exact HT11.out.low
      · as_aux_lemma =>
          have HGr := hid (show ∀ W : World, Calls Tryz.prog 46 #[.slice (some ⟨gL, 0, none⟩) nL nL, errOf e0] W fun r w' => r = .returned (.iface 72 (.int .i64 (greatE F.length e0 : Int))) ∧ Below W.heap.size W w' from fun W => by
            have h := pgreat (some ⟨gL, 0, none⟩) nL nL e0 W
            rw [← HLL.out, errOf_pos hgr] at h
            rw [← HLL.out]
            exact h)
          have HGz := hid hgr
          obtain ⟨ge, hge⟩ : ∃ ge : Int, (greatE F.length e0 : Int) = ge := ⟨_, rfl⟩
          rw [hge] at HGr
          have HGE := hid hge
          clear hgr hge
          go_wp2_with (first | (go_at_call 59; (with_reducible refine (HWr.out _ _ _ HT5.out.low HLL.out HT5.out.row).mono ?_); rintro e w10 ⟨v10, rfl, hb⟩; have HT10 := hid (HT5.out.next hb); clear hb HWr HT5 c0 c1 c2 c3) | (go_at_call 46; (with_reducible refine (HGr.out _).mono ?_); rintro e w11 ⟨rfl, hb⟩; have HT11 := hid (HT10.out.next hb); clear hb HGr HT10; obtain ⟨z0, z1, z2, z3, zz⟩ := cells4O HT11.out.rz; have zz0 := zz 0; have zz1 := zz 1; have zz2 := zz 2; have zz3 := zz 3; clear zz))
          (try simp only [Exit.inBlock, Exit.then])
          refine bodyPost_ret (results_respO rfl _ _ _ 62 _ (0, 0) rfl (fourCO HT11.out.rz _ _ _ _) rfl) rfl ?_
          refine .inl ⟨HGz.out, (by rw [HGE.out]; rfl), ?_⟩
          iterate 4 refine Below.setCell ?_ (show w.heap.size ≤ w.heap.size + 2 by omega) _
          exact HT11.out.low
set_option maxRecDepth 20000 in
set_option maxHeartbeats 32000000 in
theorem presp_d (st : Int) (r : B) (k : Int) (fs : List (B × B)) (p : Option Addr) (n c : Nat) (hn : fs.length = n) (K L mi : Int) (w : World) (hF : FAt w p fs) (hsz : szN fs) (hnn : n ≤ 1000) (hr : r.length ≤ 1048576) (hL0 : -9223372036854775808 ≤ L) (hL1 : L ≤ 9223372036854775807) (hE : EnvP w) (hmx : ∃ m : Int, w.cell? ⟨2, 0, none⟩ = some (.int .i64 m)) (hB : bareS st = false) (hK : ¬ K = 0) :
    Calls Tryz.prog 25 #[.agg #[.int .i64 st, .string (str r), .int .i64 k, .slice p n c], .agg #[.int .i64 K, .int .i64 L], .int .i64 mi, .bool false] w fun e w' => PAns st r mi (onP st K L false fs k) w e w' := by
  have hFz : szC 1048576 (onP st K L false fs k) := onP_sz hsz hL0 hL1
  have h1z : szC 1048576 (onP1 fs k) := onP1_sz hsz
  have h1w := szC_W h1z (by decide)
  have h2w := szC_W (onP2_sz (st := st) (K := K) (k := k) hsz hL0 hL1) (by decide)
  have h0w : szW (stripF fs) := fun f hf => szC_W (C := 1048576) hsz (by decide) f (List.mem_filter.1 hf).1
  have h0n : szN (stripF fs) := fun f hf => hsz f (List.mem_filter.1 hf).1
  have hfw : szW (framF (stripF fs) 0 0) := fun f hf => by
    rcases framF_mem hf with h | h
    · exact h0w f h
    · exact szC_W (frmA_sz (K := 0) (L := 0) (by decide) (by decide)) (by decide) f h
  have HSt := hid (show ∀ W : World, Below w.heap.size w W → _ from fun W hb => pstrip fs p n c hn W (hF.next hb) hsz hnn (hmx.elim fun m h => ⟨m, cell_keep hb h⟩))
  have hl0 := stripF_le fs
  have hlf := framF_len (stripF fs) 0 0
  have hl1 := onP1_len fs k
  have hl2 := onP2_len st K L fs k
  have hlP := onP_len st K L false fs k
  have HFr := hid (show ∀ (W : World) (q : Option Addr) (d : Nat), Below w.heap.size w W → FAt W q (stripF fs) → _ from fun W q d hb h => pframing (stripF fs) 0 0 q (stripF fs).length d rfl W h h0w (by omega) (by decide) (by decide) (hE.next hb))
  have HVi := hid (show ∀ (W : World) (g s : Nat), Below w.heap.size w W → (framF (stripF fs) 0 0).length = s → BlkF W g (framF (stripF fs) 0 0) → _ from fun W g s hb hs h => pvia (framF (stripF fs) 0 0) k (some ⟨g, 0, none⟩) s s hs (Nat.le_refl _) (fun e => by cases e) (fun ad e => by cases e; rfl) W h.fat hfw (by omega) (hE.next hb))
  rw [show viaF (framF (stripF fs) 0 0) k = onP1 fs k from rfl] at HVi
  have HBa := hid (show ∀ W : World, _ from fun W => pbare st W)
  rw [hB] at HBa
  have HFd := hid (show ∀ (W : World) (g s : Nat), Below w.heap.size w W → (onP1 fs k).length = s → BlkF W g (onP1 fs k) → _ from fun W g s hb hs h => pframing (onP1 fs k) K L (some ⟨g, 0, none⟩) s s hs W h.fat h1w (by omega) hL0 hL1 (hE.next hb))
  have hKb : (K == 0) = false := by simpa using hK
  obtain ⟨F, hFF⟩ : ∃ F, onP st K L false fs k = F := ⟨_, rfl⟩
  rw [hFF] at hFz hlP
  rw [hFF]
  have HWr := hid (show ∀ (W : World) (g s : Nat), Below w.heap.size w W → F.length = s → BlkF W g F → _ from fun W g s hb hs h => wresp_e st r mi F (some ⟨g, 0, none⟩) s s hs W (hE.next hb) h.fat hFz (by omega) hr)
  have HC1 := hid (show ∀ W : World, _ from fun W => clone_any (str r) W (by rw [str_size]; omega))
  have HFe := hid (show framF (onP1 fs k) K L = F from by rw [← hFF]; unfold onP; rw [if_neg (by decide), onP2_d hB hK])
  unfold PAns
  obtain ⟨e0, he0⟩ : ∃ e0, respE st r mi F = e0 := ⟨_, rfl⟩
  rw [he0] at HWr
  rw [he0]
  obtain ⟨R, hR⟩ : ∃ R, str r = R := ⟨_, rfl⟩
  rw [hR] at HWr HC1
  rw [hR]
  obtain ⟨X0, hX0⟩ : ∃ X, stripF fs = X := ⟨_, rfl⟩
  rw [hX0] at HSt HFr HVi
  obtain ⟨XF, hXF⟩ : ∃ X, framF X0 0 0 = X := ⟨_, rfl⟩
  rw [hXF] at HFr HVi
  obtain ⟨X1, hX1⟩ : ∃ X, onP1 fs k = X := ⟨_, rfl⟩
  rw [hX1] at HVi HFd HFe
  have HR0 := hid (RpO.start w #[.int .i64 st, .string R, .int .i64 k, .slice p n c] #[.int .i64 K, .int .i64 L])
  clear hF hsz hn hmx hFz h1z h1w h2w h0w h0n hfw hl0 hlf hl1 hl2 hlP hFF he0 hR hX0 hXF hX1 hB hE hr
  go_enter Tryz.func25, Tryz.ntmps25
  obtain ⟨y0, y1, y2, y3, _⟩ := cells4O HR0.out.bx
  go_wp2_with (go_at_call 36; (with_reducible refine (HSt.out _ HR0.out.low).mono ?_); rintro e w1 ⟨v1, rfl, ho, hb⟩; obtain ⟨q1, d1, rfl⟩ := own_slice ho; have HR1 := hid (HR0.out.next hb); have HF1 := hid (OwnF.fat ho); clear hb ho HSt HR0 y0 y1 y2 y3)
  have HR4 := hid (show RpO w w1.drew #[.int .i64 st, .string R, .int .i64 k, .slice p n c] #[.int .i64 K, .int .i64 L] from HR1.out.next ⟨rfl, rfl, rfl, Nat.le_refl _, fun _ _ => rfl⟩)
  have HF4 := hid (show FAt w1.drew q1 X0 from HF1.out.next ⟨rfl, rfl, rfl, Nat.le_refl _, fun _ _ => rfl⟩)
  generalize hW4 : w1.drew = w4 at HR4 HF4
  refine wp_region_noPanic ?_
  refine any_begin 7 (by kernel_rfl) (by kernel_rfl) ?_
  rw [hW4]
  clear hW4 HR1 HF1
  refine late_begin (fun U => Cells4O U w.heap.size (.int .i64 st) (.string R) (.int .i64 k) (.slice p n c)) (fun _ => false) (show Cells4O w4 w.heap.size (.int .i64 st) (.string R) (.int .i64 k) (.slice p n c) from cells4O HR4.out.bx) (fun hS => ?_)
  refine late_take (i := 0) (some 21) rfl rfl (by kernel_rfl) (by kernel_rfl) (by kernel_rfl) (by kernel_rfl) (by kernel_rfl) (fun _ _ _ h => h) (by rfl) (v := ?v0r2presp_d) ?hy0r2presp_d hS ?rest0r2presp_d
  case hy0r2presp_d => intro w0 hSw; obtain ⟨a0, a1, a2, a3, _⟩ := hSw; go_simp; try with_reducible rfl
  simp only [Act.put, List.setIfInBounds_toArray, List.set_cons_zero, List.set_cons_succ]
  refine late_take (i := 1) (some 22) rfl rfl (by kernel_rfl) (by kernel_rfl) (by kernel_rfl) (by kernel_rfl) (by kernel_rfl) (fun _ _ _ h => h) (by rfl) (v := ?v1r2presp_d) ?hy1r2presp_d hS ?rest1r2presp_d
  case hy1r2presp_d => intro w0 hSw; obtain ⟨a0, a1, a2, a3, _⟩ := hSw; go_simp; try with_reducible rfl
  simp only [Act.put, List.setIfInBounds_toArray, List.set_cons_zero, List.set_cons_succ]
  refine late_take (i := 3) (some 24) rfl rfl (by kernel_rfl) (by kernel_rfl) (by kernel_rfl) (by kernel_rfl) (by kernel_rfl) (fun _ _ _ h => h) (by rfl) (v := ?v3r2presp_d) ?hy3r2presp_d hS ?rest3r2presp_d
  case hy3r2presp_d => intro w0 hSw; obtain ⟨a0, a1, a2, a3, _⟩ := hSw; go_simp; try with_reducible rfl
  simp only [Act.put, List.setIfInBounds_toArray, List.set_cons_zero, List.set_cons_succ]
  refine late_take (i := 4) (some 25) rfl rfl (by kernel_rfl) (by kernel_rfl) (by kernel_rfl) (by kernel_rfl) (by kernel_rfl) (fun _ _ _ h => h) (by rfl) (v := ?v4r2presp_d) ?hy4r2presp_d hS ?rest4r2presp_d
  case hy4r2presp_d => intro w0 hSw; obtain ⟨a0, a1, a2, a3, _⟩ := hSw; go_simp; try with_reducible rfl
  simp only [Act.put, List.setIfInBounds_toArray, List.set_cons_zero, List.set_cons_succ]
  refine wpAnyD_one (i := 2) (by kernel_rfl) rfl (fun K' hK => ?_)
  go_simp
  go_at_call 37
  refine (HFr.out _ _ _ HR4.out.low HF4.out).mono ?_
  rintro e w5 ⟨g5, m5, rfl, hl, hg, hbk, hb⟩
  have HR5 := hid (HR4.out.next hb)
  have HF5 := hid (HF4.out.next hb)
  have HK5 := hid hbk
  have HL5 := hid hl
  have hS5 : Cells4O w5 w.heap.size (.int .i64 st) (.string R) (.int .i64 k) (.slice p n c) := cells4O HR5.out.bx
  refine hK _ _ ⟨fun _ => hS5, ?_⟩
  clear hK K' hb hl hg hbk HFr HR4 HF4 hS
  refine wpAnyD_one (i := 5) (by kernel_rfl) rfl (fun K' hK => ?_)
  go_simp
  go_at_call 39
  refine (HVi.out _ _ _ HR5.out.low HL5.out HK5.out).mono ?_
  rintro e w6 ⟨g6, m6, rfl, hl, hg, hbk, hb⟩
  have HR6 := hid (HR5.out.next hb)
  have HF6 := hid (HF5.out.next hb)
  have HK6 := hid hbk
  have HL6 := hid hl
  have HG6 := hid (show w.heap.size + 2 < g6 from Nat.lt_of_lt_of_le (lt_of_heap HR5.out.rz) hg)
  have hS6 : Cells4O w6 w.heap.size (.int .i64 st) (.string R) (.int .i64 k) (.slice p n c) := cells4O HR6.out.bx
  refine hK _ _ ⟨fun _ => hS6, ?_⟩
  clear hK K' hb hl hg hbk HVi HR5 HK5 HL5 HF5 hS5
  refine late_take (i := 6) (some 11) rfl rfl (by kernel_rfl) (by kernel_rfl) (by kernel_rfl) (by kernel_rfl) (by kernel_rfl) (fun _ _ _ h => h) (by rfl) (v := ?v6r2presp_d) ?hy6r2presp_d hS6 ?rest6r2presp_d
  case hy6r2presp_d => intro w0 hSw; obtain ⟨a0, a1, a2, a3, _⟩ := hSw; go_simp; try with_reducible rfl
  simp only [Act.put, List.setIfInBounds_toArray, List.set_cons_zero, List.set_cons_succ]
  refine late_done (by kernel_rfl) ?_ _
  refine NoPanic.normal ?_
  clear hS6
  obtain ⟨y0, y1, y2, y3, _⟩ := cells4O HR6.out.bx
  obtain ⟨fb0, fb1⟩ := box2W HR6.out.fb
  go_wp2_with (first | (go_at_call 57; (with_reducible refine (HBa.out _).mono ?_); rintro e w7 ⟨rfl, hw7⟩; subst w7; clear HBa) | (go_at_call 37; (with_reducible refine (HFd.out _ _ _ HR6.out.low HL6.out HK6.out).mono ?_); rintro e w9 ⟨g9a, m9a, rfl, hl, hg, hbk, hb⟩; have HR9 := hid (HR6.out.next hb); have HK9 := hid hbk; have HL9 := hid hl; have HG9 := hid (show w.heap.size + 2 < g9a from Nat.lt_of_lt_of_le (lt_of_heap HR6.out.rz) hg); clear hb hl hg hbk HFd HR6 HK6 y0 y1 y2 y3 fb0 fb1; obtain ⟨y0, y1, y2, y3, _⟩ := cells4O HR9.out.bx))
  rw [HFe.out] at HK9 HL9
  have HR_v0 := hid (show RpO w w9.drew #[.int .i64 st, .string R, .int .i64 k, .slice p n c] #[.int .i64 K, .int .i64 L] from HR9.out.next ⟨rfl, rfl, rfl, Nat.le_refl _, fun _ _ => rfl⟩)
  have HK_v0 := hid (show BlkF w9.drew g9a F from HK9.out)
  have HLL := hid (show F.length = m9a from HL9.out)
  have HGL := hid (show w.heap.size + 2 < g9a from HG9.out)
  generalize hW0 : w9.drew = v0 at HR_v0 HK_v0
  obtain ⟨gL, hgL⟩ : ∃ gL, g9a = gL := ⟨_, rfl⟩
  obtain ⟨nL, hnL⟩ : ∃ nL, m9a = nL := ⟨_, rfl⟩
  rw [hgL] at HK_v0 HGL ⊢
  rw [hnL] at HLL ⊢
  refine wp_region_noPanic ?_
  refine any_begin 10 (by kernel_rfl) (by kernel_rfl) ?_
  rw [hW0]
  clear hW0 HR9 HK9 HL9 HG9 hgL hnL y0 y1 y2 y3
  refine late_begin (fun U => Cells4O U w.heap.size (.int .i64 st) (.string R) (.int .i64 k) (.slice p n c)) (fun _ => false) (show Cells4O v0 w.heap.size (.int .i64 st) (.string R) (.int .i64 k) (.slice p n c) from cells4O HR_v0.out.bx) (fun hS_v0 => ?_)
  refine late_take (i := 0) (some 53) rfl rfl (by kernel_rfl) (by kernel_rfl) (by kernel_rfl) (by kernel_rfl) (by kernel_rfl) (fun _ _ _ h => h) (by rfl) (v := ?v0r5presp_d) ?hy0r5presp_d hS_v0 ?rest0r5presp_d
  case hy0r5presp_d => intro w0 hSw; obtain ⟨a0, a1, a2, a3, _⟩ := hSw; go_simp; try with_reducible rfl
  simp only [Act.put, List.setIfInBounds_toArray, List.set_cons_zero, List.set_cons_succ]
  refine late_take (i := 1) (some 54) rfl rfl (by kernel_rfl) (by kernel_rfl) (by kernel_rfl) (by kernel_rfl) (by kernel_rfl) (fun _ _ _ h => h) (by rfl) (v := ?v1r5presp_d) ?hy1r5presp_d hS_v0 ?rest1r5presp_d
  case hy1r5presp_d => intro w0 hSw; obtain ⟨a0, a1, a2, a3, _⟩ := hSw; go_simp; try with_reducible rfl
  simp only [Act.put, List.setIfInBounds_toArray, List.set_cons_zero, List.set_cons_succ]
  refine late_take (i := 2) (some 55) rfl rfl (by kernel_rfl) (by kernel_rfl) (by kernel_rfl) (by kernel_rfl) (by kernel_rfl) (fun _ _ _ h => h) (by rfl) (v := ?v2r5presp_d) ?hy2r5presp_d hS_v0 ?rest2r5presp_d
  case hy2r5presp_d => intro w0 hSw; obtain ⟨a0, a1, a2, a3, _⟩ := hSw; go_simp; try with_reducible rfl
  simp only [Act.put, List.setIfInBounds_toArray, List.set_cons_zero, List.set_cons_succ]
  refine late_take (i := 3) (some 56) rfl rfl (by kernel_rfl) (by kernel_rfl) (by kernel_rfl) (by kernel_rfl) (by kernel_rfl) (fun _ _ _ h => h) (by rfl) (v := ?v3r5presp_d) ?hy3r5presp_d hS_v0 ?rest3r5presp_d
  case hy3r5presp_d => intro w0 hSw; obtain ⟨a0, a1, a2, a3, _⟩ := hSw; go_simp; try with_reducible rfl
  simp only [Act.put, List.setIfInBounds_toArray, List.set_cons_zero, List.set_cons_succ]
  refine late_take (i := 5) (some 58) rfl rfl (by kernel_rfl) (by kernel_rfl) (by kernel_rfl) (by kernel_rfl) (by kernel_rfl) (fun _ _ _ h => h) (by rfl) (v := ?v5r5presp_d) ?hy5r5presp_d hS_v0 ?rest5r5presp_d
  case hy5r5presp_d => intro w0 hSw; obtain ⟨a0, a1, a2, a3, _⟩ := hSw; go_simp; try with_reducible rfl
  simp only [Act.put, List.setIfInBounds_toArray, List.set_cons_zero, List.set_cons_succ]
  refine late_take (i := 6) (some 59) rfl rfl (by kernel_rfl) (by kernel_rfl) (by kernel_rfl) (by kernel_rfl) (by kernel_rfl) (fun _ _ _ h => h) (by rfl) (v := ?v6r5presp_d) ?hy6r5presp_d hS_v0 ?rest6r5presp_d
  case hy6r5presp_d => intro w0 hSw; obtain ⟨a0, a1, a2, a3, _⟩ := hSw; go_simp; try with_reducible rfl
  simp only [Act.put, List.setIfInBounds_toArray, List.set_cons_zero, List.set_cons_succ]
  refine wpAnyD_twoD (i := 4) (j := 8) (by kernel_rfl) rfl rfl (fun K' hK => ?_) (fun K' hK => ?_)
  · as_aux_lemma =>
      go_simp
      go_at_call 44
      refine (HC1.out _).mono ?_
      rintro e v1 ⟨rfl, hb⟩
      have HR_v1 := hid (HR_v0.out.next hb)
      have HK_v1 := hid (HK_v0.out.next hb)
      have hS_v1 : Cells4O v1 w.heap.size (.int .i64 st) (.string R) (.int .i64 k) (.slice p n c) := cells4O HR_v1.out.bx
      refine hK _ _ ⟨fun _ => hS_v1, ?_⟩
      clear hK K' HR_v0 HK_v0 hS_v0
      clear hb
      refine late_take (i := 7) (some 60) rfl rfl (by kernel_rfl) (by kernel_rfl) (by kernel_rfl) (by kernel_rfl) (by kernel_rfl) (fun _ _ _ h => h) (by rfl) (v := ?v7r5apresp_d) ?hy7r5apresp_d hS_v1 ?rest7r5apresp_d
      case hy7r5apresp_d => intro w0 hSw; obtain ⟨a0, a1, a2, a3, _⟩ := hSw; go_simp; try with_reducible rfl
      simp only [Act.put, List.setIfInBounds_toArray, List.set_cons_zero, List.set_cons_succ]
      refine wpAnyD_one (i := 8) (by kernel_rfl) rfl (fun K' hK => ?_)
      go_simp
      have HN_v2 := hid (heap_alloc_new v1 (.cells #[.int .i64 0, .string ⟨#[]⟩, .int .i64 0, .slice none 0 0] 62 (0, 0)))
      have HH9 := hid (show w.heap.size + 2 < v1.heap.size from lt_of_heap HR_v1.out.rz)
      have HJ9 := hid (show gL ≠ v1.heap.size from fun e => Nat.lt_irrefl _ (by have h9 := lt_of_heap HK_v1.out; rw [e] at h9; exact h9))
      have HR_v2 := hid (HR_v1.out.next (below_new v1 (.cells #[.int .i64 0, .string ⟨#[]⟩, .int .i64 0, .slice none 0 0] 62 (0, 0))))
      have HK_v2 := hid (HK_v1.out.next (below_new v1 (.cells #[.int .i64 0, .string ⟨#[]⟩, .int .i64 0, .slice none 0 0] 62 (0, 0))))
      have hS_v2 : Cells4O (v1.alloc (.cells #[.int .i64 0, .string ⟨#[]⟩, .int .i64 0, .slice none 0 0] 62 (0, 0))) w.heap.size (.int .i64 st) (.string R) (.int .i64 k) (.slice p n c) := cells4O HR_v2.out.bx
      refine hK _ _ ⟨fun _ => hS_v2, ?_⟩
      clear hK K'
      generalize hB_ : v1.alloc (.cells #[.int .i64 0, .string ⟨#[]⟩, .int .i64 0, .slice none 0 0] 62 (0, 0)) = v2 at HN_v2 HR_v2 HK_v2 hS_v2 ⊢
      generalize hg9_ : v1.heap.size = g9 at HN_v2 HH9 HJ9 ⊢
      clear hB_ hg9_ HR_v1 HK_v1 hS_v1
      obtain ⟨z0, z1, z2, z3, zz⟩ := cells4O HN_v2.out
      have zz0 := zz 0; have zz1 := zz 1; have zz2 := zz 2; have zz3 := zz 3
      clear zz
      refine wpAnyD_one (i := 9) (by kernel_rfl) rfl (fun K' hK => ?_)
      go_simp
      have HT5 := hid (RpT.made HR_v2.out HK_v2.out HGL.out HN_v2.out HH9.out HJ9.out (.int .i64 st) (.string R) (.int .i64 mi) (.slice (some ⟨gL, 0, none⟩) nL nL))
      have hS5 : Cells4O ((((v2.setCell ⟨g9, 0, none⟩ (.int .i64 st)).setCell ⟨g9, 1, none⟩ (.string R)).setCell ⟨g9, 2, none⟩ (.int .i64 mi)).setCell ⟨g9, 3, none⟩ (.slice (some ⟨gL, 0, none⟩) nL nL)) w.heap.size (.int .i64 st) (.string R) (.int .i64 k) (.slice p n c) := ⟨by rw [keep4O (show w.heap.size ≠ g9 from by have h8 := HH9.out; omega)]; exact hS_v2.a0, by rw [keep4O (show w.heap.size ≠ g9 from by have h8 := HH9.out; omega)]; exact hS_v2.a1, by rw [keep4O (show w.heap.size ≠ g9 from by have h8 := HH9.out; omega)]; exact hS_v2.a2, by rw [keep4O (show w.heap.size ≠ g9 from by have h8 := HH9.out; omega)]; exact hS_v2.a3, fun j => (keep4Z (show w.heap.size ≠ g9 from by have h8 := HH9.out; omega)).trans (hS_v2.z j)⟩
      refine hK _ _ ⟨fun _ => hS5, ?_⟩
      clear hK K'
      generalize hW5 : ((((v2.setCell ⟨g9, 0, none⟩ (.int .i64 st)).setCell ⟨g9, 1, none⟩ (.string R)).setCell ⟨g9, 2, none⟩ (.int .i64 mi)).setCell ⟨g9, 3, none⟩ (.slice (some ⟨gL, 0, none⟩) nL nL)) = U5 at HT5 hS5 ⊢
      clear hW5 z0 z1 z2 z3 zz0 zz1 zz2 zz3 HR_v2 HK_v2 HN_v2 hS_v2
      refine late_done (by kernel_rfl) ?_ _
      refine NoPanic.normal ?_
      clear hS5
      obtain ⟨c0, c1, c2, c3, _⟩ := cells4O HT5.out.nw
      by_cases hgr : greatE F.length e0 = 0
      · as_aux_lemma =>
          have HGr := hid (show ∀ W : World, Calls Tryz.prog 46 #[.slice (some ⟨gL, 0, none⟩) nL nL, errOf e0] W fun r w' => r = .returned .nilIface ∧ Below W.heap.size W w' from fun W => by
            have h := pgreat (some ⟨gL, 0, none⟩) nL nL e0 W
            rw [← HLL.out, hgr, show errOf 0 = Value.nilIface from rfl] at h
            rw [← HLL.out]
            exact h)
          have HGz := hid hgr
          clear hgr
          go_wp2_with (first | (go_at_call 59; (with_reducible refine (HWr.out _ _ _ HT5.out.low HLL.out HT5.out.row).mono ?_); rintro e w10 ⟨v10, rfl, hb⟩; have HT10 := hid (HT5.out.next hb); clear hb HWr HT5 c0 c1 c2 c3) | (go_at_call 46; (with_reducible refine (HGr.out _).mono ?_); rintro e w11 ⟨rfl, hb⟩; have HT11 := hid (HT10.out.next hb); clear hb HGr HT10; obtain ⟨c0, c1, c2, c3, _⟩ := cells4O HT11.out.nw; obtain ⟨z0, z1, z2, z3, zz⟩ := cells4O HT11.out.rz; have zz0 := zz 0; have zz1 := zz 1; have zz2 := zz 2; have zz3 := zz 3; clear zz))
          (try simp only [Exit.inBlock, Exit.then])
          refine bodyPost_ret (results_respO rfl _ _ _ 62 _ (0, 0) rfl (fourCO HT11.out.rz _ _ _ _) rfl) rfl ?_
          refine .inr ⟨HGz.out, gL, ?_, by have h9 := HT11.out.gl; omega, blkF_only HT11.out.row (only4O (F := fun k => k = w.heap.size + 2) rfl _ _ _ _) (by have h9 := HT11.out.gl; omega), ?_⟩
          · rw [HLL.out]
            rfl
          · iterate 4 refine Below.setCell ?_ (show w.heap.size ≤ w.heap.size + 2 by omega) _
            exact HT11.out.low
      · as_aux_lemma =>
          have HGr := hid (show ∀ W : World, Calls Tryz.prog 46 #[.slice (some ⟨gL, 0, none⟩) nL nL, errOf e0] W fun r w' => r = .returned (.iface 72 (.int .i64 (greatE F.length e0 : Int))) ∧ Below W.heap.size W w' from fun W => by
            have h := pgreat (some ⟨gL, 0, none⟩) nL nL e0 W
            rw [← HLL.out, errOf_pos hgr] at h
            rw [← HLL.out]
            exact h)
          have HGz := hid hgr
          obtain ⟨ge, hge⟩ : ∃ ge : Int, (greatE F.length e0 : Int) = ge := ⟨_, rfl⟩
          rw [hge] at HGr
          have HGE := hid hge
          clear hgr hge
          go_wp2_with (first | (go_at_call 59; (with_reducible refine (HWr.out _ _ _ HT5.out.low HLL.out HT5.out.row).mono ?_); rintro e w10 ⟨v10, rfl, hb⟩; have HT10 := hid (HT5.out.next hb); clear hb HWr HT5 c0 c1 c2 c3) | (go_at_call 46; (with_reducible refine (HGr.out _).mono ?_); rintro e w11 ⟨rfl, hb⟩; have HT11 := hid (HT10.out.next hb); clear hb HGr HT10; obtain ⟨z0, z1, z2, z3, zz⟩ := cells4O HT11.out.rz; have zz0 := zz 0; have zz1 := zz 1; have zz2 := zz 2; have zz3 := zz 3; clear zz))
          (try simp only [Exit.inBlock, Exit.then])
          refine bodyPost_ret (results_respO rfl _ _ _ 62 _ (0, 0) rfl (fourCO HT11.out.rz _ _ _ _) rfl) rfl ?_
          refine .inl ⟨HGz.out, (by rw [HGE.out]; rfl), ?_⟩
          iterate 4 refine Below.setCell ?_ (show w.heap.size ≤ w.heap.size + 2 by omega) _
          exact HT11.out.low
  · as_aux_lemma =>
      go_simp
      have HN_v1 := hid (heap_alloc_new v0 (.cells #[.int .i64 0, .string ⟨#[]⟩, .int .i64 0, .slice none 0 0] 62 (0, 0)))
      have HH9 := hid (show w.heap.size + 2 < v0.heap.size from lt_of_heap HR_v0.out.rz)
      have HJ9 := hid (show gL ≠ v0.heap.size from fun e => Nat.lt_irrefl _ (by have h9 := lt_of_heap HK_v0.out; rw [e] at h9; exact h9))
      have HR_v1 := hid (HR_v0.out.next (below_new v0 (.cells #[.int .i64 0, .string ⟨#[]⟩, .int .i64 0, .slice none 0 0] 62 (0, 0))))
      have HK_v1 := hid (HK_v0.out.next (below_new v0 (.cells #[.int .i64 0, .string ⟨#[]⟩, .int .i64 0, .slice none 0 0] 62 (0, 0))))
      have hS_v1 : Cells4O (v0.alloc (.cells #[.int .i64 0, .string ⟨#[]⟩, .int .i64 0, .slice none 0 0] 62 (0, 0))) w.heap.size (.int .i64 st) (.string R) (.int .i64 k) (.slice p n c) := cells4O HR_v1.out.bx
      refine hK _ _ ⟨fun _ => hS_v1, ?_⟩
      clear hK K'
      generalize hB_ : v0.alloc (.cells #[.int .i64 0, .string ⟨#[]⟩, .int .i64 0, .slice none 0 0] 62 (0, 0)) = v1 at HN_v1 HR_v1 HK_v1 hS_v1 ⊢
      generalize hg9_ : v0.heap.size = g9 at HN_v1 HH9 HJ9 ⊢
      clear hB_ hg9_ HR_v0 HK_v0 hS_v0
      refine wpAnyD_one (i := 4) (by kernel_rfl) rfl (fun K' hK => ?_)
      go_simp
      go_at_call 44
      refine (HC1.out _).mono ?_
      rintro e v2 ⟨rfl, hb⟩
      have HR_v2 := hid (HR_v1.out.next hb)
      have HK_v2 := hid (HK_v1.out.next hb)
      have HN_v2 := hid ((hb.block _ (lt_of_heap HN_v1.out)).trans HN_v1.out)
      have hS_v2 : Cells4O v2 w.heap.size (.int .i64 st) (.string R) (.int .i64 k) (.slice p n c) := cells4O HR_v2.out.bx
      refine hK _ _ ⟨fun _ => hS_v2, ?_⟩
      clear hK K' HR_v1 HK_v1 hS_v1 HN_v1
      clear hb
      refine late_take (i := 7) (some 60) rfl rfl (by kernel_rfl) (by kernel_rfl) (by kernel_rfl) (by kernel_rfl) (by kernel_rfl) (fun _ _ _ h => h) (by rfl) (v := ?v7r5bpresp_d) ?hy7r5bpresp_d hS_v2 ?rest7r5bpresp_d
      case hy7r5bpresp_d => intro w0 hSw; obtain ⟨a0, a1, a2, a3, _⟩ := hSw; go_simp; try with_reducible rfl
      simp only [Act.put, List.setIfInBounds_toArray, List.set_cons_zero, List.set_cons_succ]
      obtain ⟨z0, z1, z2, z3, zz⟩ := cells4O HN_v2.out
      have zz0 := zz 0; have zz1 := zz 1; have zz2 := zz 2; have zz3 := zz 3
      clear zz
      refine wpAnyD_one (i := 9) (by kernel_rfl) rfl (fun K' hK => ?_)
      go_simp
      have HT5 := hid (RpT.made HR_v2.out HK_v2.out HGL.out HN_v2.out HH9.out HJ9.out (.int .i64 st) (.string R) (.int .i64 mi) (.slice (some ⟨gL, 0, none⟩) nL nL))
      have hS5 : Cells4O ((((v2.setCell ⟨g9, 0, none⟩ (.int .i64 st)).setCell ⟨g9, 1, none⟩ (.string R)).setCell ⟨g9, 2, none⟩ (.int .i64 mi)).setCell ⟨g9, 3, none⟩ (.slice (some ⟨gL, 0, none⟩) nL nL)) w.heap.size (.int .i64 st) (.string R) (.int .i64 k) (.slice p n c) := ⟨by rw [keep4O (show w.heap.size ≠ g9 from by have h8 := HH9.out; omega)]; exact hS_v2.a0, by rw [keep4O (show w.heap.size ≠ g9 from by have h8 := HH9.out; omega)]; exact hS_v2.a1, by rw [keep4O (show w.heap.size ≠ g9 from by have h8 := HH9.out; omega)]; exact hS_v2.a2, by rw [keep4O (show w.heap.size ≠ g9 from by have h8 := HH9.out; omega)]; exact hS_v2.a3, fun j => (keep4Z (show w.heap.size ≠ g9 from by have h8 := HH9.out; omega)).trans (hS_v2.z j)⟩
      refine hK _ _ ⟨fun _ => hS5, ?_⟩
      clear hK K'
      generalize hW5 : ((((v2.setCell ⟨g9, 0, none⟩ (.int .i64 st)).setCell ⟨g9, 1, none⟩ (.string R)).setCell ⟨g9, 2, none⟩ (.int .i64 mi)).setCell ⟨g9, 3, none⟩ (.slice (some ⟨gL, 0, none⟩) nL nL)) = U5 at HT5 hS5 ⊢
      clear hW5 z0 z1 z2 z3 zz0 zz1 zz2 zz3 HR_v2 HK_v2 HN_v2 hS_v2
      refine late_done (by kernel_rfl) ?_ _
      refine NoPanic.normal ?_
      clear hS5
      obtain ⟨c0, c1, c2, c3, _⟩ := cells4O HT5.out.nw
      by_cases hgr : greatE F.length e0 = 0
      · as_aux_lemma =>
          have HGr := hid (show ∀ W : World, Calls Tryz.prog 46 #[.slice (some ⟨gL, 0, none⟩) nL nL, errOf e0] W fun r w' => r = .returned .nilIface ∧ Below W.heap.size W w' from fun W => by
            have h := pgreat (some ⟨gL, 0, none⟩) nL nL e0 W
            rw [← HLL.out, hgr, show errOf 0 = Value.nilIface from rfl] at h
            rw [← HLL.out]
            exact h)
          have HGz := hid hgr
          clear hgr
          go_wp2_with (first | (go_at_call 59; (with_reducible refine (HWr.out _ _ _ HT5.out.low HLL.out HT5.out.row).mono ?_); rintro e w10 ⟨v10, rfl, hb⟩; have HT10 := hid (HT5.out.next hb); clear hb HWr HT5 c0 c1 c2 c3) | (go_at_call 46; (with_reducible refine (HGr.out _).mono ?_); rintro e w11 ⟨rfl, hb⟩; have HT11 := hid (HT10.out.next hb); clear hb HGr HT10; obtain ⟨c0, c1, c2, c3, _⟩ := cells4O HT11.out.nw; obtain ⟨z0, z1, z2, z3, zz⟩ := cells4O HT11.out.rz; have zz0 := zz 0; have zz1 := zz 1; have zz2 := zz 2; have zz3 := zz 3; clear zz))
          (try simp only [Exit.inBlock, Exit.then])
          refine bodyPost_ret (results_respO rfl _ _ _ 62 _ (0, 0) rfl (fourCO HT11.out.rz _ _ _ _) rfl) rfl ?_
          refine .inr ⟨HGz.out, gL, ?_, by have h9 := HT11.out.gl; omega, blkF_only HT11.out.row (only4O (F := fun k => k = w.heap.size + 2) rfl _ _ _ _) (by have h9 := HT11.out.gl; omega), ?_⟩
          · rw [HLL.out]
            rfl
          · iterate 4 refine Below.setCell ?_ (show w.heap.size ≤ w.heap.size + 2 by omega) _
            exact HT11.out.low
      · as_aux_lemma =>
          have HGr := hid (show ∀ W : World, Calls Tryz.prog 46 #[.slice (some ⟨gL, 0, none⟩) nL nL, errOf e0] W fun r w' => r = .returned (.iface 72 (.int .i64 (greatE F.length e0 : Int))) ∧ Below W.heap.size W w' from fun W => by
            have h := pgreat (some ⟨gL, 0, none⟩) nL nL e0 W
            rw [← HLL.out, errOf_pos hgr] at h
            rw [← HLL.out]
            exact h)
          have HGz := hid hgr
          obtain ⟨ge, hge⟩ : ∃ ge : Int, (greatE F.length e0 : Int) = ge := ⟨_, rfl⟩
          rw [hge] at HGr
          have HGE := hid hge
          clear hgr hge
          go_wp2_with (first | (go_at_call 59; (with_reducible refine (HWr.out _ _ _ HT5.out.low HLL.out HT5.out.row).mono ?_); rintro e w10 ⟨v10, rfl, hb⟩; have HT10 := hid (HT5.out.next hb); clear hb HWr HT5 c0 c1 c2 c3) | (go_at_call 46; (with_reducible refine (HGr.out _).mono ?_); rintro e w11 ⟨rfl, hb⟩; have HT11 := hid (HT10.out.next hb); clear hb HGr HT10; obtain ⟨z0, z1, z2, z3, zz⟩ := cells4O HT11.out.rz; have zz0 := zz 0; have zz1 := zz 1; have zz2 := zz 2; have zz3 := zz 3; clear zz))
          (try simp only [Exit.inBlock, Exit.then])
          refine bodyPost_ret (results_respO rfl _ _ _ 62 _ (0, 0) rfl (fourCO HT11.out.rz _ _ _ _) rfl) rfl ?_
          refine .inl ⟨HGz.out, (by rw [HGE.out]; rfl), ?_⟩
          iterate 4 refine Below.setCell ?_ (show w.heap.size ≤ w.heap.size + 2 by omega) _
          exact HT11.out.low
end Go.Proofs.YtnlmjlfoeodleaaGreatDoor
