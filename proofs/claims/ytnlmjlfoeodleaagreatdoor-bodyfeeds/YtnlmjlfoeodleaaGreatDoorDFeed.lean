/- The document's reader of chunked bodies: Feed. -/
import Derived.Test.YtnlmjlfoeodleaaGreatDoorDFeedP
namespace Go.Proofs.YtnlmjlfoeodleaaGreatDoor
open Go.RowKit

structure RdF4 (U : World) (g : Nat) (o1 : Obj) (ag k : Nat) (y : UInt8) : Prop where
  box : U.heap[g]? = some o1
  byt : U.cell? ⟨ag, k, none⟩ = some (.int .u8 (y.toNat : Int))
structure RdF9 (U : World) (g : Nat) (o1 : Obj) : Prop where
  box : U.heap[g]? = some o1
theorem blk_nextD {W W' : World} {g : Nat} {o : Obj} (h : W.heap[g]? = some o) (hb : Below W.heap.size W W') : W'.heap[g]? = some o := (hb.block _ (lt_of_heap h)).trans h
theorem dfs_grow {w U w9 : World} {d1 : DK} {lp1 tp1 : Option Addr} {ln1 lc1 tn1 tc1 m : Nat} {q : Option Addr} {dd : Nat} {X : B} {y : UInt8} {v' : Value} {o : Obj} (h : DFS w U d1 lp1 ln1 lc1 tp1 tn1 tc1 (.slice q m dd) X) (hnl : d1.line = [] ∧ d1.tr = []) (hm : X.length = m) (hgr : (U.alloc o).grownBy w9 (Value.slice q m dd).ownBlock) (hown : w9.ownsRow (w.heap.size + 2) 5 1 v' (m + 1) (Lib.byteCells X ++ [.int .u8 (y.toNat : Int)])) : DFS w w9 d1 lp1 ln1 lc1 tp1 tn1 tc1 v' (X ++ [y]) := by
  have hb : Below (w.heap.size + 2) (U.alloc o) w9 := Own.below (h.out.keep (below_new U o)) (Nat.le_trans h.two.sz (by simp)) hgr
  have hb0 : Below (w.heap.size + 2) U w9 := ((below_new U o).mono h.two.sz).trans hb
  refine ⟨h.two.next hb0, h.hl, h.ht, ?_, ?_⟩
  · obtain ⟨e1, e2⟩ := hnl
    refine ⟨fun i y hi => ?_, h.rows.lcap, h.rows.lnil, fun j f hj => ?_, h.rows.tnil, h.rows.g.next hb0.size⟩
    · rw [e1] at hi; simp at hi
    · rw [e2] at hj; simp at hj
  · unfold Own
    rw [List.length_append, hm, cells_app]
    exact hown
set_option maxRecDepth 20000 in
set_option maxHeartbeats 32000000 in
theorem dfeed_any (d : DK) (lp0 tp0 : Option Addr) (ln0 lc0 tn0 tc0 : Nat) (l : B) (p : Option Addr) (n c : Nat) (hn : l.length = n) (w : World) (hok : d.st ≤ 7 → OkD d) (h9 : d.st ≤ 9) (hnil : d.st ≤ 5 → d.line = [] ∧ d.tr = []) (hl0 : d.line.length = ln0) (ht0 : d.tr.length = tn0) (hA0 : DkAt w d lp0 lc0 tp0 tc0) (ha : ArgAt w p l) (hnl : n ≤ 140737488351232) :
    Calls Tryz.prog 34 #[.agg (dkC d (.slice lp0 ln0 lc0) (.slice tp0 tn0 tc0)), .slice p n c] w (DFed d l w) := by
  have HJ0 := hid (FedJ.start hok h9 hnil l)
  have HD0 := hid (DFS.start hl0 ht0 hA0)
  have HA := hid ha
  have HN := hid hn
  have HNl := hid hnl
  have HBl := hid (fun (W : World) (hb : Below w.heap.size w W) (i : Nat) (y : UInt8) (hy : l[i]? = some y) => (ha.next hb) i y hy)
  obtain ⟨i0, hi0, hz0, hz1, hz2⟩ := info_parts infoB
  unfold dkC
  clear ha hn hnl hok h9 hnil hl0 ht0 hA0
  go_enter Tryz.func34, Tryz.ntmps34
  go_wp2
  go_loopg [9, 10] (n + 1) (fun gk s9 s10 wr => ∃ (i : Nat) (di : DK) (lp : Option Addr) (ln lc : Nat) (tp : Option Addr) (tn tc : Nat) (X : B), s10 = .int .i64 (i : Int) ∧ i ≤ n ∧ gk = n - i + 1 ∧ FedJ d l i di X ∧ DFS w wr di lp ln lc tp tn tc s9 X)
  case atStart => exact ⟨0, d, lp0, ln0, lc0, tp0, tn0, tc0, [], rfl, by omega, rfl, HJ0.out, HD0.out⟩
  case round =>
    obtain ⟨i, di, lp, ln, lc, tp, tn, tc, X, rfl, hin, rfl, hj, hD⟩ := hrel
    rename World => wr
    obtain ⟨q, m, dd, rfl⟩ := own_slice3 hD.out
    have HXm := hid (slice_part hD.out)
    have Hml := hid (show m + 1 ≤ 140737488351233 from by have h5 := hj.len; have h6 := HXm.out; have h7 := HNl.out; omega)
    obtain ⟨most, len, st, e0, digits, size, more, line, bytes, tr, gh⟩ := di
    have HWi := hid (show wrap64 ((i : Int) + 1) = (i : Int) + 1 from by unfold wrap64; have h7 := HNl.out; omega)
    have HJ := hid hj
    have HD := hid hD
    have hb1 := hD.two.b1
    unfold dkC at hb1
    dsimp only at hb1
    obtain ⟨k0, k1, k2, k3, k4, k5, k6, k7, k8, k9, _⟩ := cells10 hb1
    have hst9 := hj.le
    dsimp only at hst9
    clear hj hD hb1
    by_cases hlt : i < n
    · obtain ⟨y, hy⟩ : ∃ y, l[i]? = some y := ⟨l[i]'(by rw [HN.out]; exact hlt), List.getElem?_eq_getElem (by rw [HN.out]; exact hlt)⟩
      have hltI : (i : Int) < (n : Int) := by omega
      by_cases h8 : st = 8
      · subst h8
        have hB8 : decide ((⟨most, len, 8, e0, digits, size, more, line, bytes, tr, gh⟩ : DK).st = 8) = true := rfl
        clear hy hst9
        go_wp2
        have HD1 := hid (show DFS w wr.drew ⟨most, len, 8, e0, digits, size, more, line, bytes, tr, gh⟩ lp ln lc tp tn tc (.slice q m dd) X from ⟨HD.out.two.next ⟨rfl, rfl, rfl, Nat.le_refl _, fun _ _ => rfl⟩, HD.out.hl, HD.out.ht, HD.out.rows.next ⟨rfl, rfl, rfl, Nat.le_refl _, fun _ _ => rfl⟩, HD.out.out.keep ⟨rfl, rfl, rfl, Nat.le_refl _, fun _ _ => rfl⟩⟩)
        generalize hW1 : wr.drew = W1 at HD1
        refine wp_region_noPanic ?_
        refine any_begin 13 (by kernel_rfl) (by kernel_rfl) ?_
        rw [hW1]
        clear hW1 k0 k1 k2 k3 k4 k5 k6 k7 k8 k9
        refine late_begin (fun U => RdF9 U w.heap.size (.cells #[.int .i64 (most : Int), .int .i64 (len : Int), .int .i64 8, .int .i64 (e0 : Int), .int .i64 (digits : Int), .int .i64 (size : Int), .int .i64 (more : Int), .slice lp ln lc, .int .i64 (bytes : Int), .slice tp tn tc] 35 (0, 0))) (fun _ => false) ⟨HD1.out.two.b1⟩ (fun hS => ?_)
        refine late_take (i := 0) (some 47) rfl rfl (by kernel_rfl) (by kernel_rfl) (by kernel_rfl) (by kernel_rfl) (by kernel_rfl) (fun _ _ _ h => h) (by rfl) (v := .agg #[.int .i64 (most : Int), .int .i64 (len : Int), .int .i64 8, .int .i64 (e0 : Int), .int .i64 (digits : Int), .int .i64 (size : Int), .int .i64 (more : Int), .slice lp ln lc, .int .i64 (bytes : Int), .slice tp tn tc]) ?hy0p hS ?rest0p
        case hy0p => intro w0 hSw; obtain ⟨a0, a1, a2, a3, a4, a5, a6, a7, a8, a9, _⟩ := cells10 hSw.box; go_simp; try with_reducible rfl
        simp only [Act.put, List.setIfInBounds_toArray, List.set_cons_zero, List.set_cons_succ]
        refine late_take (i := 1) (some 48) rfl rfl (by kernel_rfl) (by kernel_rfl) (by kernel_rfl) (by kernel_rfl) (by kernel_rfl) (fun _ _ _ h => h) (by rfl) (v := ?v1p) ?hy1p hS ?rest1p
        case hy1p => intro w0 hSw; obtain ⟨a0, a1, a2, a3, a4, a5, a6, a7, a8, a9, _⟩ := cells10 hSw.box; go_simp; try with_reducible rfl
        simp only [Act.put, List.setIfInBounds_toArray, List.set_cons_zero, List.set_cons_succ]
        refine late_take (i := 2) (some 49) rfl rfl (by kernel_rfl) (by kernel_rfl) (by kernel_rfl) (by kernel_rfl) (by kernel_rfl) (fun _ _ _ h => h) (by rfl) (v := ?v2p) ?hy2p hS ?rest2p
        case hy2p => intro w0 hSw; obtain ⟨a0, a1, a2, a3, a4, a5, a6, a7, a8, a9, _⟩ := cells10 hSw.box; go_simp; try with_reducible rfl
        simp only [Act.put, List.setIfInBounds_toArray, List.set_cons_zero, List.set_cons_succ]
        refine late_take (i := 3) (some 50) rfl rfl (by kernel_rfl) (by kernel_rfl) (by kernel_rfl) (by kernel_rfl) (by kernel_rfl) (fun _ _ _ h => h) (by rfl) (v := ?v3p) ?hy3p hS ?rest3p
        case hy3p => intro w0 hSw; obtain ⟨a0, a1, a2, a3, a4, a5, a6, a7, a8, a9, _⟩ := cells10 hSw.box; go_simp; try with_reducible rfl
        simp only [Act.put, List.setIfInBounds_toArray, List.set_cons_zero, List.set_cons_succ]
        refine late_take (i := 4) (some 51) rfl rfl (by kernel_rfl) (by kernel_rfl) (by kernel_rfl) (by kernel_rfl) (by kernel_rfl) (fun _ _ _ h => h) (by rfl) (v := ?v4p) ?hy4p hS ?rest4p
        case hy4p => intro w0 hSw; obtain ⟨a0, a1, a2, a3, a4, a5, a6, a7, a8, a9, _⟩ := cells10 hSw.box; go_simp; try with_reducible rfl
        simp only [Act.put, List.setIfInBounds_toArray, List.set_cons_zero, List.set_cons_succ]
        refine late_take (i := 5) (some 52) rfl rfl (by kernel_rfl) (by kernel_rfl) (by kernel_rfl) (by kernel_rfl) (by kernel_rfl) (fun _ _ _ h => h) (by rfl) (v := .bool true) ?hy5p hS ?rest5p
        case hy5p => intro w0 hSw; obtain ⟨a0, a1, a2, a3, a4, a5, a6, a7, a8, a9, _⟩ := cells10 hSw.box; go_simp; try with_reducible rfl
        simp only [Act.put, List.setIfInBounds_toArray, List.set_cons_zero, List.set_cons_succ]
        refine late_take (i := 6) (some 53) rfl rfl (by kernel_rfl) (by kernel_rfl) (by kernel_rfl) (by kernel_rfl) (by kernel_rfl) (fun _ _ _ h => h) (by rfl) (v := ?v6p) ?hy6p hS ?rest6p
        case hy6p => intro w0 hSw; obtain ⟨a0, a1, a2, a3, a4, a5, a6, a7, a8, a9, _⟩ := cells10 hSw.box; go_simp; try with_reducible rfl
        simp only [Act.put, List.setIfInBounds_toArray, List.set_cons_zero, List.set_cons_succ]
        refine late_take (i := 7) (some 54) rfl rfl (by kernel_rfl) (by kernel_rfl) (by kernel_rfl) (by kernel_rfl) (by kernel_rfl) (fun _ _ _ h => h) (by rfl) (v := ?v7p) ?hy7p hS ?rest7p
        case hy7p => intro w0 hSw; obtain ⟨a0, a1, a2, a3, a4, a5, a6, a7, a8, a9, _⟩ := cells10 hSw.box; go_simp; try with_reducible rfl
        simp only [Act.put, List.setIfInBounds_toArray, List.set_cons_zero, List.set_cons_succ]
        obtain ⟨x0, x1, x2, x3, x4, x5, x6, x7, x8, x9, xz⟩ := cells10 (show W1.heap[w.heap.size + 1]? = some (.cells #[.int .i64 0, .int .i64 0, .int .i64 0, .int .i64 0, .int .i64 0, .int .i64 0, .int .i64 0, .slice none 0 0, .int .i64 0, .slice none 0 0] 35 (0, 0)) from HD1.out.two.b2)
        have xz0 := xz 0
        have xz1 := xz 1
        have xz2 := xz 2
        have xz3 := xz 3
        have xz4 := xz 4
        have xz5 := xz 5
        have xz6 := xz 6
        have xz7 := xz 7
        have xz8 := xz 8
        have xz9 := xz 9
        refine wpAnyD_one (i := 8) (by kernel_rfl) rfl (fun K hK => ?_)
        go_simp
        have HF := hid (dfed_out (B8 := true) HD1.out (HJ.out.ends (.inl rfl)) hB8)
        have HP := hid (put10 (show W1.heap[w.heap.size + 1]? = some (.cells #[.int .i64 0, .int .i64 0, .int .i64 0, .int .i64 0, .int .i64 0, .int .i64 0, .int .i64 0, .slice none 0 0, .int .i64 0, .slice none 0 0] 35 (0, 0)) from HD1.out.two.b2) (.int .i64 (most : Int)) (.int .i64 (len : Int)) (.int .i64 8) (.int .i64 (e0 : Int)) (.int .i64 (digits : Int)) (.int .i64 (size : Int)) (.int .i64 (more : Int)) (.slice lp ln lc) (.int .i64 (bytes : Int)) (.slice tp tn tc))
        have HBx := hid ((only10 W1 (w.heap.size + 1) (.int .i64 (most : Int)) (.int .i64 (len : Int)) (.int .i64 8) (.int .i64 (e0 : Int)) (.int .i64 (digits : Int)) (.int .i64 (size : Int)) (.int .i64 (more : Int)) (.slice lp ln lc) (.int .i64 (bytes : Int)) (.slice tp tn tc)).block w.heap.size (by have := HD1.out.two.sz; omega) (fun e => by have e2 : w.heap.size = w.heap.size + 1 := e; omega))
        generalize hU9 : ((((((((((W1.setCell ⟨w.heap.size + 1, 0, none⟩ (.int .i64 (most : Int))).setCell ⟨w.heap.size + 1, 1, none⟩ (.int .i64 (len : Int))).setCell ⟨w.heap.size + 1, 2, none⟩ (.int .i64 8)).setCell ⟨w.heap.size + 1, 3, none⟩ (.int .i64 (e0 : Int))).setCell ⟨w.heap.size + 1, 4, none⟩ (.int .i64 (digits : Int))).setCell ⟨w.heap.size + 1, 5, none⟩ (.int .i64 (size : Int))).setCell ⟨w.heap.size + 1, 6, none⟩ (.int .i64 (more : Int))).setCell ⟨w.heap.size + 1, 7, none⟩ (.slice lp ln lc)).setCell ⟨w.heap.size + 1, 8, none⟩ (.int .i64 (bytes : Int))).setCell ⟨w.heap.size + 1, 9, none⟩ (.slice tp tn tc)) = U9 at HF HP HBx
        (try dsimp only at hU9)
        (try push_cast at hU9)
        (try rw [hU9])
        refine hK _ _ ⟨fun _ => ⟨HBx.out.trans HD1.out.two.b1⟩, ?_⟩
        have hS9 : RdF9 U9 w.heap.size (.cells #[.int .i64 (most : Int), .int .i64 (len : Int), .int .i64 8, .int .i64 (e0 : Int), .int .i64 (digits : Int), .int .i64 (size : Int), .int .i64 (more : Int), .slice lp ln lc, .int .i64 (bytes : Int), .slice tp tn tc] 35 (0, 0)) := ⟨HBx.out.trans HD1.out.two.b1⟩
        clear hK K x0 x1 x2 x3 x4 x5 x6 x7 x8 x9 xz xz0 xz1 xz2 xz3 xz4 xz5 xz6 xz7 xz8 xz9
        refine late_take (i := 9) (some 5) rfl rfl (by kernel_rfl) (by kernel_rfl) (by kernel_rfl) (by kernel_rfl) (by kernel_rfl) (fun _ _ _ h => h) (by rfl) (v := ?v9p) ?hy9p hS9 ?rest9p
        case hy9p => intro w0 hSw; obtain ⟨a0, a1, a2, a3, a4, a5, a6, a7, a8, a9, _⟩ := cells10 hSw.box; go_simp; try with_reducible rfl
        simp only [Act.put, List.setIfInBounds_toArray, List.set_cons_zero, List.set_cons_succ]
        refine late_take (i := 10) (some 6) rfl rfl (by kernel_rfl) (by kernel_rfl) (by kernel_rfl) (by kernel_rfl) (by kernel_rfl) (fun _ _ _ h => h) (by rfl) (v := ?v10p) ?hy10p hS9 ?rest10p
        case hy10p => intro w0 hSw; obtain ⟨a0, a1, a2, a3, a4, a5, a6, a7, a8, a9, _⟩ := cells10 hSw.box; go_simp; try with_reducible rfl
        simp only [Act.put, List.setIfInBounds_toArray, List.set_cons_zero, List.set_cons_succ]
        refine late_take (i := 11) (some 7) rfl rfl (by kernel_rfl) (by kernel_rfl) (by kernel_rfl) (by kernel_rfl) (by kernel_rfl) (fun _ _ _ h => h) (by rfl) (v := ?v11p) ?hy11p hS9 ?rest11p
        case hy11p => intro w0 hSw; obtain ⟨a0, a1, a2, a3, a4, a5, a6, a7, a8, a9, _⟩ := cells10 hSw.box; go_simp; try with_reducible rfl
        simp only [Act.put, List.setIfInBounds_toArray, List.set_cons_zero, List.set_cons_succ]
        refine late_take (i := 12) (some 8) rfl rfl (by kernel_rfl) (by kernel_rfl) (by kernel_rfl) (by kernel_rfl) (by kernel_rfl) (fun _ _ _ h => h) (by rfl) (v := ?v12p) ?hy12p hS9 ?rest12p
        case hy12p => intro w0 hSw; obtain ⟨a0, a1, a2, a3, a4, a5, a6, a7, a8, a9, _⟩ := cells10 hSw.box; go_simp; try with_reducible rfl
        simp only [Act.put, List.setIfInBounds_toArray, List.set_cons_zero, List.set_cons_succ]
        refine late_done (by kernel_rfl) ?_ _
        refine NoPanic.normal ?_
        go_wp2
        refine bodyPost_ret (results_dk5 rfl _ _ _ 35 _ (0, 0) rfl HP.out rfl) rfl ?_
        exact HF.out
      · by_cases h9 : st = 9
        · subst h9
          have hB8 : decide ((⟨most, len, 9, e0, digits, size, more, line, bytes, tr, gh⟩ : DK).st = 8) = false := rfl
          clear hy hst9
          go_wp2
          have HD1 := hid (show DFS w wr.drew ⟨most, len, 9, e0, digits, size, more, line, bytes, tr, gh⟩ lp ln lc tp tn tc (.slice q m dd) X from ⟨HD.out.two.next ⟨rfl, rfl, rfl, Nat.le_refl _, fun _ _ => rfl⟩, HD.out.hl, HD.out.ht, HD.out.rows.next ⟨rfl, rfl, rfl, Nat.le_refl _, fun _ _ => rfl⟩, HD.out.out.keep ⟨rfl, rfl, rfl, Nat.le_refl _, fun _ _ => rfl⟩⟩)
          generalize hW1 : wr.drew = W1 at HD1
          refine wp_region_noPanic ?_
          refine any_begin 13 (by kernel_rfl) (by kernel_rfl) ?_
          rw [hW1]
          clear hW1 k0 k1 k2 k3 k4 k5 k6 k7 k8 k9
          refine late_begin (fun U => RdF9 U w.heap.size (.cells #[.int .i64 (most : Int), .int .i64 (len : Int), .int .i64 9, .int .i64 (e0 : Int), .int .i64 (digits : Int), .int .i64 (size : Int), .int .i64 (more : Int), .slice lp ln lc, .int .i64 (bytes : Int), .slice tp tn tc] 35 (0, 0))) (fun _ => false) ⟨HD1.out.two.b1⟩ (fun hS => ?_)
          refine late_take (i := 0) (some 47) rfl rfl (by kernel_rfl) (by kernel_rfl) (by kernel_rfl) (by kernel_rfl) (by kernel_rfl) (fun _ _ _ h => h) (by rfl) (v := .agg #[.int .i64 (most : Int), .int .i64 (len : Int), .int .i64 9, .int .i64 (e0 : Int), .int .i64 (digits : Int), .int .i64 (size : Int), .int .i64 (more : Int), .slice lp ln lc, .int .i64 (bytes : Int), .slice tp tn tc]) ?hy0q hS ?rest0q
          case hy0q => intro w0 hSw; obtain ⟨a0, a1, a2, a3, a4, a5, a6, a7, a8, a9, _⟩ := cells10 hSw.box; go_simp; try with_reducible rfl
          simp only [Act.put, List.setIfInBounds_toArray, List.set_cons_zero, List.set_cons_succ]
          refine late_take (i := 1) (some 48) rfl rfl (by kernel_rfl) (by kernel_rfl) (by kernel_rfl) (by kernel_rfl) (by kernel_rfl) (fun _ _ _ h => h) (by rfl) (v := ?v1q) ?hy1q hS ?rest1q
          case hy1q => intro w0 hSw; obtain ⟨a0, a1, a2, a3, a4, a5, a6, a7, a8, a9, _⟩ := cells10 hSw.box; go_simp; try with_reducible rfl
          simp only [Act.put, List.setIfInBounds_toArray, List.set_cons_zero, List.set_cons_succ]
          refine late_take (i := 2) (some 49) rfl rfl (by kernel_rfl) (by kernel_rfl) (by kernel_rfl) (by kernel_rfl) (by kernel_rfl) (fun _ _ _ h => h) (by rfl) (v := ?v2q) ?hy2q hS ?rest2q
          case hy2q => intro w0 hSw; obtain ⟨a0, a1, a2, a3, a4, a5, a6, a7, a8, a9, _⟩ := cells10 hSw.box; go_simp; try with_reducible rfl
          simp only [Act.put, List.setIfInBounds_toArray, List.set_cons_zero, List.set_cons_succ]
          refine late_take (i := 3) (some 50) rfl rfl (by kernel_rfl) (by kernel_rfl) (by kernel_rfl) (by kernel_rfl) (by kernel_rfl) (fun _ _ _ h => h) (by rfl) (v := ?v3q) ?hy3q hS ?rest3q
          case hy3q => intro w0 hSw; obtain ⟨a0, a1, a2, a3, a4, a5, a6, a7, a8, a9, _⟩ := cells10 hSw.box; go_simp; try with_reducible rfl
          simp only [Act.put, List.setIfInBounds_toArray, List.set_cons_zero, List.set_cons_succ]
          refine late_take (i := 4) (some 51) rfl rfl (by kernel_rfl) (by kernel_rfl) (by kernel_rfl) (by kernel_rfl) (by kernel_rfl) (fun _ _ _ h => h) (by rfl) (v := ?v4q) ?hy4q hS ?rest4q
          case hy4q => intro w0 hSw; obtain ⟨a0, a1, a2, a3, a4, a5, a6, a7, a8, a9, _⟩ := cells10 hSw.box; go_simp; try with_reducible rfl
          simp only [Act.put, List.setIfInBounds_toArray, List.set_cons_zero, List.set_cons_succ]
          refine late_take (i := 5) (some 52) rfl rfl (by kernel_rfl) (by kernel_rfl) (by kernel_rfl) (by kernel_rfl) (by kernel_rfl) (fun _ _ _ h => h) (by rfl) (v := .bool false) ?hy5q hS ?rest5q
          case hy5q => intro w0 hSw; obtain ⟨a0, a1, a2, a3, a4, a5, a6, a7, a8, a9, _⟩ := cells10 hSw.box; go_simp; try with_reducible rfl
          simp only [Act.put, List.setIfInBounds_toArray, List.set_cons_zero, List.set_cons_succ]
          refine late_take (i := 6) (some 53) rfl rfl (by kernel_rfl) (by kernel_rfl) (by kernel_rfl) (by kernel_rfl) (by kernel_rfl) (fun _ _ _ h => h) (by rfl) (v := ?v6q) ?hy6q hS ?rest6q
          case hy6q => intro w0 hSw; obtain ⟨a0, a1, a2, a3, a4, a5, a6, a7, a8, a9, _⟩ := cells10 hSw.box; go_simp; try with_reducible rfl
          simp only [Act.put, List.setIfInBounds_toArray, List.set_cons_zero, List.set_cons_succ]
          refine late_take (i := 7) (some 54) rfl rfl (by kernel_rfl) (by kernel_rfl) (by kernel_rfl) (by kernel_rfl) (by kernel_rfl) (fun _ _ _ h => h) (by rfl) (v := ?v7q) ?hy7q hS ?rest7q
          case hy7q => intro w0 hSw; obtain ⟨a0, a1, a2, a3, a4, a5, a6, a7, a8, a9, _⟩ := cells10 hSw.box; go_simp; try with_reducible rfl
          simp only [Act.put, List.setIfInBounds_toArray, List.set_cons_zero, List.set_cons_succ]
          obtain ⟨x0, x1, x2, x3, x4, x5, x6, x7, x8, x9, xz⟩ := cells10 (show W1.heap[w.heap.size + 1]? = some (.cells #[.int .i64 0, .int .i64 0, .int .i64 0, .int .i64 0, .int .i64 0, .int .i64 0, .int .i64 0, .slice none 0 0, .int .i64 0, .slice none 0 0] 35 (0, 0)) from HD1.out.two.b2)
          have xz0 := xz 0
          have xz1 := xz 1
          have xz2 := xz 2
          have xz3 := xz 3
          have xz4 := xz 4
          have xz5 := xz 5
          have xz6 := xz 6
          have xz7 := xz 7
          have xz8 := xz 8
          have xz9 := xz 9
          refine wpAnyD_one (i := 8) (by kernel_rfl) rfl (fun K hK => ?_)
          go_simp
          have HF := hid (dfed_out (B8 := false) HD1.out (HJ.out.ends (.inr rfl)) hB8)
          have HP := hid (put10 (show W1.heap[w.heap.size + 1]? = some (.cells #[.int .i64 0, .int .i64 0, .int .i64 0, .int .i64 0, .int .i64 0, .int .i64 0, .int .i64 0, .slice none 0 0, .int .i64 0, .slice none 0 0] 35 (0, 0)) from HD1.out.two.b2) (.int .i64 (most : Int)) (.int .i64 (len : Int)) (.int .i64 9) (.int .i64 (e0 : Int)) (.int .i64 (digits : Int)) (.int .i64 (size : Int)) (.int .i64 (more : Int)) (.slice lp ln lc) (.int .i64 (bytes : Int)) (.slice tp tn tc))
          have HBx := hid ((only10 W1 (w.heap.size + 1) (.int .i64 (most : Int)) (.int .i64 (len : Int)) (.int .i64 9) (.int .i64 (e0 : Int)) (.int .i64 (digits : Int)) (.int .i64 (size : Int)) (.int .i64 (more : Int)) (.slice lp ln lc) (.int .i64 (bytes : Int)) (.slice tp tn tc)).block w.heap.size (by have := HD1.out.two.sz; omega) (fun e => by have e2 : w.heap.size = w.heap.size + 1 := e; omega))
          generalize hU9 : ((((((((((W1.setCell ⟨w.heap.size + 1, 0, none⟩ (.int .i64 (most : Int))).setCell ⟨w.heap.size + 1, 1, none⟩ (.int .i64 (len : Int))).setCell ⟨w.heap.size + 1, 2, none⟩ (.int .i64 9)).setCell ⟨w.heap.size + 1, 3, none⟩ (.int .i64 (e0 : Int))).setCell ⟨w.heap.size + 1, 4, none⟩ (.int .i64 (digits : Int))).setCell ⟨w.heap.size + 1, 5, none⟩ (.int .i64 (size : Int))).setCell ⟨w.heap.size + 1, 6, none⟩ (.int .i64 (more : Int))).setCell ⟨w.heap.size + 1, 7, none⟩ (.slice lp ln lc)).setCell ⟨w.heap.size + 1, 8, none⟩ (.int .i64 (bytes : Int))).setCell ⟨w.heap.size + 1, 9, none⟩ (.slice tp tn tc)) = U9 at HF HP HBx
          (try dsimp only at hU9)
          (try push_cast at hU9)
          (try rw [hU9])
          refine hK _ _ ⟨fun _ => ⟨HBx.out.trans HD1.out.two.b1⟩, ?_⟩
          have hS9 : RdF9 U9 w.heap.size (.cells #[.int .i64 (most : Int), .int .i64 (len : Int), .int .i64 9, .int .i64 (e0 : Int), .int .i64 (digits : Int), .int .i64 (size : Int), .int .i64 (more : Int), .slice lp ln lc, .int .i64 (bytes : Int), .slice tp tn tc] 35 (0, 0)) := ⟨HBx.out.trans HD1.out.two.b1⟩
          clear hK K x0 x1 x2 x3 x4 x5 x6 x7 x8 x9 xz xz0 xz1 xz2 xz3 xz4 xz5 xz6 xz7 xz8 xz9
          refine late_take (i := 9) (some 5) rfl rfl (by kernel_rfl) (by kernel_rfl) (by kernel_rfl) (by kernel_rfl) (by kernel_rfl) (fun _ _ _ h => h) (by rfl) (v := ?v9q) ?hy9q hS9 ?rest9q
          case hy9q => intro w0 hSw; obtain ⟨a0, a1, a2, a3, a4, a5, a6, a7, a8, a9, _⟩ := cells10 hSw.box; go_simp; try with_reducible rfl
          simp only [Act.put, List.setIfInBounds_toArray, List.set_cons_zero, List.set_cons_succ]
          refine late_take (i := 10) (some 6) rfl rfl (by kernel_rfl) (by kernel_rfl) (by kernel_rfl) (by kernel_rfl) (by kernel_rfl) (fun _ _ _ h => h) (by rfl) (v := ?v10q) ?hy10q hS9 ?rest10q
          case hy10q => intro w0 hSw; obtain ⟨a0, a1, a2, a3, a4, a5, a6, a7, a8, a9, _⟩ := cells10 hSw.box; go_simp; try with_reducible rfl
          simp only [Act.put, List.setIfInBounds_toArray, List.set_cons_zero, List.set_cons_succ]
          refine late_take (i := 11) (some 7) rfl rfl (by kernel_rfl) (by kernel_rfl) (by kernel_rfl) (by kernel_rfl) (by kernel_rfl) (fun _ _ _ h => h) (by rfl) (v := ?v11q) ?hy11q hS9 ?rest11q
          case hy11q => intro w0 hSw; obtain ⟨a0, a1, a2, a3, a4, a5, a6, a7, a8, a9, _⟩ := cells10 hSw.box; go_simp; try with_reducible rfl
          simp only [Act.put, List.setIfInBounds_toArray, List.set_cons_zero, List.set_cons_succ]
          refine late_take (i := 12) (some 8) rfl rfl (by kernel_rfl) (by kernel_rfl) (by kernel_rfl) (by kernel_rfl) (by kernel_rfl) (fun _ _ _ h => h) (by rfl) (v := ?v12q) ?hy12q hS9 ?rest12q
          case hy12q => intro w0 hSw; obtain ⟨a0, a1, a2, a3, a4, a5, a6, a7, a8, a9, _⟩ := cells10 hSw.box; go_simp; try with_reducible rfl
          simp only [Act.put, List.setIfInBounds_toArray, List.set_cons_zero, List.set_cons_succ]
          refine late_done (by kernel_rfl) ?_ _
          refine NoPanic.normal ?_
          go_wp2
          refine bodyPost_ret (results_dk5 rfl _ _ _ 35 _ (0, 0) rfl HP.out rfl) rfl ?_
          exact HF.out
        · have j8 : ((st : Int) != 8) = true := by simp; omega
          have j9 : ((st : Int) != 9) = true := by simp; omega
          obtain ⟨ag, ao, hap, hac0⟩ := HBl.out w (Below.refl _ _) i y hy
          have HBy := hid (fun (W : World) (hb : Below w.heap.size w W) => cell_keep hb hac0)
          subst hap
          have hac := HBy.out wr HD.out.two.low
          have hok := HJ.out.ok (show st ≤ 7 from by omega)
          have HSt := hid (fun (W : World) (hr : DkAt W ⟨most, len, st, e0, digits, size, more, line, bytes, tr, gh⟩ lp lc tp tc) => stepd_any ⟨most, len, st, e0, digits, size, more, line, bytes, tr, gh⟩ lp tp ln lc tn tc y W hok HD.out.hl HD.out.ht hr)
          have HJ2 := hid (HJ.out.step h8 h9 hy)
          unfold AnsS byteV dkC at HSt
          by_cases h3 : st = 3
          · subst h3
            have H35 := hid (stepD_3 (d := ⟨most, len, 3, e0, digits, size, more, line, bytes, tr, gh⟩) rfl y)
            rw [if_pos rfl] at HJ2
            rw [show decide ((⟨most, len, 3, e0, digits, size, more, line, bytes, tr, gh⟩ : DK).st = 3) = true from rfl] at HSt
            obtain ⟨d1, hd1⟩ : ∃ d1, stepD ⟨most, len, 3, e0, digits, size, more, line, bytes, tr, gh⟩ y = d1 := ⟨_, rfl⟩
            rw [hd1] at HSt HJ2 H35
            obtain ⟨mo1, le1, st1, e1, di1, si1, mr1, li1, by1, tr1, gh1⟩ := d1
            dsimp only at HSt
            have HNl := hid (HJ2.out.nil H35.out.1)
            clear hd1 hok hy hac0 HJ hst9 h8 h9 j8 j9 H35
            go_wp2
            have HS0 := hid (show RdF4 wr.drew w.heap.size (.cells #[.int .i64 (most : Int), .int .i64 (len : Int), .int .i64 3, .int .i64 (e0 : Int), .int .i64 (digits : Int), .int .i64 (size : Int), .int .i64 (more : Int), .slice lp ln lc, .int .i64 (bytes : Int), .slice tp tn tc] 35 (0, 0)) ag (ao + i) y from ⟨HD.out.two.b1, hac⟩)
            have HT1 := hid (show TwoAt w wr.drew (.cells #[.int .i64 (most : Int), .int .i64 (len : Int), .int .i64 3, .int .i64 (e0 : Int), .int .i64 (digits : Int), .int .i64 (size : Int), .int .i64 (more : Int), .slice lp ln lc, .int .i64 (bytes : Int), .slice tp tn tc] 35 (0, 0)) (.cells zzD 35 (0, 0)) from HD.out.two.next ⟨rfl, rfl, rfl, Nat.le_refl _, fun _ _ => rfl⟩)
            have HO1 := hid (show Own wr.drew (w.heap.size + 2) (.slice q m dd) X from HD.out.out.keep ⟨rfl, rfl, rfl, Nat.le_refl _, fun _ _ => rfl⟩)
            have HR1 := hid (show DkAt wr.drew ⟨most, len, 3, e0, digits, size, more, line, bytes, tr, gh⟩ lp lc tp tc from HD.out.rows.next ⟨rfl, rfl, rfl, Nat.le_refl _, fun _ _ => rfl⟩)
            generalize hW1 : wr.drew = W1 at HS0 HT1 HO1 HR1
            refine wp_region_noPanic ?_
            refine any_begin 12 (by kernel_rfl) (by kernel_rfl) ?_
            rw [hW1]
            clear hW1 hac
            refine late_begin (fun U => RdF4 U w.heap.size (.cells #[.int .i64 (most : Int), .int .i64 (len : Int), .int .i64 3, .int .i64 (e0 : Int), .int .i64 (digits : Int), .int .i64 (size : Int), .int .i64 (more : Int), .slice lp ln lc, .int .i64 (bytes : Int), .slice tp tn tc] 35 (0, 0)) ag (ao + i) y) (fun _ => false) HS0.out (fun hS => ?_)
            refine late_take (i := 0) (some 28) rfl rfl (by kernel_rfl) (by kernel_rfl) (by kernel_rfl) (by kernel_rfl) (by kernel_rfl) (fun _ _ _ h => h) (by rfl) (v := .agg #[.int .i64 (most : Int), .int .i64 (len : Int), .int .i64 3, .int .i64 (e0 : Int), .int .i64 (digits : Int), .int .i64 (size : Int), .int .i64 (more : Int), .slice lp ln lc, .int .i64 (bytes : Int), .slice tp tn tc]) ?hy0ay hS ?rest0ay
            case hy0ay => intro w0 hSw; obtain ⟨a0, a1, a2, a3, a4, a5, a6, a7, a8, a9, _⟩ := cells10 hSw.box; have ab := hSw.byt; go_simp; try with_reducible rfl
            simp only [Act.put, List.setIfInBounds_toArray, List.set_cons_zero, List.set_cons_succ]
            refine late_take (i := 1) (some 29) rfl rfl (by kernel_rfl) (by kernel_rfl) (by kernel_rfl) (by kernel_rfl) (by kernel_rfl) (fun _ _ _ h => h) (by rfl) (v := ?v1ay) ?hy1ay hS ?rest1ay
            case hy1ay => intro w0 hSw; obtain ⟨a0, a1, a2, a3, a4, a5, a6, a7, a8, a9, _⟩ := cells10 hSw.box; have ab := hSw.byt; go_simp; try with_reducible rfl
            simp only [Act.put, List.setIfInBounds_toArray, List.set_cons_zero, List.set_cons_succ]
            refine late_take (i := 2) (some 30) rfl rfl (by kernel_rfl) (by kernel_rfl) (by kernel_rfl) (by kernel_rfl) (by kernel_rfl) (fun _ _ _ h => h) (by rfl) (v := ?v2ay) ?hy2ay hS ?rest2ay
            case hy2ay => intro w0 hSw; obtain ⟨a0, a1, a2, a3, a4, a5, a6, a7, a8, a9, _⟩ := cells10 hSw.box; have ab := hSw.byt; go_simp; try with_reducible rfl
            simp only [Act.put, List.setIfInBounds_toArray, List.set_cons_zero, List.set_cons_succ]
            refine late_take (i := 3) (some 31) rfl rfl (by kernel_rfl) (by kernel_rfl) (by kernel_rfl) (by kernel_rfl) (by kernel_rfl) (fun _ _ _ h => h) (by rfl) (v := ?v3ay) ?hy3ay hS ?rest3ay
            case hy3ay => intro w0 hSw; obtain ⟨a0, a1, a2, a3, a4, a5, a6, a7, a8, a9, _⟩ := cells10 hSw.box; have ab := hSw.byt; go_simp; try with_reducible rfl
            simp only [Act.put, List.setIfInBounds_toArray, List.set_cons_zero, List.set_cons_succ]
            refine late_take (i := 4) (some 32) rfl rfl (by kernel_rfl) (by kernel_rfl) (by kernel_rfl) (by kernel_rfl) (by kernel_rfl) (fun _ _ _ h => h) (by rfl) (v := ?v4ay) ?hy4ay hS ?rest4ay
            case hy4ay => intro w0 hSw; obtain ⟨a0, a1, a2, a3, a4, a5, a6, a7, a8, a9, _⟩ := cells10 hSw.box; have ab := hSw.byt; go_simp; try with_reducible rfl
            simp only [Act.put, List.setIfInBounds_toArray, List.set_cons_zero, List.set_cons_succ]
            refine wpAnyD_twoD (i := 5) (j := 9) (by kernel_rfl) rfl rfl (fun K hK => ?_) (fun K hK => ?_)
            · skip
              go_simp
              go_at_call 71
              refine (HSt.out W1 HR1.out).mono ?_
              rintro e w2 ⟨lp1, ln1, lc1, tp1, tn1, tc1, rfl, hl1, ht1, hr1, hb1⟩
              have hS2 : RdF4 w2 w.heap.size (.cells #[.int .i64 (most : Int), .int .i64 (len : Int), .int .i64 3, .int .i64 (e0 : Int), .int .i64 (digits : Int), .int .i64 (size : Int), .int .i64 (more : Int), .slice lp ln lc, .int .i64 (bytes : Int), .slice tp tn tc] 35 (0, 0)) ag (ao + i) y := ⟨blk_nextD hS.box hb1, cell_keep hb1 hS.byt⟩
              refine hK _ _ ⟨fun _ => hS2, ?_⟩
              clear hK K
              refine late_take (i := 6) (some 27) rfl rfl (by kernel_rfl) (by kernel_rfl) (by kernel_rfl) (by kernel_rfl) (by kernel_rfl) (fun _ _ _ h => h) (by rfl) (v := ?v6by) ?hy6by hS2 ?rest6by
              case hy6by => intro w0 hSw; obtain ⟨a0, a1, a2, a3, a4, a5, a6, a7, a8, a9, _⟩ := cells10 hSw.box; have ab := hSw.byt; go_simp; try with_reducible rfl
              simp only [Act.put, List.setIfInBounds_toArray, List.set_cons_zero, List.set_cons_succ]
              refine late_take (i := 7) (some 34) rfl rfl (by kernel_rfl) (by kernel_rfl) (by kernel_rfl) (by kernel_rfl) (by kernel_rfl) (fun _ _ _ h => h) (by rfl) (v := ?v7by) ?hy7by hS2 ?rest7by
              case hy7by => intro w0 hSw; obtain ⟨a0, a1, a2, a3, a4, a5, a6, a7, a8, a9, _⟩ := cells10 hSw.box; have ab := hSw.byt; go_simp; try with_reducible rfl
              simp only [Act.put, List.setIfInBounds_toArray, List.set_cons_zero, List.set_cons_succ]
              refine late_take (i := 8) (some 35) rfl rfl (by kernel_rfl) (by kernel_rfl) (by kernel_rfl) (by kernel_rfl) (by kernel_rfl) (fun _ _ _ h => h) (by rfl) (v := ?v8by) ?hy8by hS2 ?rest8by
              case hy8by => intro w0 hSw; obtain ⟨a0, a1, a2, a3, a4, a5, a6, a7, a8, a9, _⟩ := cells10 hSw.box; have ab := hSw.byt; go_simp; try with_reducible rfl
              simp only [Act.put, List.setIfInBounds_toArray, List.set_cons_zero, List.set_cons_succ]
              refine wpAnyD_one (i := 9) (by kernel_rfl) rfl (fun K hK => ?_)
              go_simp
              have hS3 : RdF4 (w2.alloc (.cells #[.int .i64 0, .int .i64 0, .int .i64 0, .int .i64 0, .int .i64 0, .int .i64 0, .int .i64 0, .slice none 0 0, .int .i64 0, .slice none 0 0] 35 (0, 0))) w.heap.size (.cells #[.int .i64 (most : Int), .int .i64 (len : Int), .int .i64 3, .int .i64 (e0 : Int), .int .i64 (digits : Int), .int .i64 (size : Int), .int .i64 (more : Int), .slice lp ln lc, .int .i64 (bytes : Int), .slice tp tn tc] 35 (0, 0)) ag (ao + i) y := ⟨blk_nextD hS2.box (below_new _ _), cell_keep (below_new _ _) hS2.byt⟩
              refine hK _ _ ⟨fun _ => hS3, ?_⟩
              clear hK K
              refine wpAnyD_one (i := 10) (by kernel_rfl) rfl (fun K hK => ?_)
              go_simp
              have H4 := hid (df4_a (C := #[.int .i64 (mo1 : Int), .int .i64 (le1 : Int), .int .i64 (st1 : Int), .int .i64 (e1 : Int), .int .i64 (di1 : Int), .int .i64 (si1 : Int), .int .i64 (mr1 : Int), .slice lp1 ln1 lc1, .int .i64 (by1 : Int), .slice tp1 tn1 tc1]) HT1.out HO1.out hb1 hr1)
              have hS4 : RdF4 (w2.alloc (.cells #[.int .i64 (mo1 : Int), .int .i64 (le1 : Int), .int .i64 (st1 : Int), .int .i64 (e1 : Int), .int .i64 (di1 : Int), .int .i64 (si1 : Int), .int .i64 (mr1 : Int), .slice lp1 ln1 lc1, .int .i64 (by1 : Int), .slice tp1 tn1 tc1] 35 (0, 0))) w.heap.size (.cells #[.int .i64 (most : Int), .int .i64 (len : Int), .int .i64 3, .int .i64 (e0 : Int), .int .i64 (digits : Int), .int .i64 (size : Int), .int .i64 (more : Int), .slice lp ln lc, .int .i64 (bytes : Int), .slice tp tn tc] 35 (0, 0)) ag (ao + i) y := ⟨blk_nextD hS2.box (below_new _ _), cell_keep (below_new _ _) hS2.byt⟩
              refine hK _ _ ⟨fun _ => hS4, ?_⟩
              clear hK K
              refine late_take (i := 11) (some 12) rfl rfl (by kernel_rfl) (by kernel_rfl) (by kernel_rfl) (by kernel_rfl) (by kernel_rfl) (fun _ _ _ h => h) (by rfl) (v := ?v11by) ?hy11by hS4 ?rest11by
              case hy11by => intro w0 hSw; obtain ⟨a0, a1, a2, a3, a4, a5, a6, a7, a8, a9, _⟩ := cells10 hSw.box; have ab := hSw.byt; go_simp; try with_reducible rfl
              simp only [Act.put, List.setIfInBounds_toArray, List.set_cons_zero, List.set_cons_succ]
              refine late_done (by kernel_rfl) ?_ _
              refine NoPanic.normal ?_
              have HLn := hid hl1
              have HTn := hid ht1
              generalize hG : w2.heap.size = G at H4 ⊢
              generalize hU : w2.alloc (.cells #[.int .i64 (mo1 : Int), .int .i64 (le1 : Int), .int .i64 (st1 : Int), .int .i64 (e1 : Int), .int .i64 (di1 : Int), .int .i64 (si1 : Int), .int .i64 (mr1 : Int), .slice lp1 ln1 lc1, .int .i64 (by1 : Int), .slice tp1 tn1 tc1] 35 (0, 0)) = U at H4 ⊢
              clear hU hG hS hS2 hS3 hS4 HS0 hb1 hr1 hl1 ht1 HT1 HO1 HR1
              obtain ⟨n0, n1, n2, n3, n4, n5, n6, n7, n8, n9, _⟩ := cells10 H4.out.new
              go_wp2_with (first | (refine wpList_store_dk rfl (.tmp 2) (.tmp 36) rfl w.heap.size (by go_simp) (mo1 : Int) (le1 : Int) (st1 : Int) (e1 : Int) (di1 : Int) (si1 : Int) (mr1 : Int) (by1 : Int) lp1 tp1 ln1 tn1 lc1 tc1 (by go_simp) H4.out.two.b1 ?_; intro U5 hU5; have H5 := hid (show DFS w U5 ⟨mo1, le1, st1, e1, di1, si1, mr1, li1, by1, tr1, gh1⟩ lp1 ln1 lc1 tp1 tn1 tc1 (.slice q m dd) X from by rw [hU5]; exact df5 (d1 := ⟨mo1, le1, st1, e1, di1, si1, mr1, li1, by1, tr1, gh1⟩) H4.out HLn.out HTn.out); have hac5 := HBy.out U5 H5.out.two.low; clear hU5 n0 n1 n2 n3 n4 n5 n6 n7 n8 n9 H4) | (at_builtin; refine wpList_append_own_at _ rfl (.tmp 38) (.tmp 43) 32 rfl (w.heap.size + 2) 5 i0 _ 1 1 Tryz.underlying32 hi0 hz0 hz1 hz2 rfl (by decide) (.slice q m dd) m (Lib.byteCells X) (by go_simp) (by have h8 := H5.out.out.keep (below_new U5 (.cells #[.int .u8 (y.toNat : Int)] 5 (0, 0))); unfold Own at h8; rw [HXm.out] at h8; exact h8) ⟨U5.heap.size, 0, none⟩ 1 1 [.int .u8 (y.toNat : Int)] (by go_simp) rfl (cells_new U5 _ _) (by simp [Value.oneCell']) (by unfold maxLen; have := Hml.out; omega) (by have := Hml.out; omega) (Nat.le_trans H5.out.two.sz (by simp)) ?_; intro v' w9 hown hgr _ _; have H6 := hid (dfs_grow (y := y) (v' := v') H5.out HNl.out HXm.out hgr hown); obtain ⟨q6, c6, rfl⟩ := own_slice hown; clear hown hgr))
              go_roundg (n - (i + 1) + 1)
              case measure => omega
              case rel => exact ⟨i + 1, ⟨mo1, le1, st1, e1, di1, si1, mr1, li1, by1, tr1, gh1⟩, lp1, ln1, lc1, tp1, tn1, tc1, X ++ [y], by first | go_num | (rw [HWi.out]; push_cast; rfl), by omega, by omega, HJ2.out, H6.out⟩
            · skip
              go_simp
              have hS1 : RdF4 (W1.alloc (.cells zzD 35 (0, 0))) w.heap.size (.cells #[.int .i64 (most : Int), .int .i64 (len : Int), .int .i64 3, .int .i64 (e0 : Int), .int .i64 (digits : Int), .int .i64 (size : Int), .int .i64 (more : Int), .slice lp ln lc, .int .i64 (bytes : Int), .slice tp tn tc] 35 (0, 0)) ag (ao + i) y := ⟨blk_nextD hS.box (below_new _ _), cell_keep (below_new _ _) hS.byt⟩
              refine hK _ _ ⟨fun _ => hS1, ?_⟩
              clear hK K
              refine wpAnyD_one (i := 5) (by kernel_rfl) rfl (fun K hK => ?_)
              go_simp
              go_at_call 71
              refine (HSt.out _ (HR1.out.next (below_new W1 (.cells zzD 35 (0, 0))))).mono ?_
              rintro e w2 ⟨lp1, ln1, lc1, tp1, tn1, tc1, rfl, hl1, ht1, hr1, hb1⟩
              have hS2 : RdF4 w2 w.heap.size (.cells #[.int .i64 (most : Int), .int .i64 (len : Int), .int .i64 3, .int .i64 (e0 : Int), .int .i64 (digits : Int), .int .i64 (size : Int), .int .i64 (more : Int), .slice lp ln lc, .int .i64 (bytes : Int), .slice tp tn tc] 35 (0, 0)) ag (ao + i) y := ⟨blk_nextD hS1.box hb1, cell_keep hb1 hS1.byt⟩
              refine hK _ _ ⟨fun _ => hS2, ?_⟩
              clear hK K
              refine late_take (i := 6) (some 27) rfl rfl (by kernel_rfl) (by kernel_rfl) (by kernel_rfl) (by kernel_rfl) (by kernel_rfl) (fun _ _ _ h => h) (by rfl) (v := ?v6cy) ?hy6cy hS2 ?rest6cy
              case hy6cy => intro w0 hSw; obtain ⟨a0, a1, a2, a3, a4, a5, a6, a7, a8, a9, _⟩ := cells10 hSw.box; have ab := hSw.byt; go_simp; try with_reducible rfl
              simp only [Act.put, List.setIfInBounds_toArray, List.set_cons_zero, List.set_cons_succ]
              refine late_take (i := 7) (some 34) rfl rfl (by kernel_rfl) (by kernel_rfl) (by kernel_rfl) (by kernel_rfl) (by kernel_rfl) (fun _ _ _ h => h) (by rfl) (v := ?v7cy) ?hy7cy hS2 ?rest7cy
              case hy7cy => intro w0 hSw; obtain ⟨a0, a1, a2, a3, a4, a5, a6, a7, a8, a9, _⟩ := cells10 hSw.box; have ab := hSw.byt; go_simp; try with_reducible rfl
              simp only [Act.put, List.setIfInBounds_toArray, List.set_cons_zero, List.set_cons_succ]
              refine late_take (i := 8) (some 35) rfl rfl (by kernel_rfl) (by kernel_rfl) (by kernel_rfl) (by kernel_rfl) (by kernel_rfl) (fun _ _ _ h => h) (by rfl) (v := ?v8cy) ?hy8cy hS2 ?rest8cy
              case hy8cy => intro w0 hSw; obtain ⟨a0, a1, a2, a3, a4, a5, a6, a7, a8, a9, _⟩ := cells10 hSw.box; have ab := hSw.byt; go_simp; try with_reducible rfl
              simp only [Act.put, List.setIfInBounds_toArray, List.set_cons_zero, List.set_cons_succ]
              have hz : w2.heap[W1.heap.size]? = some (.cells #[.int .i64 0, .int .i64 0, .int .i64 0, .int .i64 0, .int .i64 0, .int .i64 0, .int .i64 0, .slice none 0 0, .int .i64 0, .slice none 0 0] 35 (0, 0)) := (hb1.block _ (by simp)).trans (heap_alloc_new W1 _)
              obtain ⟨x0, x1, x2, x3, x4, x5, x6, x7, x8, x9, xz⟩ := cells10 hz
              have xz0 := xz 0
              have xz1 := xz 1
              have xz2 := xz 2
              have xz3 := xz 3
              have xz4 := xz 4
              have xz5 := xz 5
              have xz6 := xz 6
              have xz7 := xz 7
              have xz8 := xz 8
              have xz9 := xz 9
              refine wpAnyD_one (i := 10) (by kernel_rfl) rfl (fun K hK => ?_)
              go_simp
              have H4 := hid (df4_b (.int .i64 (mo1 : Int)) (.int .i64 (le1 : Int)) (.int .i64 (st1 : Int)) (.int .i64 (e1 : Int)) (.int .i64 (di1 : Int)) (.int .i64 (si1 : Int)) (.int .i64 (mr1 : Int)) (.slice lp1 ln1 lc1) (.int .i64 (by1 : Int)) (.slice tp1 tn1 tc1) HT1.out HO1.out hb1 hr1)
              have hS4 : RdF4 ((((((((((w2.setCell ⟨W1.heap.size, 0, none⟩ (.int .i64 (mo1 : Int))).setCell ⟨W1.heap.size, 1, none⟩ (.int .i64 (le1 : Int))).setCell ⟨W1.heap.size, 2, none⟩ (.int .i64 (st1 : Int))).setCell ⟨W1.heap.size, 3, none⟩ (.int .i64 (e1 : Int))).setCell ⟨W1.heap.size, 4, none⟩ (.int .i64 (di1 : Int))).setCell ⟨W1.heap.size, 5, none⟩ (.int .i64 (si1 : Int))).setCell ⟨W1.heap.size, 6, none⟩ (.int .i64 (mr1 : Int))).setCell ⟨W1.heap.size, 7, none⟩ (.slice lp1 ln1 lc1)).setCell ⟨W1.heap.size, 8, none⟩ (.int .i64 (by1 : Int))).setCell ⟨W1.heap.size, 9, none⟩ (.slice tp1 tn1 tc1)) w.heap.size (.cells #[.int .i64 (most : Int), .int .i64 (len : Int), .int .i64 3, .int .i64 (e0 : Int), .int .i64 (digits : Int), .int .i64 (size : Int), .int .i64 (more : Int), .slice lp ln lc, .int .i64 (bytes : Int), .slice tp tn tc] 35 (0, 0)) ag (ao + i) y := ⟨H4.out.two.b1, cell_only (only10 _ _ _ _ _ _ _ _ _ _ _ _) (fun e => by have e2 : ag = W1.heap.size := e; have h7 := lt_of_cell HS0.out.byt; omega) hS2.byt⟩
              refine hK _ _ ⟨fun _ => hS4, ?_⟩
              clear hK K x0 x1 x2 x3 x4 x5 x6 x7 x8 x9 xz xz0 xz1 xz2 xz3 xz4 xz5 xz6 xz7 xz8 xz9
              refine late_take (i := 11) (some 12) rfl rfl (by kernel_rfl) (by kernel_rfl) (by kernel_rfl) (by kernel_rfl) (by kernel_rfl) (fun _ _ _ h => h) (by rfl) (v := ?v11cy) ?hy11cy hS4 ?rest11cy
              case hy11cy => intro w0 hSw; obtain ⟨a0, a1, a2, a3, a4, a5, a6, a7, a8, a9, _⟩ := cells10 hSw.box; have ab := hSw.byt; go_simp; try with_reducible rfl
              simp only [Act.put, List.setIfInBounds_toArray, List.set_cons_zero, List.set_cons_succ]
              refine late_done (by kernel_rfl) ?_ _
              refine NoPanic.normal ?_
              have HLn := hid hl1
              have HTn := hid ht1
              generalize hG : W1.heap.size = G at H4 ⊢
              generalize hU : ((((((((((w2.setCell ⟨G, 0, none⟩ (.int .i64 (mo1 : Int))).setCell ⟨G, 1, none⟩ (.int .i64 (le1 : Int))).setCell ⟨G, 2, none⟩ (.int .i64 (st1 : Int))).setCell ⟨G, 3, none⟩ (.int .i64 (e1 : Int))).setCell ⟨G, 4, none⟩ (.int .i64 (di1 : Int))).setCell ⟨G, 5, none⟩ (.int .i64 (si1 : Int))).setCell ⟨G, 6, none⟩ (.int .i64 (mr1 : Int))).setCell ⟨G, 7, none⟩ (.slice lp1 ln1 lc1)).setCell ⟨G, 8, none⟩ (.int .i64 (by1 : Int))).setCell ⟨G, 9, none⟩ (.slice tp1 tn1 tc1)) = U at H4 ⊢
              clear hU hG hS hS1 hS2 hS4 HS0 hb1 hr1 hl1 ht1 hz HT1 HO1 HR1
              obtain ⟨n0, n1, n2, n3, n4, n5, n6, n7, n8, n9, _⟩ := cells10 H4.out.new
              go_wp2_with (first | (refine wpList_store_dk rfl (.tmp 2) (.tmp 36) rfl w.heap.size (by go_simp) (mo1 : Int) (le1 : Int) (st1 : Int) (e1 : Int) (di1 : Int) (si1 : Int) (mr1 : Int) (by1 : Int) lp1 tp1 ln1 tn1 lc1 tc1 (by go_simp) H4.out.two.b1 ?_; intro U5 hU5; have H5 := hid (show DFS w U5 ⟨mo1, le1, st1, e1, di1, si1, mr1, li1, by1, tr1, gh1⟩ lp1 ln1 lc1 tp1 tn1 tc1 (.slice q m dd) X from by rw [hU5]; exact df5 (d1 := ⟨mo1, le1, st1, e1, di1, si1, mr1, li1, by1, tr1, gh1⟩) H4.out HLn.out HTn.out); have hac5 := HBy.out U5 H5.out.two.low; clear hU5 n0 n1 n2 n3 n4 n5 n6 n7 n8 n9 H4) | (at_builtin; refine wpList_append_own_at _ rfl (.tmp 38) (.tmp 43) 32 rfl (w.heap.size + 2) 5 i0 _ 1 1 Tryz.underlying32 hi0 hz0 hz1 hz2 rfl (by decide) (.slice q m dd) m (Lib.byteCells X) (by go_simp) (by have h8 := H5.out.out.keep (below_new U5 (.cells #[.int .u8 (y.toNat : Int)] 5 (0, 0))); unfold Own at h8; rw [HXm.out] at h8; exact h8) ⟨U5.heap.size, 0, none⟩ 1 1 [.int .u8 (y.toNat : Int)] (by go_simp) rfl (cells_new U5 _ _) (by simp [Value.oneCell']) (by unfold maxLen; have := Hml.out; omega) (by have := Hml.out; omega) (Nat.le_trans H5.out.two.sz (by simp)) ?_; intro v' w9 hown hgr _ _; have H6 := hid (dfs_grow (y := y) (v' := v') H5.out HNl.out HXm.out hgr hown); obtain ⟨q6, c6, rfl⟩ := own_slice hown; clear hown hgr))
              go_roundg (n - (i + 1) + 1)
              case measure => omega
              case rel => exact ⟨i + 1, ⟨mo1, le1, st1, e1, di1, si1, mr1, li1, by1, tr1, gh1⟩, lp1, ln1, lc1, tp1, tn1, tc1, X ++ [y], by first | go_num | (rw [HWi.out]; push_cast; rfl), by omega, by omega, HJ2.out, H6.out⟩
          · rw [if_neg h3, List.append_nil] at HJ2
            rw [show decide ((⟨most, len, st, e0, digits, size, more, line, bytes, tr, gh⟩ : DK).st = 3) = false from decide_eq_false h3] at HSt
            obtain ⟨d1, hd1⟩ : ∃ d1, stepD ⟨most, len, st, e0, digits, size, more, line, bytes, tr, gh⟩ y = d1 := ⟨_, rfl⟩
            rw [hd1] at HSt HJ2
            obtain ⟨mo1, le1, st1, e1, di1, si1, mr1, li1, by1, tr1, gh1⟩ := d1
            dsimp only at HSt
            clear hd1 hok hy hac0 HJ hst9 h8 h9 h3
            go_wp2
            have HS0 := hid (show RdF4 wr.drew w.heap.size (.cells #[.int .i64 (most : Int), .int .i64 (len : Int), .int .i64 (st : Int), .int .i64 (e0 : Int), .int .i64 (digits : Int), .int .i64 (size : Int), .int .i64 (more : Int), .slice lp ln lc, .int .i64 (bytes : Int), .slice tp tn tc] 35 (0, 0)) ag (ao + i) y from ⟨HD.out.two.b1, hac⟩)
            have HT1 := hid (show TwoAt w wr.drew (.cells #[.int .i64 (most : Int), .int .i64 (len : Int), .int .i64 (st : Int), .int .i64 (e0 : Int), .int .i64 (digits : Int), .int .i64 (size : Int), .int .i64 (more : Int), .slice lp ln lc, .int .i64 (bytes : Int), .slice tp tn tc] 35 (0, 0)) (.cells zzD 35 (0, 0)) from HD.out.two.next ⟨rfl, rfl, rfl, Nat.le_refl _, fun _ _ => rfl⟩)
            have HO1 := hid (show Own wr.drew (w.heap.size + 2) (.slice q m dd) X from HD.out.out.keep ⟨rfl, rfl, rfl, Nat.le_refl _, fun _ _ => rfl⟩)
            have HR1 := hid (show DkAt wr.drew ⟨most, len, st, e0, digits, size, more, line, bytes, tr, gh⟩ lp lc tp tc from HD.out.rows.next ⟨rfl, rfl, rfl, Nat.le_refl _, fun _ _ => rfl⟩)
            generalize hW1 : wr.drew = W1 at HS0 HT1 HO1 HR1
            refine wp_region_noPanic ?_
            refine any_begin 12 (by kernel_rfl) (by kernel_rfl) ?_
            rw [hW1]
            clear hW1 hac
            refine late_begin (fun U => RdF4 U w.heap.size (.cells #[.int .i64 (most : Int), .int .i64 (len : Int), .int .i64 (st : Int), .int .i64 (e0 : Int), .int .i64 (digits : Int), .int .i64 (size : Int), .int .i64 (more : Int), .slice lp ln lc, .int .i64 (bytes : Int), .slice tp tn tc] 35 (0, 0)) ag (ao + i) y) (fun _ => false) HS0.out (fun hS => ?_)
            refine late_take (i := 0) (some 28) rfl rfl (by kernel_rfl) (by kernel_rfl) (by kernel_rfl) (by kernel_rfl) (by kernel_rfl) (fun _ _ _ h => h) (by rfl) (v := .agg #[.int .i64 (most : Int), .int .i64 (len : Int), .int .i64 (st : Int), .int .i64 (e0 : Int), .int .i64 (digits : Int), .int .i64 (size : Int), .int .i64 (more : Int), .slice lp ln lc, .int .i64 (bytes : Int), .slice tp tn tc]) ?hy0an hS ?rest0an
            case hy0an => intro w0 hSw; obtain ⟨a0, a1, a2, a3, a4, a5, a6, a7, a8, a9, _⟩ := cells10 hSw.box; have ab := hSw.byt; go_simp; try with_reducible rfl
            simp only [Act.put, List.setIfInBounds_toArray, List.set_cons_zero, List.set_cons_succ]
            refine late_take (i := 1) (some 29) rfl rfl (by kernel_rfl) (by kernel_rfl) (by kernel_rfl) (by kernel_rfl) (by kernel_rfl) (fun _ _ _ h => h) (by rfl) (v := ?v1an) ?hy1an hS ?rest1an
            case hy1an => intro w0 hSw; obtain ⟨a0, a1, a2, a3, a4, a5, a6, a7, a8, a9, _⟩ := cells10 hSw.box; have ab := hSw.byt; go_simp; try with_reducible rfl
            simp only [Act.put, List.setIfInBounds_toArray, List.set_cons_zero, List.set_cons_succ]
            refine late_take (i := 2) (some 30) rfl rfl (by kernel_rfl) (by kernel_rfl) (by kernel_rfl) (by kernel_rfl) (by kernel_rfl) (fun _ _ _ h => h) (by rfl) (v := ?v2an) ?hy2an hS ?rest2an
            case hy2an => intro w0 hSw; obtain ⟨a0, a1, a2, a3, a4, a5, a6, a7, a8, a9, _⟩ := cells10 hSw.box; have ab := hSw.byt; go_simp; try with_reducible rfl
            simp only [Act.put, List.setIfInBounds_toArray, List.set_cons_zero, List.set_cons_succ]
            refine late_take (i := 3) (some 31) rfl rfl (by kernel_rfl) (by kernel_rfl) (by kernel_rfl) (by kernel_rfl) (by kernel_rfl) (fun _ _ _ h => h) (by rfl) (v := ?v3an) ?hy3an hS ?rest3an
            case hy3an => intro w0 hSw; obtain ⟨a0, a1, a2, a3, a4, a5, a6, a7, a8, a9, _⟩ := cells10 hSw.box; have ab := hSw.byt; go_simp; try with_reducible rfl
            simp only [Act.put, List.setIfInBounds_toArray, List.set_cons_zero, List.set_cons_succ]
            refine late_take (i := 4) (some 32) rfl rfl (by kernel_rfl) (by kernel_rfl) (by kernel_rfl) (by kernel_rfl) (by kernel_rfl) (fun _ _ _ h => h) (by rfl) (v := ?v4an) ?hy4an hS ?rest4an
            case hy4an => intro w0 hSw; obtain ⟨a0, a1, a2, a3, a4, a5, a6, a7, a8, a9, _⟩ := cells10 hSw.box; have ab := hSw.byt; go_simp; try with_reducible rfl
            simp only [Act.put, List.setIfInBounds_toArray, List.set_cons_zero, List.set_cons_succ]
            refine wpAnyD_twoD (i := 5) (j := 9) (by kernel_rfl) rfl rfl (fun K hK => ?_) (fun K hK => ?_)
            · skip
              go_simp
              go_at_call 71
              refine (HSt.out W1 HR1.out).mono ?_
              rintro e w2 ⟨lp1, ln1, lc1, tp1, tn1, tc1, rfl, hl1, ht1, hr1, hb1⟩
              have hS2 : RdF4 w2 w.heap.size (.cells #[.int .i64 (most : Int), .int .i64 (len : Int), .int .i64 (st : Int), .int .i64 (e0 : Int), .int .i64 (digits : Int), .int .i64 (size : Int), .int .i64 (more : Int), .slice lp ln lc, .int .i64 (bytes : Int), .slice tp tn tc] 35 (0, 0)) ag (ao + i) y := ⟨blk_nextD hS.box hb1, cell_keep hb1 hS.byt⟩
              refine hK _ _ ⟨fun _ => hS2, ?_⟩
              clear hK K
              refine late_take (i := 6) (some 27) rfl rfl (by kernel_rfl) (by kernel_rfl) (by kernel_rfl) (by kernel_rfl) (by kernel_rfl) (fun _ _ _ h => h) (by rfl) (v := ?v6bn) ?hy6bn hS2 ?rest6bn
              case hy6bn => intro w0 hSw; obtain ⟨a0, a1, a2, a3, a4, a5, a6, a7, a8, a9, _⟩ := cells10 hSw.box; have ab := hSw.byt; go_simp; try with_reducible rfl
              simp only [Act.put, List.setIfInBounds_toArray, List.set_cons_zero, List.set_cons_succ]
              refine late_take (i := 7) (some 34) rfl rfl (by kernel_rfl) (by kernel_rfl) (by kernel_rfl) (by kernel_rfl) (by kernel_rfl) (fun _ _ _ h => h) (by rfl) (v := ?v7bn) ?hy7bn hS2 ?rest7bn
              case hy7bn => intro w0 hSw; obtain ⟨a0, a1, a2, a3, a4, a5, a6, a7, a8, a9, _⟩ := cells10 hSw.box; have ab := hSw.byt; go_simp; try with_reducible rfl
              simp only [Act.put, List.setIfInBounds_toArray, List.set_cons_zero, List.set_cons_succ]
              refine late_take (i := 8) (some 35) rfl rfl (by kernel_rfl) (by kernel_rfl) (by kernel_rfl) (by kernel_rfl) (by kernel_rfl) (fun _ _ _ h => h) (by rfl) (v := ?v8bn) ?hy8bn hS2 ?rest8bn
              case hy8bn => intro w0 hSw; obtain ⟨a0, a1, a2, a3, a4, a5, a6, a7, a8, a9, _⟩ := cells10 hSw.box; have ab := hSw.byt; go_simp; try with_reducible rfl
              simp only [Act.put, List.setIfInBounds_toArray, List.set_cons_zero, List.set_cons_succ]
              refine wpAnyD_one (i := 9) (by kernel_rfl) rfl (fun K hK => ?_)
              go_simp
              have hS3 : RdF4 (w2.alloc (.cells #[.int .i64 0, .int .i64 0, .int .i64 0, .int .i64 0, .int .i64 0, .int .i64 0, .int .i64 0, .slice none 0 0, .int .i64 0, .slice none 0 0] 35 (0, 0))) w.heap.size (.cells #[.int .i64 (most : Int), .int .i64 (len : Int), .int .i64 (st : Int), .int .i64 (e0 : Int), .int .i64 (digits : Int), .int .i64 (size : Int), .int .i64 (more : Int), .slice lp ln lc, .int .i64 (bytes : Int), .slice tp tn tc] 35 (0, 0)) ag (ao + i) y := ⟨blk_nextD hS2.box (below_new _ _), cell_keep (below_new _ _) hS2.byt⟩
              refine hK _ _ ⟨fun _ => hS3, ?_⟩
              clear hK K
              refine wpAnyD_one (i := 10) (by kernel_rfl) rfl (fun K hK => ?_)
              go_simp
              have H4 := hid (df4_a (C := #[.int .i64 (mo1 : Int), .int .i64 (le1 : Int), .int .i64 (st1 : Int), .int .i64 (e1 : Int), .int .i64 (di1 : Int), .int .i64 (si1 : Int), .int .i64 (mr1 : Int), .slice lp1 ln1 lc1, .int .i64 (by1 : Int), .slice tp1 tn1 tc1]) HT1.out HO1.out hb1 hr1)
              have hS4 : RdF4 (w2.alloc (.cells #[.int .i64 (mo1 : Int), .int .i64 (le1 : Int), .int .i64 (st1 : Int), .int .i64 (e1 : Int), .int .i64 (di1 : Int), .int .i64 (si1 : Int), .int .i64 (mr1 : Int), .slice lp1 ln1 lc1, .int .i64 (by1 : Int), .slice tp1 tn1 tc1] 35 (0, 0))) w.heap.size (.cells #[.int .i64 (most : Int), .int .i64 (len : Int), .int .i64 (st : Int), .int .i64 (e0 : Int), .int .i64 (digits : Int), .int .i64 (size : Int), .int .i64 (more : Int), .slice lp ln lc, .int .i64 (bytes : Int), .slice tp tn tc] 35 (0, 0)) ag (ao + i) y := ⟨blk_nextD hS2.box (below_new _ _), cell_keep (below_new _ _) hS2.byt⟩
              refine hK _ _ ⟨fun _ => hS4, ?_⟩
              clear hK K
              refine late_take (i := 11) (some 12) rfl rfl (by kernel_rfl) (by kernel_rfl) (by kernel_rfl) (by kernel_rfl) (by kernel_rfl) (fun _ _ _ h => h) (by rfl) (v := ?v11bn) ?hy11bn hS4 ?rest11bn
              case hy11bn => intro w0 hSw; obtain ⟨a0, a1, a2, a3, a4, a5, a6, a7, a8, a9, _⟩ := cells10 hSw.box; have ab := hSw.byt; go_simp; try with_reducible rfl
              simp only [Act.put, List.setIfInBounds_toArray, List.set_cons_zero, List.set_cons_succ]
              refine late_done (by kernel_rfl) ?_ _
              refine NoPanic.normal ?_
              have HLn := hid hl1
              have HTn := hid ht1
              generalize hG : w2.heap.size = G at H4 ⊢
              generalize hU : w2.alloc (.cells #[.int .i64 (mo1 : Int), .int .i64 (le1 : Int), .int .i64 (st1 : Int), .int .i64 (e1 : Int), .int .i64 (di1 : Int), .int .i64 (si1 : Int), .int .i64 (mr1 : Int), .slice lp1 ln1 lc1, .int .i64 (by1 : Int), .slice tp1 tn1 tc1] 35 (0, 0)) = U at H4 ⊢
              clear hU hG hS hS2 hS3 hS4 HS0 hb1 hr1 hl1 ht1 HT1 HO1 HR1
              obtain ⟨n0, n1, n2, n3, n4, n5, n6, n7, n8, n9, _⟩ := cells10 H4.out.new
              go_wp2_with (refine wpList_store_dk rfl (.tmp 2) (.tmp 36) rfl w.heap.size (by go_simp) (mo1 : Int) (le1 : Int) (st1 : Int) (e1 : Int) (di1 : Int) (si1 : Int) (mr1 : Int) (by1 : Int) lp1 tp1 ln1 tn1 lc1 tc1 (by go_simp) H4.out.two.b1 ?_; intro U5 hU5; have H5 := hid (show DFS w U5 ⟨mo1, le1, st1, e1, di1, si1, mr1, li1, by1, tr1, gh1⟩ lp1 ln1 lc1 tp1 tn1 tc1 (.slice q m dd) X from by rw [hU5]; exact df5 (d1 := ⟨mo1, le1, st1, e1, di1, si1, mr1, li1, by1, tr1, gh1⟩) H4.out HLn.out HTn.out); clear hU5 n0 n1 n2 n3 n4 n5 n6 n7 n8 n9 H4)
              go_roundg (n - (i + 1) + 1)
              case measure => omega
              case rel => exact ⟨i + 1, ⟨mo1, le1, st1, e1, di1, si1, mr1, li1, by1, tr1, gh1⟩, lp1, ln1, lc1, tp1, tn1, tc1, X, by first | go_num | (rw [HWi.out]; push_cast; rfl), by omega, by omega, HJ2.out, H5.out⟩
            · skip
              go_simp
              have hS1 : RdF4 (W1.alloc (.cells zzD 35 (0, 0))) w.heap.size (.cells #[.int .i64 (most : Int), .int .i64 (len : Int), .int .i64 (st : Int), .int .i64 (e0 : Int), .int .i64 (digits : Int), .int .i64 (size : Int), .int .i64 (more : Int), .slice lp ln lc, .int .i64 (bytes : Int), .slice tp tn tc] 35 (0, 0)) ag (ao + i) y := ⟨blk_nextD hS.box (below_new _ _), cell_keep (below_new _ _) hS.byt⟩
              refine hK _ _ ⟨fun _ => hS1, ?_⟩
              clear hK K
              refine wpAnyD_one (i := 5) (by kernel_rfl) rfl (fun K hK => ?_)
              go_simp
              go_at_call 71
              refine (HSt.out _ (HR1.out.next (below_new W1 (.cells zzD 35 (0, 0))))).mono ?_
              rintro e w2 ⟨lp1, ln1, lc1, tp1, tn1, tc1, rfl, hl1, ht1, hr1, hb1⟩
              have hS2 : RdF4 w2 w.heap.size (.cells #[.int .i64 (most : Int), .int .i64 (len : Int), .int .i64 (st : Int), .int .i64 (e0 : Int), .int .i64 (digits : Int), .int .i64 (size : Int), .int .i64 (more : Int), .slice lp ln lc, .int .i64 (bytes : Int), .slice tp tn tc] 35 (0, 0)) ag (ao + i) y := ⟨blk_nextD hS1.box hb1, cell_keep hb1 hS1.byt⟩
              refine hK _ _ ⟨fun _ => hS2, ?_⟩
              clear hK K
              refine late_take (i := 6) (some 27) rfl rfl (by kernel_rfl) (by kernel_rfl) (by kernel_rfl) (by kernel_rfl) (by kernel_rfl) (fun _ _ _ h => h) (by rfl) (v := ?v6cn) ?hy6cn hS2 ?rest6cn
              case hy6cn => intro w0 hSw; obtain ⟨a0, a1, a2, a3, a4, a5, a6, a7, a8, a9, _⟩ := cells10 hSw.box; have ab := hSw.byt; go_simp; try with_reducible rfl
              simp only [Act.put, List.setIfInBounds_toArray, List.set_cons_zero, List.set_cons_succ]
              refine late_take (i := 7) (some 34) rfl rfl (by kernel_rfl) (by kernel_rfl) (by kernel_rfl) (by kernel_rfl) (by kernel_rfl) (fun _ _ _ h => h) (by rfl) (v := ?v7cn) ?hy7cn hS2 ?rest7cn
              case hy7cn => intro w0 hSw; obtain ⟨a0, a1, a2, a3, a4, a5, a6, a7, a8, a9, _⟩ := cells10 hSw.box; have ab := hSw.byt; go_simp; try with_reducible rfl
              simp only [Act.put, List.setIfInBounds_toArray, List.set_cons_zero, List.set_cons_succ]
              refine late_take (i := 8) (some 35) rfl rfl (by kernel_rfl) (by kernel_rfl) (by kernel_rfl) (by kernel_rfl) (by kernel_rfl) (fun _ _ _ h => h) (by rfl) (v := ?v8cn) ?hy8cn hS2 ?rest8cn
              case hy8cn => intro w0 hSw; obtain ⟨a0, a1, a2, a3, a4, a5, a6, a7, a8, a9, _⟩ := cells10 hSw.box; have ab := hSw.byt; go_simp; try with_reducible rfl
              simp only [Act.put, List.setIfInBounds_toArray, List.set_cons_zero, List.set_cons_succ]
              have hz : w2.heap[W1.heap.size]? = some (.cells #[.int .i64 0, .int .i64 0, .int .i64 0, .int .i64 0, .int .i64 0, .int .i64 0, .int .i64 0, .slice none 0 0, .int .i64 0, .slice none 0 0] 35 (0, 0)) := (hb1.block _ (by simp)).trans (heap_alloc_new W1 _)
              obtain ⟨x0, x1, x2, x3, x4, x5, x6, x7, x8, x9, xz⟩ := cells10 hz
              have xz0 := xz 0
              have xz1 := xz 1
              have xz2 := xz 2
              have xz3 := xz 3
              have xz4 := xz 4
              have xz5 := xz 5
              have xz6 := xz 6
              have xz7 := xz 7
              have xz8 := xz 8
              have xz9 := xz 9
              refine wpAnyD_one (i := 10) (by kernel_rfl) rfl (fun K hK => ?_)
              go_simp
              have H4 := hid (df4_b (.int .i64 (mo1 : Int)) (.int .i64 (le1 : Int)) (.int .i64 (st1 : Int)) (.int .i64 (e1 : Int)) (.int .i64 (di1 : Int)) (.int .i64 (si1 : Int)) (.int .i64 (mr1 : Int)) (.slice lp1 ln1 lc1) (.int .i64 (by1 : Int)) (.slice tp1 tn1 tc1) HT1.out HO1.out hb1 hr1)
              have hS4 : RdF4 ((((((((((w2.setCell ⟨W1.heap.size, 0, none⟩ (.int .i64 (mo1 : Int))).setCell ⟨W1.heap.size, 1, none⟩ (.int .i64 (le1 : Int))).setCell ⟨W1.heap.size, 2, none⟩ (.int .i64 (st1 : Int))).setCell ⟨W1.heap.size, 3, none⟩ (.int .i64 (e1 : Int))).setCell ⟨W1.heap.size, 4, none⟩ (.int .i64 (di1 : Int))).setCell ⟨W1.heap.size, 5, none⟩ (.int .i64 (si1 : Int))).setCell ⟨W1.heap.size, 6, none⟩ (.int .i64 (mr1 : Int))).setCell ⟨W1.heap.size, 7, none⟩ (.slice lp1 ln1 lc1)).setCell ⟨W1.heap.size, 8, none⟩ (.int .i64 (by1 : Int))).setCell ⟨W1.heap.size, 9, none⟩ (.slice tp1 tn1 tc1)) w.heap.size (.cells #[.int .i64 (most : Int), .int .i64 (len : Int), .int .i64 (st : Int), .int .i64 (e0 : Int), .int .i64 (digits : Int), .int .i64 (size : Int), .int .i64 (more : Int), .slice lp ln lc, .int .i64 (bytes : Int), .slice tp tn tc] 35 (0, 0)) ag (ao + i) y := ⟨H4.out.two.b1, cell_only (only10 _ _ _ _ _ _ _ _ _ _ _ _) (fun e => by have e2 : ag = W1.heap.size := e; have h7 := lt_of_cell HS0.out.byt; omega) hS2.byt⟩
              refine hK _ _ ⟨fun _ => hS4, ?_⟩
              clear hK K x0 x1 x2 x3 x4 x5 x6 x7 x8 x9 xz xz0 xz1 xz2 xz3 xz4 xz5 xz6 xz7 xz8 xz9
              refine late_take (i := 11) (some 12) rfl rfl (by kernel_rfl) (by kernel_rfl) (by kernel_rfl) (by kernel_rfl) (by kernel_rfl) (fun _ _ _ h => h) (by rfl) (v := ?v11cn) ?hy11cn hS4 ?rest11cn
              case hy11cn => intro w0 hSw; obtain ⟨a0, a1, a2, a3, a4, a5, a6, a7, a8, a9, _⟩ := cells10 hSw.box; have ab := hSw.byt; go_simp; try with_reducible rfl
              simp only [Act.put, List.setIfInBounds_toArray, List.set_cons_zero, List.set_cons_succ]
              refine late_done (by kernel_rfl) ?_ _
              refine NoPanic.normal ?_
              have HLn := hid hl1
              have HTn := hid ht1
              generalize hG : W1.heap.size = G at H4 ⊢
              generalize hU : ((((((((((w2.setCell ⟨G, 0, none⟩ (.int .i64 (mo1 : Int))).setCell ⟨G, 1, none⟩ (.int .i64 (le1 : Int))).setCell ⟨G, 2, none⟩ (.int .i64 (st1 : Int))).setCell ⟨G, 3, none⟩ (.int .i64 (e1 : Int))).setCell ⟨G, 4, none⟩ (.int .i64 (di1 : Int))).setCell ⟨G, 5, none⟩ (.int .i64 (si1 : Int))).setCell ⟨G, 6, none⟩ (.int .i64 (mr1 : Int))).setCell ⟨G, 7, none⟩ (.slice lp1 ln1 lc1)).setCell ⟨G, 8, none⟩ (.int .i64 (by1 : Int))).setCell ⟨G, 9, none⟩ (.slice tp1 tn1 tc1)) = U at H4 ⊢
              clear hU hG hS hS1 hS2 hS4 HS0 hb1 hr1 hl1 ht1 hz HT1 HO1 HR1
              obtain ⟨n0, n1, n2, n3, n4, n5, n6, n7, n8, n9, _⟩ := cells10 H4.out.new
              go_wp2_with (refine wpList_store_dk rfl (.tmp 2) (.tmp 36) rfl w.heap.size (by go_simp) (mo1 : Int) (le1 : Int) (st1 : Int) (e1 : Int) (di1 : Int) (si1 : Int) (mr1 : Int) (by1 : Int) lp1 tp1 ln1 tn1 lc1 tc1 (by go_simp) H4.out.two.b1 ?_; intro U5 hU5; have H5 := hid (show DFS w U5 ⟨mo1, le1, st1, e1, di1, si1, mr1, li1, by1, tr1, gh1⟩ lp1 ln1 lc1 tp1 tn1 tc1 (.slice q m dd) X from by rw [hU5]; exact df5 (d1 := ⟨mo1, le1, st1, e1, di1, si1, mr1, li1, by1, tr1, gh1⟩) H4.out HLn.out HTn.out); clear hU5 n0 n1 n2 n3 n4 n5 n6 n7 n8 n9 H4)
              go_roundg (n - (i + 1) + 1)
              case measure => omega
              case rel => exact ⟨i + 1, ⟨mo1, le1, st1, e1, di1, si1, mr1, li1, by1, tr1, gh1⟩, lp1, ln1, lc1, tp1, tn1, tc1, X, by first | go_num | (rw [HWi.out]; push_cast; rfl), by omega, by omega, HJ2.out, H5.out⟩
    · obtain rfl : i = n := by omega
      have hltI : ¬ (i : Int) < (i : Int) := by omega
      obtain ⟨B8, hB8⟩ : ∃ B8, decide ((⟨most, len, st, e0, digits, size, more, line, bytes, tr, gh⟩ : DK).st = 8) = B8 := ⟨_, rfl⟩
      have hB8b : ((st : Int) == 8) = B8 := by rw [← hB8, Bool.eq_iff_iff]; simp; omega
      clear hlt hst9
      go_wp2
      have HD1 := hid (show DFS w wr.drew ⟨most, len, st, e0, digits, size, more, line, bytes, tr, gh⟩ lp ln lc tp tn tc (.slice q m dd) X from ⟨HD.out.two.next ⟨rfl, rfl, rfl, Nat.le_refl _, fun _ _ => rfl⟩, HD.out.hl, HD.out.ht, HD.out.rows.next ⟨rfl, rfl, rfl, Nat.le_refl _, fun _ _ => rfl⟩, HD.out.out.keep ⟨rfl, rfl, rfl, Nat.le_refl _, fun _ _ => rfl⟩⟩)
      generalize hW1 : wr.drew = W1 at HD1
      refine wp_region_noPanic ?_
      refine any_begin 13 (by kernel_rfl) (by kernel_rfl) ?_
      rw [hW1]
      clear hW1 k0 k1 k2 k3 k4 k5 k6 k7 k8 k9
      refine late_begin (fun U => RdF9 U w.heap.size (.cells #[.int .i64 (most : Int), .int .i64 (len : Int), .int .i64 (st : Int), .int .i64 (e0 : Int), .int .i64 (digits : Int), .int .i64 (size : Int), .int .i64 (more : Int), .slice lp ln lc, .int .i64 (bytes : Int), .slice tp tn tc] 35 (0, 0))) (fun _ => false) ⟨HD1.out.two.b1⟩ (fun hS => ?_)
      refine late_take (i := 0) (some 47) rfl rfl (by kernel_rfl) (by kernel_rfl) (by kernel_rfl) (by kernel_rfl) (by kernel_rfl) (fun _ _ _ h => h) (by rfl) (v := .agg #[.int .i64 (most : Int), .int .i64 (len : Int), .int .i64 (st : Int), .int .i64 (e0 : Int), .int .i64 (digits : Int), .int .i64 (size : Int), .int .i64 (more : Int), .slice lp ln lc, .int .i64 (bytes : Int), .slice tp tn tc]) ?hy0r hS ?rest0r
      case hy0r => intro w0 hSw; obtain ⟨a0, a1, a2, a3, a4, a5, a6, a7, a8, a9, _⟩ := cells10 hSw.box; go_simp; try with_reducible rfl
      simp only [Act.put, List.setIfInBounds_toArray, List.set_cons_zero, List.set_cons_succ]
      refine late_take (i := 1) (some 48) rfl rfl (by kernel_rfl) (by kernel_rfl) (by kernel_rfl) (by kernel_rfl) (by kernel_rfl) (fun _ _ _ h => h) (by rfl) (v := ?v1r) ?hy1r hS ?rest1r
      case hy1r => intro w0 hSw; obtain ⟨a0, a1, a2, a3, a4, a5, a6, a7, a8, a9, _⟩ := cells10 hSw.box; go_simp; try with_reducible rfl
      simp only [Act.put, List.setIfInBounds_toArray, List.set_cons_zero, List.set_cons_succ]
      refine late_take (i := 2) (some 49) rfl rfl (by kernel_rfl) (by kernel_rfl) (by kernel_rfl) (by kernel_rfl) (by kernel_rfl) (fun _ _ _ h => h) (by rfl) (v := ?v2r) ?hy2r hS ?rest2r
      case hy2r => intro w0 hSw; obtain ⟨a0, a1, a2, a3, a4, a5, a6, a7, a8, a9, _⟩ := cells10 hSw.box; go_simp; try with_reducible rfl
      simp only [Act.put, List.setIfInBounds_toArray, List.set_cons_zero, List.set_cons_succ]
      refine late_take (i := 3) (some 50) rfl rfl (by kernel_rfl) (by kernel_rfl) (by kernel_rfl) (by kernel_rfl) (by kernel_rfl) (fun _ _ _ h => h) (by rfl) (v := ?v3r) ?hy3r hS ?rest3r
      case hy3r => intro w0 hSw; obtain ⟨a0, a1, a2, a3, a4, a5, a6, a7, a8, a9, _⟩ := cells10 hSw.box; go_simp; try with_reducible rfl
      simp only [Act.put, List.setIfInBounds_toArray, List.set_cons_zero, List.set_cons_succ]
      refine late_take (i := 4) (some 51) rfl rfl (by kernel_rfl) (by kernel_rfl) (by kernel_rfl) (by kernel_rfl) (by kernel_rfl) (fun _ _ _ h => h) (by rfl) (v := ?v4r) ?hy4r hS ?rest4r
      case hy4r => intro w0 hSw; obtain ⟨a0, a1, a2, a3, a4, a5, a6, a7, a8, a9, _⟩ := cells10 hSw.box; go_simp; try with_reducible rfl
      simp only [Act.put, List.setIfInBounds_toArray, List.set_cons_zero, List.set_cons_succ]
      refine late_take (i := 5) (some 52) rfl rfl (by kernel_rfl) (by kernel_rfl) (by kernel_rfl) (by kernel_rfl) (by kernel_rfl) (fun _ _ _ h => h) (by rfl) (v := .bool B8) ?hy5r hS ?rest5r
      case hy5r => intro w0 hSw; obtain ⟨a0, a1, a2, a3, a4, a5, a6, a7, a8, a9, _⟩ := cells10 hSw.box; go_simp; try with_reducible rfl
      simp only [Act.put, List.setIfInBounds_toArray, List.set_cons_zero, List.set_cons_succ]
      refine late_take (i := 6) (some 53) rfl rfl (by kernel_rfl) (by kernel_rfl) (by kernel_rfl) (by kernel_rfl) (by kernel_rfl) (fun _ _ _ h => h) (by rfl) (v := ?v6r) ?hy6r hS ?rest6r
      case hy6r => intro w0 hSw; obtain ⟨a0, a1, a2, a3, a4, a5, a6, a7, a8, a9, _⟩ := cells10 hSw.box; go_simp; try with_reducible rfl
      simp only [Act.put, List.setIfInBounds_toArray, List.set_cons_zero, List.set_cons_succ]
      refine late_take (i := 7) (some 54) rfl rfl (by kernel_rfl) (by kernel_rfl) (by kernel_rfl) (by kernel_rfl) (by kernel_rfl) (fun _ _ _ h => h) (by rfl) (v := ?v7r) ?hy7r hS ?rest7r
      case hy7r => intro w0 hSw; obtain ⟨a0, a1, a2, a3, a4, a5, a6, a7, a8, a9, _⟩ := cells10 hSw.box; go_simp; try with_reducible rfl
      simp only [Act.put, List.setIfInBounds_toArray, List.set_cons_zero, List.set_cons_succ]
      obtain ⟨x0, x1, x2, x3, x4, x5, x6, x7, x8, x9, xz⟩ := cells10 (show W1.heap[w.heap.size + 1]? = some (.cells #[.int .i64 0, .int .i64 0, .int .i64 0, .int .i64 0, .int .i64 0, .int .i64 0, .int .i64 0, .slice none 0 0, .int .i64 0, .slice none 0 0] 35 (0, 0)) from HD1.out.two.b2)
      have xz0 := xz 0
      have xz1 := xz 1
      have xz2 := xz 2
      have xz3 := xz 3
      have xz4 := xz 4
      have xz5 := xz 5
      have xz6 := xz 6
      have xz7 := xz 7
      have xz8 := xz 8
      have xz9 := xz 9
      refine wpAnyD_one (i := 8) (by kernel_rfl) rfl (fun K hK => ?_)
      go_simp
      have HF := hid (dfed_out (B8 := B8) HD1.out (HJ.out.all (by rw [HN.out]; exact Nat.le_refl _)) hB8)
      have HP := hid (put10 (show W1.heap[w.heap.size + 1]? = some (.cells #[.int .i64 0, .int .i64 0, .int .i64 0, .int .i64 0, .int .i64 0, .int .i64 0, .int .i64 0, .slice none 0 0, .int .i64 0, .slice none 0 0] 35 (0, 0)) from HD1.out.two.b2) (.int .i64 (most : Int)) (.int .i64 (len : Int)) (.int .i64 (st : Int)) (.int .i64 (e0 : Int)) (.int .i64 (digits : Int)) (.int .i64 (size : Int)) (.int .i64 (more : Int)) (.slice lp ln lc) (.int .i64 (bytes : Int)) (.slice tp tn tc))
      have HBx := hid ((only10 W1 (w.heap.size + 1) (.int .i64 (most : Int)) (.int .i64 (len : Int)) (.int .i64 (st : Int)) (.int .i64 (e0 : Int)) (.int .i64 (digits : Int)) (.int .i64 (size : Int)) (.int .i64 (more : Int)) (.slice lp ln lc) (.int .i64 (bytes : Int)) (.slice tp tn tc)).block w.heap.size (by have := HD1.out.two.sz; omega) (fun e => by have e2 : w.heap.size = w.heap.size + 1 := e; omega))
      generalize hU9 : ((((((((((W1.setCell ⟨w.heap.size + 1, 0, none⟩ (.int .i64 (most : Int))).setCell ⟨w.heap.size + 1, 1, none⟩ (.int .i64 (len : Int))).setCell ⟨w.heap.size + 1, 2, none⟩ (.int .i64 (st : Int))).setCell ⟨w.heap.size + 1, 3, none⟩ (.int .i64 (e0 : Int))).setCell ⟨w.heap.size + 1, 4, none⟩ (.int .i64 (digits : Int))).setCell ⟨w.heap.size + 1, 5, none⟩ (.int .i64 (size : Int))).setCell ⟨w.heap.size + 1, 6, none⟩ (.int .i64 (more : Int))).setCell ⟨w.heap.size + 1, 7, none⟩ (.slice lp ln lc)).setCell ⟨w.heap.size + 1, 8, none⟩ (.int .i64 (bytes : Int))).setCell ⟨w.heap.size + 1, 9, none⟩ (.slice tp tn tc)) = U9 at HF HP HBx
      (try dsimp only at hU9)
      (try push_cast at hU9)
      (try rw [hU9])
      refine hK _ _ ⟨fun _ => ⟨HBx.out.trans HD1.out.two.b1⟩, ?_⟩
      have hS9 : RdF9 U9 w.heap.size (.cells #[.int .i64 (most : Int), .int .i64 (len : Int), .int .i64 (st : Int), .int .i64 (e0 : Int), .int .i64 (digits : Int), .int .i64 (size : Int), .int .i64 (more : Int), .slice lp ln lc, .int .i64 (bytes : Int), .slice tp tn tc] 35 (0, 0)) := ⟨HBx.out.trans HD1.out.two.b1⟩
      clear hK K x0 x1 x2 x3 x4 x5 x6 x7 x8 x9 xz xz0 xz1 xz2 xz3 xz4 xz5 xz6 xz7 xz8 xz9
      refine late_take (i := 9) (some 5) rfl rfl (by kernel_rfl) (by kernel_rfl) (by kernel_rfl) (by kernel_rfl) (by kernel_rfl) (fun _ _ _ h => h) (by rfl) (v := ?v9r) ?hy9r hS9 ?rest9r
      case hy9r => intro w0 hSw; obtain ⟨a0, a1, a2, a3, a4, a5, a6, a7, a8, a9, _⟩ := cells10 hSw.box; go_simp; try with_reducible rfl
      simp only [Act.put, List.setIfInBounds_toArray, List.set_cons_zero, List.set_cons_succ]
      refine late_take (i := 10) (some 6) rfl rfl (by kernel_rfl) (by kernel_rfl) (by kernel_rfl) (by kernel_rfl) (by kernel_rfl) (fun _ _ _ h => h) (by rfl) (v := ?v10r) ?hy10r hS9 ?rest10r
      case hy10r => intro w0 hSw; obtain ⟨a0, a1, a2, a3, a4, a5, a6, a7, a8, a9, _⟩ := cells10 hSw.box; go_simp; try with_reducible rfl
      simp only [Act.put, List.setIfInBounds_toArray, List.set_cons_zero, List.set_cons_succ]
      refine late_take (i := 11) (some 7) rfl rfl (by kernel_rfl) (by kernel_rfl) (by kernel_rfl) (by kernel_rfl) (by kernel_rfl) (fun _ _ _ h => h) (by rfl) (v := ?v11r) ?hy11r hS9 ?rest11r
      case hy11r => intro w0 hSw; obtain ⟨a0, a1, a2, a3, a4, a5, a6, a7, a8, a9, _⟩ := cells10 hSw.box; go_simp; try with_reducible rfl
      simp only [Act.put, List.setIfInBounds_toArray, List.set_cons_zero, List.set_cons_succ]
      refine late_take (i := 12) (some 8) rfl rfl (by kernel_rfl) (by kernel_rfl) (by kernel_rfl) (by kernel_rfl) (by kernel_rfl) (fun _ _ _ h => h) (by rfl) (v := ?v12r) ?hy12r hS9 ?rest12r
      case hy12r => intro w0 hSw; obtain ⟨a0, a1, a2, a3, a4, a5, a6, a7, a8, a9, _⟩ := cells10 hSw.box; go_simp; try with_reducible rfl
      simp only [Act.put, List.setIfInBounds_toArray, List.set_cons_zero, List.set_cons_succ]
      refine late_done (by kernel_rfl) ?_ _
      refine NoPanic.normal ?_
      go_wp2
      refine bodyPost_ret (results_dk5 rfl _ _ _ 35 _ (0, 0) rfl HP.out rfl) rfl ?_
      exact HF.out
end Go.Proofs.YtnlmjlfoeodleaaGreatDoor
