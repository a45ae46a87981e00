/- The program's reader of chunked bodies: a new one, its trailers, its twin, none; Whole. -/
import Derived.Test.YtjjalgnpppegnaaDoorKFeed
namespace Go.Proofs.YtjjalgnpppegnaaDoor
open Go.RowKit

/-- A new reader: its own block alone. -/
theorem RdAt.new (w : World) (m : Nat) : RdAt (fun k => k = w.heap.size) (w.alloc (.cells (kdCells (newK m) (.slice none 0 0) (.slice none 0 0)) 57 (0, 0))) w.heap.size (newK m) :=
  ⟨_, _, ⟨heap_alloc_new w _, OwnF.nil _ _, Own.nil _ _⟩, rfl, fun k e => by simp [Value.ownBlock] at e, fun k e => by simp [Value.ownBlock] at e⟩
set_option maxRecDepth 20000 in
set_option maxHeartbeats 8000000 in
theorem new_no1 (m : Int) (w : World) (hm : m < 0) : Calls Tryd.prog 13 #[.int .i64 m] w fun e w' => e = .returned (.tuple #[.pointer none, .iface 48 (.int .i64 1)]) ∧ w' = w := by
  go_enter Tryd.func13, Tryd.ntmps13
  go_wp2
  go_ret2
  exact ⟨rfl, rfl⟩
set_option maxRecDepth 20000 in
set_option maxHeartbeats 8000000 in
theorem new_no2 (m : Int) (w : World) (hm : ¬ m < 0) (h2 : decide ((1099511627776 : Int) < m) = true) : Calls Tryd.prog 13 #[.int .i64 m] w fun e w' => e = .returned (.tuple #[.pointer none, .iface 48 (.int .i64 1)]) ∧ w' = w := by
  go_enter Tryd.func13, Tryd.ntmps13
  go_wp2
  go_ret2
  exact ⟨rfl, rfl⟩
theorem new_no (m : Int) (w : World) (hm : ¬ (0 ≤ m ∧ m ≤ 1099511627776)) : Calls Tryd.prog 13 #[.int .i64 m] w fun e w' => e = .returned (.tuple #[.pointer none, .iface 48 (.int .i64 1)]) ∧ w' = w := by
  by_cases h : m < 0
  · exact new_no1 m w h
  · exact new_no2 m w h (decide_eq_true (by omega))
set_option maxRecDepth 20000 in
set_option maxHeartbeats 8000000 in
theorem new_yes' (m : Nat) (w : World) (hm : decide ((1099511627776 : Int) < (m : Int)) = false) : Calls Tryd.prog 13 #[.int .i64 (m : Int)] w fun e w' => e = .returned (.tuple #[.pointer (some ⟨w.heap.size, 0, none⟩), .nilIface]) ∧ RdAt (fun k => k = w.heap.size) w' w.heap.size (newK m) ∧ Below w.heap.size w w' ∧ w'.heap.size = w.heap.size + 1 := by
  have HN := hid (RdAt.new w m)
  have h0 : ¬ (m : Int) < 0 := by omega
  go_enter Tryd.func13, Tryd.ntmps13
  go_wp2
  go_ret2
  exact ⟨rfl, HN.out, below_new _ _, by simp⟩
theorem new_yes (m : Nat) (w : World) (hm : m ≤ 1099511627776) : Calls Tryd.prog 13 #[.int .i64 (m : Int)] w fun e w' => e = .returned (.tuple #[.pointer (some ⟨w.heap.size, 0, none⟩), .nilIface]) ∧ RdAt (fun k => k = w.heap.size) w' w.heap.size (newK m) ∧ Below w.heap.size w w' ∧ w'.heap.size = w.heap.size + 1 := new_yes' m w (decide_eq_false (by omega))
theorem OwnF.news {w : World} {b n c : Nat} {ad : Addr} {fs : List (B × B)} (h : OwnF w b (.slice (some ad) n c) fs) : ∀ j u, (fldC fs)[j]? = some u → w.cell? (ad.add j) = some u := by
  rcases h.2 with ⟨h1, _⟩ | ⟨g, cap, cur, h1, h2, h3, h4, _, h6, h7⟩
  · cases h1
  · simp only [Value.slice.injEq, Option.some.injEq] at h1
    obtain ⟨rfl, _, _⟩ := h1
    intro j u hj
    rw [add_off]
    have hlt : j < (fldC fs).length := (List.getElem?_eq_some_iff.1 hj).1
    rw [fldC_len] at hlt
    rw [← h7, List.getElem?_take, if_pos hlt] at hj
    simp only [World.cell?, h3]
    simpa using hj
theorem fldC_one (fs : List (B × B)) : ∀ u ∈ fldC fs, u.oneCell' = true := by
  intro u hu
  unfold fldC at hu
  rw [List.mem_flatMap] at hu
  obtain ⟨f, _, hu⟩ := hu
  simp at hu
  rcases hu with rfl | rfl <;> rfl
set_option maxRecDepth 20000 in
set_option maxHeartbeats 8000000 in
theorem cloneF_any {w : World} {b n c : Nat} {p : Option Addr} {fs : List (B × B)} (h : OwnF w b (.slice p n c) fs) (hn : n ≤ 1048576) : Calls Tryd.prog 24 #[.slice p n c] w fun e w' => ∃ q d, e = .returned (.slice q n d) ∧ OwnF w' w.heap.size (.slice q n d) fs ∧ Below w.heap.size w w' := by
  have qn : ∀ (w : World) (a : Option Addr) (n c n' c' : Nat), (binOp .eql 23 (.slice a n c) (.slice none n' c')).run Tryd.prog w = .ok (.bool a.isNone) w := fun w a n c n' c' => Lib.run_eql_slice_nil w _ _ a n c n' c' Tryd.underlying23
  have hln := sliceF_len h
  cases p with
  | none =>
    obtain ⟨rfl, rfl⟩ : n = 0 ∧ c = 0 := by
      rcases h.2 with ⟨h1, _⟩ | ⟨g, cap, cur, h1, _⟩
      · cases h1; exact ⟨rfl, rfl⟩
      · cases h1
    obtain rfl : fs = [] := List.eq_nil_of_length_eq_zero hln
    clear h hn hln
    go_enter Tryd.func24, Tryd.ntmps24
    go_wp2
    go_ret
    exact ⟨none, 0, rfl, OwnF.nil _ _, Below.refl _ _⟩
  | some a =>
    obtain ⟨i0, hi0, hz0, hz1, hz2⟩ := info_parts infoF
    have HH := hid h.news
    have HL := hid hln
    have HA := hid (h.alloc (.cells #[] 51 (0, 0)))
    clear h hln
    go_enter Tryd.func24, Tryd.ntmps24
    go_wp2_with (at_builtin; refine wpList_append_own_at (w.alloc (.cells #[] 51 (0, 0))) rfl (.tmp 5) (.tmp 6) 23 rfl w.heap.size 51 i0 _ 2 32 Tryd.underlying23 hi0 hz0 hz1 hz2 rfl (by decide) (.slice (some ⟨w.heap.size, 0, none⟩) 0 0) 0 [] (by go_simp) (⟨rfl, .inr ⟨w.heap.size, 0, #[], rfl, Nat.le_refl _, heap_alloc_new _ _, Nat.le_refl _, Nat.zero_le _, rfl, rfl⟩⟩) a n c (fldC fs) (by go_simp) (by rw [fldC_len, HL.out]) HA.out.news (fldC_one fs) (by unfold maxLen; omega) (by omega) (by simp) ?_; intro v' w1 hown hgr _ _; rw [Nat.zero_add, List.nil_append] at hown; obtain ⟨q, d, rfl⟩ := own_slice hown; have HO := hid (show OwnF w1 w.heap.size (.slice q n d) fs from by unfold OwnF; rw [HL.out]; exact hown); have HB := hid (show Below w.heap.size w w1 from (below_new w _).trans ⟨hgr.os, hgr.tape, hgr.output, hgr.size, fun k hk => hgr.block k (by simp; omega) (fun e => by simp [Value.ownBlock] at e; omega)⟩); clear hown hgr)
    go_ret
    exact ⟨q, d, rfl, HO.out, HB.out⟩
theorem OwnF.lower {w : World} {b b' : Nat} {v : Value} {acc : List (B × B)} (h : OwnF w b v acc) (hb : b' ≤ b) : OwnF w b' v acc := by
  refine ⟨h.1, ?_⟩
  rcases h.2 with h1 | ⟨g, cap, cur, h1, h2, h3⟩
  · exact .inl h1
  · exact .inr ⟨g, cap, cur, h1, Nat.le_trans hb h2, h3⟩
theorem Own.news {w : World} {b n c : Nat} {ad : Addr} {acc : B} (h : Own w b (.slice (some ad) n c) acc) : ∀ j u, (Lib.byteCells acc)[j]? = some u → w.cell? (ad.add j) = some u := by
  rcases h.2 with ⟨h1, _⟩ | ⟨g, cap, cur, h1, h2, h3, h4, _, h6, h7⟩
  · cases h1
  · simp only [Value.slice.injEq, Option.some.injEq] at h1
    obtain ⟨rfl, _, _⟩ := h1
    intro j u hj
    rw [add_off]
    have hlt : j < (Lib.byteCells acc).length := (List.getElem?_eq_some_iff.1 hj).1
    have hll : (Lib.byteCells acc).length = acc.length := by simp [Lib.byteCells]
    rw [← h7, List.getElem?_take, if_pos (by omega)] at hj
    simp only [World.cell?, h3]
    simpa using hj
set_option maxRecDepth 20000 in
set_option maxHeartbeats 8000000 in
theorem cloneB_any {w : World} {b n c : Nat} {p : Option Addr} {fs : B} (h : Own w b (.slice p n c) fs) (hn : n ≤ 1048576) : Calls Tryd.prog 25 #[.slice p n c] w fun e w' => ∃ q d, e = .returned (.slice q n d) ∧ Own w' w.heap.size (.slice q n d) fs ∧ Below w.heap.size w w' := by
  have qn : ∀ (w : World) (a : Option Addr) (n c n' c' : Nat), (binOp .eql 24 (.slice a n c) (.slice none n' c')).run Tryd.prog w = .ok (.bool a.isNone) w := fun w a n c n' c' => Lib.run_eql_slice_nil w _ _ a n c n' c' Tryd.underlying24
  have hln := slice_part h
  cases p with
  | none =>
    obtain ⟨rfl, rfl⟩ : n = 0 ∧ c = 0 := by
      rcases h.2 with ⟨h1, _⟩ | ⟨g, cap, cur, h1, _⟩
      · cases h1; exact ⟨rfl, rfl⟩
      · cases h1
    obtain rfl : fs = [] := List.eq_nil_of_length_eq_zero hln
    clear h hn hln
    go_enter Tryd.func25, Tryd.ntmps25
    go_wp2
    go_ret
    exact ⟨none, 0, rfl, Own.nil _ _, Below.refl _ _⟩
  | some a =>
    obtain ⟨i0, hi0, hz0, hz1, hz2⟩ := info_parts infoB
    have HH := hid h.news
    have HL := hid hln
    have HA := hid (h.alloc (.cells #[] 5 (0, 0)))
    clear h hln
    go_enter Tryd.func25, Tryd.ntmps25
    go_wp2_with (at_builtin; refine wpList_append_own_at (w.alloc (.cells #[] 5 (0, 0))) rfl (.tmp 5) (.tmp 6) 24 rfl w.heap.size 5 i0 _ 1 1 Tryd.underlying24 hi0 hz0 hz1 hz2 rfl (by decide) (.slice (some ⟨w.heap.size, 0, none⟩) 0 0) 0 [] (by go_simp) (⟨rfl, .inr ⟨w.heap.size, 0, #[], rfl, Nat.le_refl _, heap_alloc_new _ _, Nat.le_refl _, Nat.zero_le _, rfl, rfl⟩⟩) a n c (Lib.byteCells fs) (by go_simp) (by simp only [Lib.byteCells, List.length_map, HL.out, Nat.mul_one]) HA.out.news (byte_one fs) (by unfold maxLen; omega) (by omega) (by simp) ?_; intro v' w1 hown hgr _ _; rw [Nat.zero_add, List.nil_append] at hown; obtain ⟨q, d, rfl⟩ := own_slice hown; have HO := hid (show Own w1 w.heap.size (.slice q n d) fs from by unfold Own; rw [HL.out]; exact hown); have HB := hid (show Below w.heap.size w w1 from (below_new w _).trans ⟨hgr.os, hgr.tape, hgr.output, hgr.size, fun k hk => hgr.block k (by simp; omega) (fun e => by simp [Value.ownBlock] at e; omega)⟩); clear hown hgr)
    go_ret
    exact ⟨q, d, rfl, HO.out, HB.out⟩
set_option maxRecDepth 20000 in
set_option maxHeartbeats 8000000 in
theorem trailers_any {F : Nat → Prop} {w : World} {g : Nat} {s : KS} (h : RdAt F w g s) (htr : s.tr.length ≤ 64) : Calls Tryd.prog 15 #[.pointer (some ⟨g, 0, none⟩)] w fun e w' => ∃ q d, e = .returned (.slice q s.tr.length d) ∧ OwnF w' w.heap.size (.slice q s.tr.length d) s.tr ∧ Below w.heap.size w w' := by
  obtain ⟨t, p, hr, hf⟩ := h
  obtain ⟨tp, tn, tc, rfl⟩ := own_slice3 hr.trs
  have htn := sliceF_len hr.trs
  have HC := hid (cloneF_any hr.trs (by omega))
  have hb := hr.blk
  unfold kdCells at hb
  obtain ⟨_, _, _, _, _, _, k6, _, _, _, _⟩ := cells10 hb
  rw [htn]
  clear hr hf hb htn htr
  go_enter Tryd.func15, Tryd.ntmps15
  go_wp2_with (go_at_call 24; (with_reducible refine HC.out.mono ?_); rintro e w1 ⟨q, d, rfl, ho, hb⟩; have HO := hid ho; have HB := hid hb; clear ho hb)
  go_ret
  exact ⟨q, d, rfl, HO.out, HB.out⟩
set_option maxRecDepth 20000 in
set_option maxHeartbeats 8000000 in
theorem nil_feed (p : Option Addr) (n c : Nat) (w : World) : Calls Tryd.prog 14 #[.pointer none, .slice p n c] w fun e w' => e = .returned (.tuple #[.int .i64 0, .slice none 0 0, .bool false, .iface 48 (.int .i64 1)]) ∧ w' = w := by
  go_enter Tryd.func14, Tryd.ntmps14
  go_wp2
  go_step3
  go_wp2
  (try rw [Exit.noGoto_ret])
  refine bodyPost_ret (results_tmp4 rfl _ _ _) rfl ?_
  exact ⟨rfl, rfl⟩
set_option maxRecDepth 20000 in
set_option maxHeartbeats 8000000 in
theorem nil_done (w : World) : Calls Tryd.prog 17 #[.pointer none] w fun e w' => e = .returned (.bool false) ∧ w' = w := by
  go_enter Tryd.func17, Tryd.ntmps17
  go_wp2
  go_ret
  exact ⟨rfl, rfl⟩
set_option maxRecDepth 20000 in
set_option maxHeartbeats 8000000 in
theorem nil_len (w : World) : Calls Tryd.prog 18 #[.pointer none] w fun e w' => e = .returned (.int .i64 0) ∧ w' = w := by
  go_enter Tryd.func18, Tryd.ntmps18
  go_wp2
  go_ret
  exact ⟨rfl, rfl⟩
set_option maxRecDepth 20000 in
set_option maxHeartbeats 8000000 in
theorem nil_trailers (w : World) : Calls Tryd.prog 15 #[.pointer none] w fun e w' => e = .returned (.slice none 0 0) ∧ w' = w := by
  go_enter Tryd.func15, Tryd.ntmps15
  go_wp2
  go_ret
  exact ⟨rfl, rfl⟩
set_option maxRecDepth 20000 in
set_option maxHeartbeats 8000000 in
theorem nil_clone (w : World) : Calls Tryd.prog 16 #[.pointer none] w fun e w' => e = .returned (.pointer none) ∧ w' = w := by
  go_enter Tryd.func16, Tryd.ntmps16
  go_wp2
  go_ret
  exact ⟨rfl, rfl⟩
structure RdC (U : World) (g : Nat) (c6 c9 : Value) : Prop where
  a6 : U.cell? ⟨g, 6, none⟩ = some c6
  a9 : U.cell? ⟨g, 9, none⟩ = some c9
theorem RdC.below {U V : World} {g : Nat} {c6 c9 : Value} (h : RdC U g c6 c9) (hb : Below U.heap.size U V) : RdC V g c6 c9 := ⟨cell_keep hb h.a6, cell_keep hb h.a9⟩
theorem RdC.set {U : World} {g b : Nat} {c6 c9 : Value} (h : RdC U g c6 c9) (hg : g ≠ b) (j : Nat) (v : Value) : RdC (U.setCell ⟨b, j, none⟩ v) g c6 c9 := by
  have ho : Only (fun k => k = b) U (U.setCell ⟨b, j, none⟩ v) := (Only.refl (fun k => k = b) U).set rfl v
  exact ⟨cell_only ho hg h.a6, cell_only ho hg h.a9⟩
/-- A twin: blocks of its own alone. -/
structure Twin (w w' : World) (s : KS) : Prop where
  rd : ∃ F, RdAt F w' w.heap.size s ∧ (∀ k, F k → w.heap.size ≤ k) ∧ ∀ k, F k → k < w'.heap.size
  low : Below w.heap.size w w'
set_option maxRecDepth 20000 in
set_option maxHeartbeats 8000000 in
theorem clone_0 {F : Nat → Prop} {w : World} {g : Nat} {s : KS} (h : RdAt F w g s) (hE : errOf s.err = .nilIface) (htr : s.tr.length ≤ 64) (hpl : s.part.length ≤ 8193) : Calls Tryd.prog 16 #[.pointer (some ⟨g, 0, none⟩)] w fun e w' => e = .returned (.pointer (some ⟨w.heap.size, 0, none⟩)) ∧ Twin w w' s := by
  obtain ⟨t, p, hr, hf⟩ := h
  obtain ⟨tp, tn, tc, rfl⟩ := own_slice3 hr.trs
  obtain ⟨pp, pn, pc, rfl⟩ := own_slice3 hr.part
  have htn := sliceF_len hr.trs
  have hpn := slice_part hr.part
  have hb := hr.blk
  unfold kdCells at hb
  rw [hE] at hb
  obtain ⟨k0, k1, k2, k3, k4, k5, k6, k7, k8, k9, kz⟩ := cells10 hb
  obtain ⟨W0, hW0⟩ : ∃ W0, W0 = (w.alloc (.cells #[.int .i64 (s.most : Int), .int .i64 (s.told : Int), .nilIface, .int .i64 (s.st : Int), .int .u64 (s.left : Int), .int .i64 (s.count : Int), .slice tp tn tc, .int .i64 (s.lines : Int), .string (str s.name), .slice pp pn pc] 57 (0, 0))) := ⟨_, rfl⟩
  have hlow1 : Below w.heap.size w W0.drew := by rw [hW0]; exact (below_new w _).drew
  have HL1 := hid hlow1
  have HW1 := hid (show W0.drew.heap[w.heap.size]? = some (.cells #[.int .i64 (s.most : Int), .int .i64 (s.told : Int), .nilIface, .int .i64 (s.st : Int), .int .u64 (s.left : Int), .int .i64 (s.count : Int), .slice tp tn tc, .int .i64 (s.lines : Int), .string (str s.name), .slice pp pn pc] 57 (0, 0)) ∧ w.heap.size < W0.drew.heap.size from by rw [hW0]; exact ⟨heap_alloc_new w _, by simp⟩)
  have HC1 := hid (cloneF_any (hr.trs.keep hlow1) (by omega))
  have HP1 := hid (hr.part.keep hlow1)
  have HPn := hid (show pn ≤ 1048576 by omega)
  have HTl := hid htn
  have HGn := hid (show g ≠ w.heap.size from Nat.ne_of_lt (lt_of_heap hr.blk))
  have HPl := hid hpn
  have HE0 := hid (show RdC W0.drew g (.slice tp tn tc) (.slice pp pn pc) from ⟨cell_keep hlow1 k6, cell_keep hlow1 k9⟩)
  have HE := hid hE
  have HW := hid hW0
  clear hr hf hb htn hpn htr hpl kz hlow1 hW0 hE
  go_enter Tryd.func16, Tryd.ntmps16
  go_wp2
  rw [← HW.out]
  clear k0 k1 k2 k3 k4 k5 k6 k7 k8 k9
  refine wp_region_noPanic ?_
  refine any_begin 14 (by kernel_rfl) (by kernel_rfl) ?_
  refine late_begin (fun U => RdC U g (.slice tp tn tc) (.slice pp pn pc)) (fun j => decide (12 ≤ j)) HE0.out (fun hS => ?_)
  refine late_take (i := 0) (some 9) rfl rfl (by kernel_rfl) (by kernel_rfl) (by kernel_rfl) (by kernel_rfl) (by kernel_rfl) (fun _ _ _ h => h) (by rfl) (v := ?v0c) ?hy0c hS ?rest0c
  case hy0c => intro w0 hSw; obtain ⟨a6, a9⟩ := hSw; go_simp; try with_reducible rfl
  simp only [Act.put, List.setIfInBounds_toArray, List.set_cons_zero, List.set_cons_succ]
  refine late_take (i := 1) (some 10) rfl rfl (by kernel_rfl) (by kernel_rfl) (by kernel_rfl) (by kernel_rfl) (by kernel_rfl) (fun _ _ _ h => h) (by rfl) (v := ?v1c) ?hy1c hS ?rest1c
  case hy1c => intro w0 hSw; obtain ⟨a6, a9⟩ := hSw; go_simp; try with_reducible rfl
  simp only [Act.put, List.setIfInBounds_toArray, List.set_cons_zero, List.set_cons_succ]
  refine late_take (i := 2) (some 11) rfl rfl (by kernel_rfl) (by kernel_rfl) (by kernel_rfl) (by kernel_rfl) (by kernel_rfl) (fun _ _ _ h => h) (by rfl) (v := ?v2c) ?hy2c hS ?rest2c
  case hy2c => intro w0 hSw; obtain ⟨a6, a9⟩ := hSw; go_simp; try with_reducible rfl
  simp only [Act.put, List.setIfInBounds_toArray, List.set_cons_zero, List.set_cons_succ]
  refine late_take (i := 3) (some 12) rfl rfl (by kernel_rfl) (by kernel_rfl) (by kernel_rfl) (by kernel_rfl) (by kernel_rfl) (fun _ _ _ h => h) (by rfl) (v := ?v3c) ?hy3c hS ?rest3c
  case hy3c => intro w0 hSw; obtain ⟨a6, a9⟩ := hSw; go_simp; try with_reducible rfl
  simp only [Act.put, List.setIfInBounds_toArray, List.set_cons_zero, List.set_cons_succ]
  refine late_take (i := 5) (some 14) rfl rfl (by kernel_rfl) (by kernel_rfl) (by kernel_rfl) (by kernel_rfl) (by kernel_rfl) (fun _ _ _ h => h) (by rfl) (v := ?v5c) ?hy5c hS ?rest5c
  case hy5c => intro w0 hSw; obtain ⟨a6, a9⟩ := hSw; go_simp; try with_reducible rfl
  simp only [Act.put, List.setIfInBounds_toArray, List.set_cons_zero, List.set_cons_succ]
  refine late_take (i := 6) (some 15) rfl rfl (by kernel_rfl) (by kernel_rfl) (by kernel_rfl) (by kernel_rfl) (by kernel_rfl) (fun _ _ _ h => h) (by rfl) (v := ?v6c) ?hy6c hS ?rest6c
  case hy6c => intro w0 hSw; obtain ⟨a6, a9⟩ := hSw; go_simp; try with_reducible rfl
  simp only [Act.put, List.setIfInBounds_toArray, List.set_cons_zero, List.set_cons_succ]
  refine late_take (i := 7) (some 16) rfl rfl (by kernel_rfl) (by kernel_rfl) (by kernel_rfl) (by kernel_rfl) (by kernel_rfl) (fun _ _ _ h => h) (by rfl) (v := ?v7c) ?hy7c hS ?rest7c
  case hy7c => intro w0 hSw; obtain ⟨a6, a9⟩ := hSw; go_simp; try with_reducible rfl
  simp only [Act.put, List.setIfInBounds_toArray, List.set_cons_zero, List.set_cons_succ]
  refine late_take (i := 8) (some 17) rfl rfl (by kernel_rfl) (by kernel_rfl) (by kernel_rfl) (by kernel_rfl) (by kernel_rfl) (fun _ _ _ h => h) (by rfl) (v := ?v8c) ?hy8c hS ?rest8c
  case hy8c => intro w0 hSw; obtain ⟨a6, a9⟩ := hSw; go_simp; try with_reducible rfl
  simp only [Act.put, List.setIfInBounds_toArray, List.set_cons_zero, List.set_cons_succ]
  refine wpAnyD_one (i := 4) (by kernel_rfl) rfl (fun K hK => ?_)
  go_simp
  go_at_call 24
  refine HC1.out.mono ?_
  rintro e W2 ⟨tq, td, rfl, hoF, hb2⟩
  have HF2 := hid hoF
  have HB2 := hid hb2
  have hS2 : RdC W2 g (.slice tp tn tc) (.slice pp pn pc) := hS.below hb2
  refine hK _ _ ⟨fun _ => hS2, ?_⟩
  clear hK K hS hoF hb2
  refine wpAnyD_one (i := 9) (by kernel_rfl) rfl (fun K hK => ?_)
  go_simp
  go_at_call 25
  refine (cloneB_any (HP1.out.keep HB2.out) HPn.out).mono ?_
  rintro e W3 ⟨pq, pd, rfl, hoB, hb3⟩
  have HF3 := hid hoB
  have HB3 := hid hb3
  have hS3 : RdC W3 g (.slice tp tn tc) (.slice pp pn pc) := hS2.below hb3
  refine hK _ _ ⟨fun _ => hS3, ?_⟩
  clear hK K hS2 hoB hb3
  have hblk : W3.heap[w.heap.size]? = some (.cells #[.int .i64 (s.most : Int), .int .i64 (s.told : Int), .nilIface, .int .i64 (s.st : Int), .int .u64 (s.left : Int), .int .i64 (s.count : Int), .slice tp tn tc, .int .i64 (s.lines : Int), .string (str s.name), .slice pp pn pc] 57 (0, 0)) := (HB3.out.block _ (Nat.lt_of_lt_of_le HW1.out.2 HB2.out.size)).trans ((HB2.out.block _ HW1.out.2).trans HW1.out.1)
  have HBl := hid hblk
  have hbl2 := set10_6 hblk (.slice tq tn td)
  have HBl2 := hid hbl2
  have hbl3 := set10_9 hbl2 (.slice pq pn pd)
  have HBl3 := hid hbl3
  have hc3 := cells10 hblk
  have x6 := hc3.a6
  have y6 := hc3.z 6
  have x9 := hc3.a9
  have y9 := hc3.z 9
  clear hblk hbl2 hbl3 hc3
  refine late_take (i := 10) (some 19) rfl rfl (by kernel_rfl) (by kernel_rfl) (by kernel_rfl) (by kernel_rfl) (by kernel_rfl) (fun _ _ _ h => h) (by rfl) (v := ?v10c) ?hy10c hS3 ?rest10c
  case hy10c => intro w0 hSw; obtain ⟨a6, a9⟩ := hSw; go_simp; try with_reducible rfl
  simp only [Act.put, List.setIfInBounds_toArray, List.set_cons_zero, List.set_cons_succ]
  refine wpAnyD_one (i := 11) (by kernel_rfl) rfl (fun K hK => ?_)
  go_simp
  refine hK _ _ ⟨fun _ => hS3.set HGn.out 6 _, ?_⟩
  clear hK K
  refine late_over (by kernel_rfl) ?_
  refine any_take (i := 12) (some 20) rfl rfl (by kernel_rfl) (by kernel_rfl) (by kernel_rfl) (fun _ _ _ h => h) (by rfl) (v := ?v12c) ?hy12c ?rest12c
  case hy12c => intro w0; go_simp; try with_reducible rfl
  simp only [Act.put, List.setIfInBounds_toArray, List.set_cons_zero, List.set_cons_succ]
  refine any_one (i := 13) (by kernel_rfl) rfl (fun K hK => ?_)
  go_simp
  refine hK _ _ ?_
  clear hK K
  refine any_done (by kernel_rfl) ?_ _
  refine NoPanic.normal ?_
  go_wp2
  go_ret
  refine ⟨rfl, ⟨⟨fun k => k = w.heap.size ∨ (Value.slice tq tn td).ownBlock = some k ∨ (Value.slice pq pn pd).ownBlock = some k, ⟨_, _, ⟨?_, ?_, ?_⟩, .inl rfl, fun k e => .inr (.inl e), fun k e => .inr (.inr e)⟩, ?_, ?_⟩, ?_⟩⟩
  · rw [HBl3.out]
    unfold kdCells
    rw [HE.out]
  · exact (((HF2.out.lower (Nat.zero_le _)).keep HB3.out).at_set HBl.out).at_set HBl2.out
  · exact ((own_low0 HF3.out).at_set HBl.out).at_set HBl2.out
  · rintro k (rfl | e | e)
    · exact Nat.le_refl _
    · exact Nat.le_trans (Nat.le_of_lt HW1.out.2) (own_ge HF2.out e)
    · exact Nat.le_trans (Nat.le_of_lt HW1.out.2) (Nat.le_trans HB2.out.size (own_ge HF3.out e))
  · rintro k (rfl | e | e)
    · rw [size_set, size_set]
      exact Nat.lt_of_lt_of_le HW1.out.2 (Nat.le_trans HB2.out.size HB3.out.size)
    · rw [size_set, size_set]
      exact Nat.lt_of_lt_of_le (yf_lt (HF2.out.lower (Nat.zero_le _)) e) HB3.out.size
    · rw [size_set, size_set]
      exact ys_lt (own_low0 HF3.out) e
  · have hb := HL1.out.trans ((HB2.out.mono HL1.out.size).trans (HB3.out.mono (Nat.le_trans HL1.out.size HB2.out.size)))
    exact (hb.setCell (Nat.le_refl _) _).setCell (Nat.le_refl _) _
set_option maxRecDepth 20000 in
set_option maxHeartbeats 8000000 in
theorem clone_1 {F : Nat → Prop} {w : World} {g : Nat} {s : KS} (h : RdAt F w g s) (hE : errOf s.err = .iface 48 (.int .i64 (s.err : Int))) (htr : s.tr.length ≤ 64) (hpl : s.part.length ≤ 8193) : Calls Tryd.prog 16 #[.pointer (some ⟨g, 0, none⟩)] w fun e w' => e = .returned (.pointer (some ⟨w.heap.size, 0, none⟩)) ∧ Twin w w' s := by
  obtain ⟨t, p, hr, hf⟩ := h
  obtain ⟨tp, tn, tc, rfl⟩ := own_slice3 hr.trs
  obtain ⟨pp, pn, pc, rfl⟩ := own_slice3 hr.part
  have htn := sliceF_len hr.trs
  have hpn := slice_part hr.part
  have hb := hr.blk
  unfold kdCells at hb
  rw [hE] at hb
  obtain ⟨k0, k1, k2, k3, k4, k5, k6, k7, k8, k9, kz⟩ := cells10 hb
  obtain ⟨W0, hW0⟩ : ∃ W0, W0 = (w.alloc (.cells #[.int .i64 (s.most : Int), .int .i64 (s.told : Int), .iface 48 (.int .i64 (s.err : Int)), .int .i64 (s.st : Int), .int .u64 (s.left : Int), .int .i64 (s.count : Int), .slice tp tn tc, .int .i64 (s.lines : Int), .string (str s.name), .slice pp pn pc] 57 (0, 0))) := ⟨_, rfl⟩
  have hlow1 : Below w.heap.size w W0.drew := by rw [hW0]; exact (below_new w _).drew
  have HL1 := hid hlow1
  have HW1 := hid (show W0.drew.heap[w.heap.size]? = some (.cells #[.int .i64 (s.most : Int), .int .i64 (s.told : Int), .iface 48 (.int .i64 (s.err : Int)), .int .i64 (s.st : Int), .int .u64 (s.left : Int), .int .i64 (s.count : Int), .slice tp tn tc, .int .i64 (s.lines : Int), .string (str s.name), .slice pp pn pc] 57 (0, 0)) ∧ w.heap.size < W0.drew.heap.size from by rw [hW0]; exact ⟨heap_alloc_new w _, by simp⟩)
  have HC1 := hid (cloneF_any (hr.trs.keep hlow1) (by omega))
  have HP1 := hid (hr.part.keep hlow1)
  have HPn := hid (show pn ≤ 1048576 by omega)
  have HTl := hid htn
  have HGn := hid (show g ≠ w.heap.size from Nat.ne_of_lt (lt_of_heap hr.blk))
  have HPl := hid hpn
  have HE0 := hid (show RdC W0.drew g (.slice tp tn tc) (.slice pp pn pc) from ⟨cell_keep hlow1 k6, cell_keep hlow1 k9⟩)
  have HE := hid hE
  have HW := hid hW0
  clear hr hf hb htn hpn htr hpl kz hlow1 hW0 hE
  go_enter Tryd.func16, Tryd.ntmps16
  go_wp2
  rw [← HW.out]
  clear k0 k1 k2 k3 k4 k5 k6 k7 k8 k9
  refine wp_region_noPanic ?_
  refine any_begin 14 (by kernel_rfl) (by kernel_rfl) ?_
  refine late_begin (fun U => RdC U g (.slice tp tn tc) (.slice pp pn pc)) (fun j => decide (12 ≤ j)) HE0.out (fun hS => ?_)
  refine late_take (i := 0) (some 9) rfl rfl (by kernel_rfl) (by kernel_rfl) (by kernel_rfl) (by kernel_rfl) (by kernel_rfl) (fun _ _ _ h => h) (by rfl) (v := ?v0c) ?hy0c hS ?rest0c
  case hy0c => intro w0 hSw; obtain ⟨a6, a9⟩ := hSw; go_simp; try with_reducible rfl
  simp only [Act.put, List.setIfInBounds_toArray, List.set_cons_zero, List.set_cons_succ]
  refine late_take (i := 1) (some 10) rfl rfl (by kernel_rfl) (by kernel_rfl) (by kernel_rfl) (by kernel_rfl) (by kernel_rfl) (fun _ _ _ h => h) (by rfl) (v := ?v1c) ?hy1c hS ?rest1c
  case hy1c => intro w0 hSw; obtain ⟨a6, a9⟩ := hSw; go_simp; try with_reducible rfl
  simp only [Act.put, List.setIfInBounds_toArray, List.set_cons_zero, List.set_cons_succ]
  refine late_take (i := 2) (some 11) rfl rfl (by kernel_rfl) (by kernel_rfl) (by kernel_rfl) (by kernel_rfl) (by kernel_rfl) (fun _ _ _ h => h) (by rfl) (v := ?v2c) ?hy2c hS ?rest2c
  case hy2c => intro w0 hSw; obtain ⟨a6, a9⟩ := hSw; go_simp; try with_reducible rfl
  simp only [Act.put, List.setIfInBounds_toArray, List.set_cons_zero, List.set_cons_succ]
  refine late_take (i := 3) (some 12) rfl rfl (by kernel_rfl) (by kernel_rfl) (by kernel_rfl) (by kernel_rfl) (by kernel_rfl) (fun _ _ _ h => h) (by rfl) (v := ?v3c) ?hy3c hS ?rest3c
  case hy3c => intro w0 hSw; obtain ⟨a6, a9⟩ := hSw; go_simp; try with_reducible rfl
  simp only [Act.put, List.setIfInBounds_toArray, List.set_cons_zero, List.set_cons_succ]
  refine late_take (i := 5) (some 14) rfl rfl (by kernel_rfl) (by kernel_rfl) (by kernel_rfl) (by kernel_rfl) (by kernel_rfl) (fun _ _ _ h => h) (by rfl) (v := ?v5c) ?hy5c hS ?rest5c
  case hy5c => intro w0 hSw; obtain ⟨a6, a9⟩ := hSw; go_simp; try with_reducible rfl
  simp only [Act.put, List.setIfInBounds_toArray, List.set_cons_zero, List.set_cons_succ]
  refine late_take (i := 6) (some 15) rfl rfl (by kernel_rfl) (by kernel_rfl) (by kernel_rfl) (by kernel_rfl) (by kernel_rfl) (fun _ _ _ h => h) (by rfl) (v := ?v6c) ?hy6c hS ?rest6c
  case hy6c => intro w0 hSw; obtain ⟨a6, a9⟩ := hSw; go_simp; try with_reducible rfl
  simp only [Act.put, List.setIfInBounds_toArray, List.set_cons_zero, List.set_cons_succ]
  refine late_take (i := 7) (some 16) rfl rfl (by kernel_rfl) (by kernel_rfl) (by kernel_rfl) (by kernel_rfl) (by kernel_rfl) (fun _ _ _ h => h) (by rfl) (v := ?v7c) ?hy7c hS ?rest7c
  case hy7c => intro w0 hSw; obtain ⟨a6, a9⟩ := hSw; go_simp; try with_reducible rfl
  simp only [Act.put, List.setIfInBounds_toArray, List.set_cons_zero, List.set_cons_succ]
  refine late_take (i := 8) (some 17) rfl rfl (by kernel_rfl) (by kernel_rfl) (by kernel_rfl) (by kernel_rfl) (by kernel_rfl) (fun _ _ _ h => h) (by rfl) (v := ?v8c) ?hy8c hS ?rest8c
  case hy8c => intro w0 hSw; obtain ⟨a6, a9⟩ := hSw; go_simp; try with_reducible rfl
  simp only [Act.put, List.setIfInBounds_toArray, List.set_cons_zero, List.set_cons_succ]
  refine wpAnyD_one (i := 4) (by kernel_rfl) rfl (fun K hK => ?_)
  go_simp
  go_at_call 24
  refine HC1.out.mono ?_
  rintro e W2 ⟨tq, td, rfl, hoF, hb2⟩
  have HF2 := hid hoF
  have HB2 := hid hb2
  have hS2 : RdC W2 g (.slice tp tn tc) (.slice pp pn pc) := hS.below hb2
  refine hK _ _ ⟨fun _ => hS2, ?_⟩
  clear hK K hS hoF hb2
  refine wpAnyD_one (i := 9) (by kernel_rfl) rfl (fun K hK => ?_)
  go_simp
  go_at_call 25
  refine (cloneB_any (HP1.out.keep HB2.out) HPn.out).mono ?_
  rintro e W3 ⟨pq, pd, rfl, hoB, hb3⟩
  have HF3 := hid hoB
  have HB3 := hid hb3
  have hS3 : RdC W3 g (.slice tp tn tc) (.slice pp pn pc) := hS2.below hb3
  refine hK _ _ ⟨fun _ => hS3, ?_⟩
  clear hK K hS2 hoB hb3
  have hblk : W3.heap[w.heap.size]? = some (.cells #[.int .i64 (s.most : Int), .int .i64 (s.told : Int), .iface 48 (.int .i64 (s.err : Int)), .int .i64 (s.st : Int), .int .u64 (s.left : Int), .int .i64 (s.count : Int), .slice tp tn tc, .int .i64 (s.lines : Int), .string (str s.name), .slice pp pn pc] 57 (0, 0)) := (HB3.out.block _ (Nat.lt_of_lt_of_le HW1.out.2 HB2.out.size)).trans ((HB2.out.block _ HW1.out.2).trans HW1.out.1)
  have HBl := hid hblk
  have hbl2 := set10_6 hblk (.slice tq tn td)
  have HBl2 := hid hbl2
  have hbl3 := set10_9 hbl2 (.slice pq pn pd)
  have HBl3 := hid hbl3
  have hc3 := cells10 hblk
  have x6 := hc3.a6
  have y6 := hc3.z 6
  have x9 := hc3.a9
  have y9 := hc3.z 9
  clear hblk hbl2 hbl3 hc3
  refine late_take (i := 10) (some 19) rfl rfl (by kernel_rfl) (by kernel_rfl) (by kernel_rfl) (by kernel_rfl) (by kernel_rfl) (fun _ _ _ h => h) (by rfl) (v := ?v10c) ?hy10c hS3 ?rest10c
  case hy10c => intro w0 hSw; obtain ⟨a6, a9⟩ := hSw; go_simp; try with_reducible rfl
  simp only [Act.put, List.setIfInBounds_toArray, List.set_cons_zero, List.set_cons_succ]
  refine wpAnyD_one (i := 11) (by kernel_rfl) rfl (fun K hK => ?_)
  go_simp
  refine hK _ _ ⟨fun _ => hS3.set HGn.out 6 _, ?_⟩
  clear hK K
  refine late_over (by kernel_rfl) ?_
  refine any_take (i := 12) (some 20) rfl rfl (by kernel_rfl) (by kernel_rfl) (by kernel_rfl) (fun _ _ _ h => h) (by rfl) (v := ?v12c) ?hy12c ?rest12c
  case hy12c => intro w0; go_simp; try with_reducible rfl
  simp only [Act.put, List.setIfInBounds_toArray, List.set_cons_zero, List.set_cons_succ]
  refine any_one (i := 13) (by kernel_rfl) rfl (fun K hK => ?_)
  go_simp
  refine hK _ _ ?_
  clear hK K
  refine any_done (by kernel_rfl) ?_ _
  refine NoPanic.normal ?_
  go_wp2
  go_ret
  refine ⟨rfl, ⟨⟨fun k => k = w.heap.size ∨ (Value.slice tq tn td).ownBlock = some k ∨ (Value.slice pq pn pd).ownBlock = some k, ⟨_, _, ⟨?_, ?_, ?_⟩, .inl rfl, fun k e => .inr (.inl e), fun k e => .inr (.inr e)⟩, ?_, ?_⟩, ?_⟩⟩
  · rw [HBl3.out]
    unfold kdCells
    rw [HE.out]
  · exact (((HF2.out.lower (Nat.zero_le _)).keep HB3.out).at_set HBl.out).at_set HBl2.out
  · exact ((own_low0 HF3.out).at_set HBl.out).at_set HBl2.out
  · rintro k (rfl | e | e)
    · exact Nat.le_refl _
    · exact Nat.le_trans (Nat.le_of_lt HW1.out.2) (own_ge HF2.out e)
    · exact Nat.le_trans (Nat.le_of_lt HW1.out.2) (Nat.le_trans HB2.out.size (own_ge HF3.out e))
  · rintro k (rfl | e | e)
    · rw [size_set, size_set]
      exact Nat.lt_of_lt_of_le HW1.out.2 (Nat.le_trans HB2.out.size HB3.out.size)
    · rw [size_set, size_set]
      exact Nat.lt_of_lt_of_le (yf_lt (HF2.out.lower (Nat.zero_le _)) e) HB3.out.size
    · rw [size_set, size_set]
      exact ys_lt (own_low0 HF3.out) e
  · have hb := HL1.out.trans ((HB2.out.mono HL1.out.size).trans (HB3.out.mono (Nat.le_trans HL1.out.size HB2.out.size)))
    exact (hb.setCell (Nat.le_refl _) _).setCell (Nat.le_refl _) _
theorem kclone_any {F : Nat → Prop} {w : World} {g : Nat} {s : KS} (h : RdAt F w g s) (hi : InvK s) : Calls Tryd.prog 16 #[.pointer (some ⟨g, 0, none⟩)] w fun e w' => e = .returned (.pointer (some ⟨w.heap.size, 0, none⟩)) ∧ Twin w w' s := by
  by_cases he : s.err = 0
  · exact clone_0 h (by rw [he]; rfl) hi.tr (own_part_le hi)
  · exact clone_1 h (errOf_pos he) hi.tr (own_part_le hi)
end Go.Proofs.YtjjalgnpppegnaaDoor
