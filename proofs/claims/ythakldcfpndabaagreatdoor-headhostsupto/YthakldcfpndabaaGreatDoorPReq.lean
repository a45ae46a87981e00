/- The program's reader: a new one; the head that was read, its fields copied. -/
import Derived.Test.YthakldcfpndabaaGreatDoorPFeed
namespace Go.Proofs.YthakldcfpndabaaGreatDoor
open Go.RowKit

set_option maxRecDepth 20000 in
set_option maxHeartbeats 8000000 in
theorem maybe_any (m : Int) (w : World) : Calls Tryz.prog 52 #[.int .i64 m] w fun e w' => e = .returned (.bool (decide (1 ≤ m ∧ m ≤ 65536))) ∧ w' = w := by
  obtain ⟨V, hV⟩ : ∃ V, decide (1 ≤ m ∧ m ≤ 65536) = V := ⟨_, rfl⟩
  have HV := hid hV
  rw [hV]
  clear hV
  by_cases h1 : 1 ≤ m
  · by_cases h2 : m ≤ 65536
    · have HE := hid (show V = true from by rw [← HV.out]; exact decide_eq_true ⟨h1, h2⟩)
      have h3 : decide (m ≤ 65536) = true := decide_eq_true h2
      clear h2
      go_enter Tryz.func52, Tryz.ntmps52
      go_wp2
      go_ret
      exact ⟨ret_bool HE.out.symm, rfl⟩
    · have HE := hid (show V = false from by rw [← HV.out]; exact decide_eq_false (fun h => h2 h.2))
      have h3 : decide (m ≤ 65536) = false := decide_eq_false h2
      clear h2
      go_enter Tryz.func52, Tryz.ntmps52
      go_wp2
      go_ret
      exact ⟨ret_bool HE.out.symm, rfl⟩
  · have HE := hid (show V = false from by rw [← HV.out]; exact decide_eq_false (fun h => h1 h.1))
    go_enter Tryz.func52, Tryz.ntmps52
    go_wp2
    go_ret
    exact ⟨ret_bool HE.out.symm, rfl⟩
/-- A new reader: its own block alone. -/
theorem RdAt.new (w : World) (r : Bool) (m : Int) : RdAt (fun k => k = w.heap.size) (w.alloc (.cells (rdCells (newP r m) (.slice none 0 0) (.slice none 0 0)) 103 (0, 0))) w.heap.size (newP r m) :=
  ⟨_, _, ⟨heap_alloc_new w _, Own.nil _ _, OwnF.nil _ _⟩, rfl, fun k e => by simp [Value.ownBlock] at e, fun k e => by simp [Value.ownBlock] at e⟩
set_option maxRecDepth 20000 in
set_option maxHeartbeats 8000000 in
theorem NewRequest_no (m : Int) (w : World) (hm : ¬ (1 ≤ m ∧ m ≤ 65536)) : Calls Tryz.prog 35 #[.int .i64 m] w fun e w' => e = .returned (.tuple #[.pointer none, errOf 1]) ∧ w' = w := by
  have HC := hid (maybe_any m w)
  rw [decide_eq_false hm] at HC
  clear hm
  go_enter Tryz.func35, Tryz.ntmps35
  go_wp2_with (go_at_call 52; (with_reducible refine HC.out.mono ?_); rintro e w1 ⟨rfl, hw1⟩; subst w1)
  go_ret2
  exact ⟨rfl, rfl⟩
set_option maxRecDepth 20000 in
set_option maxHeartbeats 8000000 in
theorem NewRequest_yes (m : Int) (w : World) (hm : 1 ≤ m ∧ m ≤ 65536) : Calls Tryz.prog 35 #[.int .i64 m] w fun e w' => e = .returned (.tuple #[.pointer (some ⟨w.heap.size, 0, none⟩), errOf 0]) ∧ RdAt (fun k => k = w.heap.size) w' w.heap.size (newP false m) ∧ Below w.heap.size w w' ∧ w'.heap.size = w.heap.size + 1 := by
  have HC := hid (maybe_any m w)
  rw [decide_eq_true hm] at HC
  have HN := hid (RdAt.new w false m)
  clear hm
  go_enter Tryz.func35, Tryz.ntmps35
  go_wp2_with (go_at_call 52; (with_reducible refine HC.out.mono ?_); rintro e w1 ⟨rfl, hw1⟩; subst w1)
  go_ret2
  exact ⟨rfl, HN.out, below_new _ _, by simp⟩
set_option maxRecDepth 20000 in
set_option maxHeartbeats 8000000 in
theorem len_any (g t : Nat) (w : World) (h2 : w.cell? ⟨g, 2, none⟩ = some (.int .i64 (t : Int))) : Calls Tryz.prog 38 #[.pointer (some ⟨g, 0, none⟩)] w fun e w' => e = .returned (.int .i64 (t : Int)) ∧ w' = w := by
  go_enter Tryz.func38, Tryz.ntmps38
  go_wp2
  go_ret
  exact ⟨rfl, rfl⟩
theorem OwnF.news {w : World} {b n c : Nat} {ad : Addr} {fs : List (B × B)} (h : OwnF w b (.slice (some ad) n c) fs) : ∀ j u, (fldC fs)[j]? = some u → w.cell? (ad.add j) = some u := by
  rcases h.2 with ⟨h1, _⟩ | ⟨g, cap, cur, h1, h2, h3, h4, _, h6, h7⟩
  · cases h1
  · simp only [Value.slice.injEq, Option.some.injEq] at h1
    obtain ⟨rfl, _, _⟩ := h1
    intro j u hj
    rw [add_off]
    have hlt : j < (fldC fs).length := (List.getElem?_eq_some_iff.1 hj).1
    rw [fldC_len] at hlt
    rw [← h7, List.getElem?_take, if_pos hlt] at hj
    simp only [World.cell?, h3]
    simpa using hj
theorem fldC_one (fs : List (B × B)) : ∀ u ∈ fldC fs, u.oneCell' = true := by
  intro u hu
  unfold fldC at hu
  rw [List.mem_flatMap] at hu
  obtain ⟨f, _, hu⟩ := hu
  simp at hu
  rcases hu with rfl | rfl <;> rfl
set_option maxRecDepth 20000 in
set_option maxHeartbeats 8000000 in
theorem cloneF_any {w : World} {b n c : Nat} {p : Option Addr} {fs : List (B × B)} (h : OwnF w b (.slice p n c) fs) (hn : n ≤ 1048576) : Calls Tryz.prog 55 #[.slice p n c] w fun e w' => ∃ q d, e = .returned (.slice q n d) ∧ OwnF w' w.heap.size (.slice q n d) fs ∧ Below w.heap.size w w' := by
  have qn : ∀ (w : World) (a : Option Addr) (n c n' c' : Nat), (binOp .eql 22 (.slice a n c) (.slice none n' c')).run Tryz.prog w = .ok (.bool a.isNone) w := fun w a n c n' c' => Lib.run_eql_slice_nil w _ _ a n c n' c' Tryz.underlying22
  have hln := sliceF_len h
  cases p with
  | none =>
    obtain ⟨rfl, rfl⟩ : n = 0 ∧ c = 0 := by
      rcases h.2 with ⟨h1, _⟩ | ⟨g, cap, cur, h1, _⟩
      · cases h1; exact ⟨rfl, rfl⟩
      · cases h1
    obtain rfl : fs = [] := List.eq_nil_of_length_eq_zero hln
    clear h hn hln
    go_enter Tryz.func55, Tryz.ntmps55
    go_wp2
    go_ret
    exact ⟨none, 0, rfl, OwnF.nil _ _, Below.refl _ _⟩
  | some a =>
    obtain ⟨i0, hi0, hz0, hz1, hz2⟩ := info_parts infoF
    have HH := hid h.news
    have HL := hid hln
    have HA := hid (h.alloc (.cells #[] 79 (0, 0)))
    clear h hln
    go_enter Tryz.func55, Tryz.ntmps55
    go_wp2_with (at_builtin; refine wpList_append_own_at (w.alloc (.cells #[] 79 (0, 0))) rfl (.tmp 5) (.tmp 6) 22 rfl w.heap.size 79 i0 _ 2 32 Tryz.underlying22 hi0 hz0 hz1 hz2 rfl (by decide) (.slice (some ⟨w.heap.size, 0, none⟩) 0 0) 0 [] (by go_simp) (⟨rfl, .inr ⟨w.heap.size, 0, #[], rfl, Nat.le_refl _, heap_alloc_new _ _, Nat.le_refl _, Nat.zero_le _, rfl, rfl⟩⟩) a n c (fldC fs) (by go_simp) (by rw [fldC_len, HL.out]) HA.out.news (fldC_one fs) (by unfold maxLen; omega) (by omega) (by simp) ?_; intro v' w1 hown hgr _ _; rw [Nat.zero_add, List.nil_append] at hown; obtain ⟨q, d, rfl⟩ := own_slice hown; have HO := hid (show OwnF w1 w.heap.size (.slice q n d) fs from by unfold OwnF; rw [HL.out]; exact hown); have HB := hid (show Below w.heap.size w w1 from (below_new w _).trans ⟨hgr.os, hgr.tape, hgr.output, hgr.size, fun k hk => hgr.block k (by simp; omega) (fun e => by simp [Value.ownBlock] at e; omega)⟩); clear hown hgr)
    go_ret
    exact ⟨q, d, rfl, HO.out, HB.out⟩
theorem OwnF.lower {w : World} {b b' : Nat} {v : Value} {acc : List (B × B)} (h : OwnF w b v acc) (hb : b' ≤ b) : OwnF w b' v acc := by
  refine ⟨h.1, ?_⟩
  rcases h.2 with h1 | ⟨g, cap, cur, h1, h2, h3⟩
  · exact .inl h1
  · exact .inr ⟨g, cap, cur, h1, Nat.le_trans hb h2, h3⟩
theorem fourC {w : World} {g : Nat} {T : TypeId} {fr : Nat × Nat} {x0 x1 x2 x3 : Value} (h : w.heap[g]? = some (.cells #[x0, x1, x2, x3] T fr)) (c0 c1 c2 c3 : Value) :
    ((((w.setCell ⟨g, 0, none⟩ c0).setCell ⟨g, 1, none⟩ c1).setCell ⟨g, 2, none⟩ c2).setCell ⟨g, 3, none⟩ c3).heap[g]? = some (.cells #[c0, c1, c2, c3] T fr) := by
  simp [World.setCell, Array.getElem?_modify, h]
theorem below_four {w w1 : World} {g : Nat} (h : Below g w w1) (c0 c1 c2 c3 : Value) : Below g w ((((w1.setCell ⟨g, 0, none⟩ c0).setCell ⟨g, 1, none⟩ c1).setCell ⟨g, 2, none⟩ c2).setCell ⟨g, 3, none⟩ c3) := by
  iterate 4 refine Below.setCell ?_ (show g ≤ g from Nat.le_refl g) _
  exact h
structure Cells4 (w : World) (g : Nat) (c0 c1 c2 c3 : Value) : Prop where
  a0 : w.cell? ⟨g, 0, none⟩ = some c0
  a1 : w.cell? ⟨g, 1, none⟩ = some c1
  a2 : w.cell? ⟨g, 2, none⟩ = some c2
  a3 : w.cell? ⟨g, 3, none⟩ = some c3
  z : ∀ j, w.frozen? ⟨g, j, none⟩ = false
theorem cells4 {w : World} {g : Nat} {c0 c1 c2 c3 : Value} {T : TypeId} (h : w.heap[g]? = some (.cells #[c0, c1, c2, c3] T (0, 0))) : Cells4 w g c0 c1 c2 c3 := by
  refine ⟨?_, ?_, ?_, ?_, fun j => by simp [World.frozen?, h]⟩ <;> simp [World.cell?, h]
theorem only4 {F : Nat → Prop} {w : World} {g : Nat} (hg : F g) (c0 c1 c2 c3 : Value) : Only F w ((((w.setCell ⟨g, 0, none⟩ c0).setCell ⟨g, 1, none⟩ c1).setCell ⟨g, 2, none⟩ c2).setCell ⟨g, 3, none⟩ c3) := by
  iterate 4 refine Only.set ?_ hg _
  exact Only.refl _ _
theorem ownF_set4 {w : World} {g N : Nat} {v : Value} {fs : List (B × B)} {cs : Array Value} {T : TypeId} {fr : Nat × Nat} (h : OwnF w N v fs) (hg : w.heap[g]? = some (.cells cs T fr)) (ht : T ≠ 79) (c0 c1 c2 c3 : Value) : OwnF ((((w.setCell ⟨g, 0, none⟩ c0).setCell ⟨g, 1, none⟩ c1).setCell ⟨g, 2, none⟩ c2).setCell ⟨g, 3, none⟩ c3) N v fs := by
  refine ownF_only h (only4 (F := fun k => k = g) rfl c0 c1 c2 c3) (fun k e hk => ?_)
  subst hk
  exact ht (ownF_type h e hg)
theorem req_size : (Tryz.prog.info? 24).map (·.size) = some 4 := by kernel_rfl
theorem req_ne : (24 : Nat) ≠ 79 := by decide
theorem results_req {fn : Func} {p u : Tmp} (h : fn.results = #[.cell p 24, .tmp u]) (tmps : Array Value) (w : World) (g : Nat) (t : TypeId) (cs : Array Value) (fr : Nat × Nat)
    (hp : tmps.getD p undef = .pointer (some ⟨g, 0, none⟩)) (hg : w.heap[g]? = some (.cells cs t fr)) (hs : cs.size = 4) : (results fn tmps).run Tryz.prog w = .ok (.tuple #[.agg cs, tmps.getD u undef]) w := by
  have hl := run_loadVar_row (P := Tryz.prog) w g t 24 cs fr _ hg Tryz.underlying24 rfl (by rw [req_size, hs])
  rw [results_cell_tmp h, hp]
  simp [asAddr, Result.andThen, hl]
theorem results_req3 {fn : Func} {p u v : Tmp} (h : fn.results = #[.cell p 24, .tmp u, .tmp v]) (tmps : Array Value) (w : World) (g : Nat) (t : TypeId) (cs : Array Value) (fr : Nat × Nat)
    (hp : tmps.getD p undef = .pointer (some ⟨g, 0, none⟩)) (hg : w.heap[g]? = some (.cells cs t fr)) (hs : cs.size = 4) : (results fn tmps).run Tryz.prog w = .ok (.tuple #[.agg cs, tmps.getD u undef, tmps.getD v undef]) w := by
  have hl := run_loadVar_row (P := Tryz.prog) w g t 24 cs fr _ hg Tryz.underlying24 rfl (by rw [req_size, hs])
  have hp' : tmps[p]?.getD undef = .pointer (some ⟨g, 0, none⟩) := by simpa using hp
  simp [results, h, hp', asAddr, Result.andThen, hl]
def reqC (s : PS) (v : Value) : Array Value := #[.string (str s.method), .string (str s.target), .int .i64 s.minor, v]
def reqZ : Array Value := #[.string ⟨#[]⟩, .string ⟨#[]⟩, .int .i64 0, .slice none 0 0]
structure Rd_req (U : World) (g : Nat) (c1 c2 c3 c4 : Value) : Prop where
  a1 : U.cell? ⟨g, 8, none⟩ = some c1
  a2 : U.cell? ⟨g, 9, none⟩ = some c2
  a3 : U.cell? ⟨g, 11, none⟩ = some c3
  a4 : U.cell? ⟨g, 13, none⟩ = some c4
theorem Rd_req.below {U V : World} {g : Nat} {c1 c2 c3 c4 : Value} (h : Rd_req U g c1 c2 c3 c4) (hb : Below U.heap.size U V) : Rd_req V g c1 c2 c3 c4 := ⟨cell_keep hb h.a1, cell_keep hb h.a2, cell_keep hb h.a3, cell_keep hb h.a4⟩
theorem Rd_req.only {F : Nat → Prop} {U V : World} {g : Nat} {c1 c2 c3 c4 : Value} (h : Rd_req U g c1 c2 c3 c4) (ho : Only F U V) (hg : ¬ F g) : Rd_req V g c1 c2 c3 c4 := ⟨cell_only ho hg h.a1, cell_only ho hg h.a2, cell_only ho hg h.a3, cell_only ho hg h.a4⟩
set_option maxRecDepth 20000 in
set_option maxHeartbeats 8000000 in
theorem req_no {F : Nat → Prop} {w : World} {g : Nat} {s : PS} (h : RdAt F w g s) (hs : ¬ (s.st = 11 ∧ s.resp = false)) : Calls Tryz.prog 37 #[.pointer (some ⟨g, 0, none⟩)] w fun e w' => e = .returned (.tuple #[.agg reqZ, errOf 8]) ∧ Below w.heap.size w w' := by
  obtain ⟨p, f, hr, hf⟩ := h
  have hb := hr.blk
  unfold rdCells at hb
  have hc := cells14 hb
  have hlt := lt_of_heap hb
  have hb1 := (below_new w (.cells reqZ 24 (0, 0)))
  have k0 := cell_keep hb1 hc.a0
  have k4 := cell_keep hb1 hc.a4
  have HW := hid (whole_any g s.st (w.alloc (.cells reqZ 24 (0, 0))) k4)
  unfold reqZ at HW k0 k4 hb1
  by_cases h11 : s.st = 11
  · obtain ⟨r, hr0⟩ : ∃ r, s.resp = r := ⟨_, rfl⟩
    rw [hr0] at k0
    obtain rfl : r = true := by cases r <;> simp_all
    rw [decide_eq_true h11] at HW
    clear hr hf hb hc hs h11 hr0
    go_enter Tryz.func37, Tryz.ntmps37
    go_wp2_with (go_at_call 54; (with_reducible refine HW.out.mono ?_); rintro e w1 ⟨rfl, hw1⟩; subst w1)
    (try simp only [Exit.inBlock, Exit.then])
    refine bodyPost_ret (results_req rfl _ _ _ 24 _ (0, 0) rfl (heap_alloc_new w _) rfl) rfl ?_
    exact ⟨rfl, below_new _ _⟩
  · rw [decide_eq_false h11] at HW
    clear hr hf hb hc hs h11
    go_enter Tryz.func37, Tryz.ntmps37
    go_wp2_with (go_at_call 54; (with_reducible refine HW.out.mono ?_); rintro e w1 ⟨rfl, hw1⟩; subst w1)
    (try simp only [Exit.inBlock, Exit.then])
    refine bodyPost_ret (results_req rfl _ _ _ 24 _ (0, 0) rfl (heap_alloc_new w _) rfl) rfl ?_
    exact ⟨rfl, below_new _ _⟩
set_option maxRecDepth 20000 in
set_option maxHeartbeats 8000000 in
theorem req_yes {F : Nat → Prop} {w : World} {g : Nat} {s : PS} (h : RdAt F w g s) (h11 : s.st = 11) (hrs : s.resp = false) (hfl : s.fields.length ≤ 64) : Calls Tryz.prog 37 #[.pointer (some ⟨g, 0, none⟩)] w fun e w' => ∃ v, e = .returned (.tuple #[.agg (reqC s v), errOf 0]) ∧ OwnF w' w.heap.size v s.fields ∧ Below w.heap.size w w' := by
  obtain ⟨p, f, hr, hf⟩ := h
  obtain ⟨fp, fl, fc, rfl⟩ := own_slice3 hr.flds
  have hfn := sliceF_len hr.flds
  have hb := hr.blk
  unfold rdCells at hb
  have hc := cells14 hb
  have hlt := lt_of_heap hb
  have hb1 := (below_new w (.cells reqZ 24 (0, 0)))
  have k0 := cell_keep hb1 hc.a0
  rw [hrs] at k0
  have k4 := cell_keep hb1 hc.a4
  obtain ⟨X8, hX8⟩ : ∃ X8, str s.method = X8 := ⟨_, rfl⟩
  obtain ⟨X9, hX9⟩ : ∃ X9, str s.target = X9 := ⟨_, rfl⟩
  obtain ⟨W0, hW0⟩ : ∃ W0, W0 = w.alloc (.cells reqZ 24 (0, 0)) := ⟨_, rfl⟩
  have HW := hid (whole_any g s.st (w.alloc (.cells reqZ 24 (0, 0))) k4)
  rw [decide_eq_true h11] at HW
  have hE : Rd_req W0.drew g (.string (str s.method)) (.string (str s.target)) (.int .i64 s.minor) (.slice fp fl fc) := by rw [hW0]; exact ⟨cell_keep hb1 hc.a8, cell_keep hb1 hc.a9, cell_keep hb1 hc.a11, cell_keep hb1 hc.a13⟩
  have HB0 := hid (show Below w.heap.size w W0.drew ∧ W0.drew.heap[w.heap.size]? = some (.cells reqZ 24 (0, 0)) from by rw [hW0]; exact ⟨(below_new w _).drew, heap_alloc_new w _⟩)
  have HCl := hid (cloneF_any (hr.flds.keep HB0.out.1) (by omega))
  have HLt := hid hlt
  have hl1 : w.heap.size ≤ W0.drew.heap.size := HB0.out.1.size
  have HL1 := hid hl1
  rw [hX8, hX9] at hE
  unfold reqZ at HW k0 hW0
  clear hr hf hb hc hlt hb1 k4 hfn hfl h11 hrs hl1
  go_enter Tryz.func37, Tryz.ntmps37
  go_wp2_with (go_at_call 54; (with_reducible refine HW.out.mono ?_); rintro e w1 ⟨rfl, hw1⟩; subst w1)
  rw [← hW0]
  clear hW0 k0
  refine wp_region_noPanic ?_
  refine any_begin 20 (by kernel_rfl) (by kernel_rfl) ?_
  refine late_begin (fun U => Rd_req U g (.string X8) (.string X9) (.int .i64 s.minor) (.slice fp fl fc)) (fun _ => false) hE (fun hS => ?_)
  refine late_take (i := 0) (some 15) rfl rfl (by kernel_rfl) (by kernel_rfl) (by kernel_rfl) (by kernel_rfl) (by kernel_rfl) (fun _ _ _ h => h) (by rfl) (v := ?v0req) ?hy0req hS ?rest0req
  case hy0req => intro w0 hSw; obtain ⟨a1, a2, a3, a4⟩ := hSw; go_simp; try with_reducible rfl
  simp only [Act.put, List.setIfInBounds_toArray, List.set_cons_zero, List.set_cons_succ]
  refine late_take (i := 1) (some 16) rfl rfl (by kernel_rfl) (by kernel_rfl) (by kernel_rfl) (by kernel_rfl) (by kernel_rfl) (fun _ _ _ h => h) (by rfl) (v := ?v1req) ?hy1req hS ?rest1req
  case hy1req => intro w0 hSw; obtain ⟨a1, a2, a3, a4⟩ := hSw; go_simp; try with_reducible rfl
  simp only [Act.put, List.setIfInBounds_toArray, List.set_cons_zero, List.set_cons_succ]
  refine late_take (i := 2) (some 17) rfl rfl (by kernel_rfl) (by kernel_rfl) (by kernel_rfl) (by kernel_rfl) (by kernel_rfl) (fun _ _ _ h => h) (by rfl) (v := ?v2req) ?hy2req hS ?rest2req
  case hy2req => intro w0 hSw; obtain ⟨a1, a2, a3, a4⟩ := hSw; go_simp; try with_reducible rfl
  simp only [Act.put, List.setIfInBounds_toArray, List.set_cons_zero, List.set_cons_succ]
  refine late_take (i := 3) (some 18) rfl rfl (by kernel_rfl) (by kernel_rfl) (by kernel_rfl) (by kernel_rfl) (by kernel_rfl) (fun _ _ _ h => h) (by rfl) (v := ?v3req) ?hy3req hS ?rest3req
  case hy3req => intro w0 hSw; obtain ⟨a1, a2, a3, a4⟩ := hSw; go_simp; try with_reducible rfl
  simp only [Act.put, List.setIfInBounds_toArray, List.set_cons_zero, List.set_cons_succ]
  refine late_take (i := 4) (some 19) rfl rfl (by kernel_rfl) (by kernel_rfl) (by kernel_rfl) (by kernel_rfl) (by kernel_rfl) (fun _ _ _ h => h) (by rfl) (v := ?v4req) ?hy4req hS ?rest4req
  case hy4req => intro w0 hSw; obtain ⟨a1, a2, a3, a4⟩ := hSw; go_simp; try with_reducible rfl
  simp only [Act.put, List.setIfInBounds_toArray, List.set_cons_zero, List.set_cons_succ]
  refine late_take (i := 5) (some 20) rfl rfl (by kernel_rfl) (by kernel_rfl) (by kernel_rfl) (by kernel_rfl) (by kernel_rfl) (fun _ _ _ h => h) (by rfl) (v := ?v5req) ?hy5req hS ?rest5req
  case hy5req => intro w0 hSw; obtain ⟨a1, a2, a3, a4⟩ := hSw; go_simp; try with_reducible rfl
  simp only [Act.put, List.setIfInBounds_toArray, List.set_cons_zero, List.set_cons_succ]
  refine late_take (i := 6) (some 21) rfl rfl (by kernel_rfl) (by kernel_rfl) (by kernel_rfl) (by kernel_rfl) (by kernel_rfl) (fun _ _ _ h => h) (by rfl) (v := ?v6req) ?hy6req hS ?rest6req
  case hy6req => intro w0 hSw; obtain ⟨a1, a2, a3, a4⟩ := hSw; go_simp; try with_reducible rfl
  simp only [Act.put, List.setIfInBounds_toArray, List.set_cons_zero, List.set_cons_succ]
  refine late_take (i := 7) (some 22) rfl rfl (by kernel_rfl) (by kernel_rfl) (by kernel_rfl) (by kernel_rfl) (by kernel_rfl) (fun _ _ _ h => h) (by rfl) (v := ?v7req) ?hy7req hS ?rest7req
  case hy7req => intro w0 hSw; obtain ⟨a1, a2, a3, a4⟩ := hSw; go_simp; try with_reducible rfl
  simp only [Act.put, List.setIfInBounds_toArray, List.set_cons_zero, List.set_cons_succ]
  refine late_take (i := 8) (some 23) rfl rfl (by kernel_rfl) (by kernel_rfl) (by kernel_rfl) (by kernel_rfl) (by kernel_rfl) (fun _ _ _ h => h) (by rfl) (v := ?v8req) ?hy8req hS ?rest8req
  case hy8req => intro w0 hSw; obtain ⟨a1, a2, a3, a4⟩ := hSw; go_simp; try with_reducible rfl
  simp only [Act.put, List.setIfInBounds_toArray, List.set_cons_zero, List.set_cons_succ]
  refine late_take (i := 9) (some 24) rfl rfl (by kernel_rfl) (by kernel_rfl) (by kernel_rfl) (by kernel_rfl) (by kernel_rfl) (fun _ _ _ h => h) (by rfl) (v := ?v9req) ?hy9req hS ?rest9req
  case hy9req => intro w0 hSw; obtain ⟨a1, a2, a3, a4⟩ := hSw; go_simp; try with_reducible rfl
  simp only [Act.put, List.setIfInBounds_toArray, List.set_cons_zero, List.set_cons_succ]
  refine late_take (i := 10) (some 25) rfl rfl (by kernel_rfl) (by kernel_rfl) (by kernel_rfl) (by kernel_rfl) (by kernel_rfl) (fun _ _ _ h => h) (by rfl) (v := ?v10req) ?hy10req hS ?rest10req
  case hy10req => intro w0 hSw; obtain ⟨a1, a2, a3, a4⟩ := hSw; go_simp; try with_reducible rfl
  simp only [Act.put, List.setIfInBounds_toArray, List.set_cons_zero, List.set_cons_succ]
  refine late_take (i := 11) (some 26) rfl rfl (by kernel_rfl) (by kernel_rfl) (by kernel_rfl) (by kernel_rfl) (by kernel_rfl) (fun _ _ _ h => h) (by rfl) (v := ?v11req) ?hy11req hS ?rest11req
  case hy11req => intro w0 hSw; obtain ⟨a1, a2, a3, a4⟩ := hSw; go_simp; try with_reducible rfl
  simp only [Act.put, List.setIfInBounds_toArray, List.set_cons_zero, List.set_cons_succ]
  refine late_take (i := 12) (some 27) rfl rfl (by kernel_rfl) (by kernel_rfl) (by kernel_rfl) (by kernel_rfl) (by kernel_rfl) (fun _ _ _ h => h) (by rfl) (v := ?v12req) ?hy12req hS ?rest12req
  case hy12req => intro w0 hSw; obtain ⟨a1, a2, a3, a4⟩ := hSw; go_simp; try with_reducible rfl
  simp only [Act.put, List.setIfInBounds_toArray, List.set_cons_zero, List.set_cons_succ]
  refine late_take (i := 13) (some 28) rfl rfl (by kernel_rfl) (by kernel_rfl) (by kernel_rfl) (by kernel_rfl) (by kernel_rfl) (fun _ _ _ h => h) (by rfl) (v := ?v13req) ?hy13req hS ?rest13req
  case hy13req => intro w0 hSw; obtain ⟨a1, a2, a3, a4⟩ := hSw; go_simp; try with_reducible rfl
  simp only [Act.put, List.setIfInBounds_toArray, List.set_cons_zero, List.set_cons_succ]
  refine late_take (i := 14) (some 29) rfl rfl (by kernel_rfl) (by kernel_rfl) (by kernel_rfl) (by kernel_rfl) (by kernel_rfl) (fun _ _ _ h => h) (by rfl) (v := ?v14req) ?hy14req hS ?rest14req
  case hy14req => intro w0 hSw; obtain ⟨a1, a2, a3, a4⟩ := hSw; go_simp; try with_reducible rfl
  simp only [Act.put, List.setIfInBounds_toArray, List.set_cons_zero, List.set_cons_succ]
  refine late_take (i := 15) (some 30) rfl rfl (by kernel_rfl) (by kernel_rfl) (by kernel_rfl) (by kernel_rfl) (by kernel_rfl) (fun _ _ _ h => h) (by rfl) (v := ?v15req) ?hy15req hS ?rest15req
  case hy15req => intro w0 hSw; obtain ⟨a1, a2, a3, a4⟩ := hSw; go_simp; try with_reducible rfl
  simp only [Act.put, List.setIfInBounds_toArray, List.set_cons_zero, List.set_cons_succ]
  refine wpAnyD_one (i := 16) (by kernel_rfl) rfl (fun K hK => ?_)
  go_simp
  go_at_call 55
  refine HCl.out.mono ?_
  rintro e w2 ⟨q, d, rfl, ho, hb⟩
  have HO2 := hid ho
  have HB2 := hid (show Below w.heap.size w w2 ∧ w2.heap[w.heap.size]? = some (.cells reqZ 24 (0, 0)) from ⟨HB0.out.1.trans (hb.mono HL1.out), (hb.block _ (lt_of_heap HB0.out.2)).trans HB0.out.2⟩)
  have hS2 := hS.below hb
  refine hK _ _ ⟨fun _ => hS2, ?_⟩
  clear hK K hS ho hb hE
  have hS := hS2
  clear hS2
  refine late_take (i := 17) (some 32) rfl rfl (by kernel_rfl) (by kernel_rfl) (by kernel_rfl) (by kernel_rfl) (by kernel_rfl) (fun _ _ _ h => h) (by rfl) (v := ?v17req) ?hy17req hS ?rest17req
  case hy17req => intro w0 hSw; obtain ⟨a1, a2, a3, a4⟩ := hSw; go_simp; try with_reducible rfl
  simp only [Act.put, List.setIfInBounds_toArray, List.set_cons_zero, List.set_cons_succ]
  have hz := HB2.out.2
  unfold reqZ at hz
  obtain ⟨y0, y1, y2, y3, yz⟩ := cells4 hz
  have yz0 := yz 0; have yz1 := yz 1; have yz2 := yz 2; have yz3 := yz 3
  clear yz hz
  refine wpAnyD_one (i := 18) (by kernel_rfl) rfl (fun K hK => ?_)
  go_simp
  have HQ : ∀ a b c d : Value, Rd_req ((((w2.setCell ⟨w.heap.size, 0, none⟩ a).setCell ⟨w.heap.size, 1, none⟩ b).setCell ⟨w.heap.size, 2, none⟩ c).setCell ⟨w.heap.size, 3, none⟩ d) g (.string X8) (.string X9) (.int .i64 s.minor) (.slice fp fl fc) := fun a b c d => hS.only (F := fun k => k = w.heap.size) (only4 (F := fun k => k = w.heap.size) rfl a b c d) (fun e => by have := HLt.out; omega)
  refine hK _ _ ⟨fun _ => HQ _ _ _ _, ?_⟩
  clear hK K hS
  refine late_take (i := 19) (some 3) rfl rfl (by kernel_rfl) (by kernel_rfl) (by kernel_rfl) (by kernel_rfl) (by kernel_rfl) (fun _ _ _ h => h) (by rfl) (v := ?v19req) ?hy19req (HQ _ _ _ _) ?rest19req
  case hy19req => intro w0 hSw; obtain ⟨a1, a2, a3, a4⟩ := hSw; go_simp; try with_reducible rfl
  simp only [Act.put, List.setIfInBounds_toArray, List.set_cons_zero, List.set_cons_succ]
  refine late_done (by kernel_rfl) ?_ _
  refine NoPanic.normal ?_
  go_wp2
  (try simp only [Exit.inBlock, Exit.then])
  refine bodyPost_ret (results_req rfl _ _ _ 24 _ (0, 0) rfl (fourC (by have := HB2.out.2; unfold reqZ at this; exact this) _ _ _ _) rfl) rfl ?_
  refine ⟨.slice q fl d, ?_, ?_, below_four HB2.out.1 _ _ _ _⟩
  · unfold reqC
    rw [hX8, hX9]
    rfl
  · exact ownF_set4 (OwnF.lower HO2.out HL1.out) HB2.out.2 req_ne _ _ _ _
def respC (s : PS) (v : Value) : Array Value := #[.int .i64 s.status, .string (str s.reason), .int .i64 s.minor, v]
def respZ : Array Value := #[.int .i64 0, .string ⟨#[]⟩, .int .i64 0, .slice none 0 0]
structure Rd_resp (U : World) (g : Nat) (c1 c2 c3 c4 : Value) : Prop where
  a1 : U.cell? ⟨g, 12, none⟩ = some c1
  a2 : U.cell? ⟨g, 10, none⟩ = some c2
  a3 : U.cell? ⟨g, 11, none⟩ = some c3
  a4 : U.cell? ⟨g, 13, none⟩ = some c4
theorem Rd_resp.below {U V : World} {g : Nat} {c1 c2 c3 c4 : Value} (h : Rd_resp U g c1 c2 c3 c4) (hb : Below U.heap.size U V) : Rd_resp V g c1 c2 c3 c4 := ⟨cell_keep hb h.a1, cell_keep hb h.a2, cell_keep hb h.a3, cell_keep hb h.a4⟩
theorem Rd_resp.only {F : Nat → Prop} {U V : World} {g : Nat} {c1 c2 c3 c4 : Value} (h : Rd_resp U g c1 c2 c3 c4) (ho : Only F U V) (hg : ¬ F g) : Rd_resp V g c1 c2 c3 c4 := ⟨cell_only ho hg h.a1, cell_only ho hg h.a2, cell_only ho hg h.a3, cell_only ho hg h.a4⟩
end Go.Proofs.YthakldcfpndabaaGreatDoor
