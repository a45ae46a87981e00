/- The program's reader: a new one; the head that was read, its fields copied. -/
import Derived.Test.YtnlmjlfoeodleaaGreatDoorPFeed
namespace Go.Proofs.YtnlmjlfoeodleaaGreatDoor
open Go.RowKit

theorem OwnF.news {w : World} {b n c : Nat} {ad : Addr} {fs : List (B × B)} (h : OwnF w b (.slice (some ad) n c) fs) : ∀ j u, (fldC fs)[j]? = some u → w.cell? (ad.add j) = some u := by
  rcases h.2 with ⟨h1, _⟩ | ⟨g, cap, cur, h1, h2, h3, h4, _, h6, h7⟩
  · cases h1
  · simp only [Value.slice.injEq, Option.some.injEq] at h1
    obtain ⟨rfl, _, _⟩ := h1
    intro j u hj
    rw [add_off]
    have hlt : j < (fldC fs).length := (List.getElem?_eq_some_iff.1 hj).1
    rw [fldC_len] at hlt
    rw [← h7, List.getElem?_take, if_pos hlt] at hj
    simp only [World.cell?, h3]
    simpa using hj
theorem fldC_one (fs : List (B × B)) : ∀ u ∈ fldC fs, u.oneCell' = true := by
  intro u hu
  unfold fldC at hu
  rw [List.mem_flatMap] at hu
  obtain ⟨f, _, hu⟩ := hu
  simp at hu
  rcases hu with rfl | rfl <;> rfl
set_option maxRecDepth 20000 in
set_option maxHeartbeats 8000000 in
theorem cloneF_any {w : World} {b n c : Nat} {p : Option Addr} {fs : List (B × B)} (h : OwnF w b (.slice p n c) fs) (hn : n ≤ 1048576) : Calls Tryz.prog 72 #[.slice p n c] w fun e w' => ∃ q d, e = .returned (.slice q n d) ∧ OwnF w' w.heap.size (.slice q n d) fs ∧ Below w.heap.size w w' := by
  have qn : ∀ (w : World) (a : Option Addr) (n c n' c' : Nat), (binOp .eql 33 (.slice a n c) (.slice none n' c')).run Tryz.prog w = .ok (.bool a.isNone) w := fun w a n c n' c' => Lib.run_eql_slice_nil w _ _ a n c n' c' Tryz.underlying33
  have hln := sliceF_len h
  cases p with
  | none =>
    obtain ⟨rfl, rfl⟩ : n = 0 ∧ c = 0 := by
      rcases h.2 with ⟨h1, _⟩ | ⟨g, cap, cur, h1, _⟩
      · cases h1; exact ⟨rfl, rfl⟩
      · cases h1
    obtain rfl : fs = [] := List.eq_nil_of_length_eq_zero hln
    clear h hn hln
    go_enter Tryz.func72, Tryz.ntmps72
    go_wp2
    go_ret
    exact ⟨none, 0, rfl, OwnF.nil _ _, Below.refl _ _⟩
  | some a =>
    obtain ⟨i0, hi0, hz0, hz1, hz2⟩ := info_parts infoF
    have HH := hid h.news
    have HL := hid hln
    have HA := hid (h.alloc (.cells #[] 88 (0, 0)))
    clear h hln
    go_enter Tryz.func72, Tryz.ntmps72
    go_wp2_with (at_builtin; refine wpList_append_own_at (w.alloc (.cells #[] 88 (0, 0))) rfl (.tmp 5) (.tmp 6) 33 rfl w.heap.size 88 i0 _ 2 32 Tryz.underlying33 hi0 hz0 hz1 hz2 rfl (by decide) (.slice (some ⟨w.heap.size, 0, none⟩) 0 0) 0 [] (by go_simp) (⟨rfl, .inr ⟨w.heap.size, 0, #[], rfl, Nat.le_refl _, heap_alloc_new _ _, Nat.le_refl _, Nat.zero_le _, rfl, rfl⟩⟩) a n c (fldC fs) (by go_simp) (by rw [fldC_len, HL.out]) HA.out.news (fldC_one fs) (by unfold maxLen; omega) (by omega) (by simp) ?_; intro v' w1 hown hgr _ _; rw [Nat.zero_add, List.nil_append] at hown; obtain ⟨q, d, rfl⟩ := own_slice hown; have HO := hid (show OwnF w1 w.heap.size (.slice q n d) fs from by unfold OwnF; rw [HL.out]; exact hown); have HB := hid (show Below w.heap.size w w1 from (below_new w _).trans ⟨hgr.os, hgr.tape, hgr.output, hgr.size, fun k hk => hgr.block k (by simp; omega) (fun e => by simp [Value.ownBlock] at e; omega)⟩); clear hown hgr)
    go_ret
    exact ⟨q, d, rfl, HO.out, HB.out⟩
theorem OwnF.lower {w : World} {b b' : Nat} {v : Value} {acc : List (B × B)} (h : OwnF w b v acc) (hb : b' ≤ b) : OwnF w b' v acc := by
  refine ⟨h.1, ?_⟩
  rcases h.2 with h1 | ⟨g, cap, cur, h1, h2, h3⟩
  · exact .inl h1
  · exact .inr ⟨g, cap, cur, h1, Nat.le_trans hb h2, h3⟩
theorem fourC {w : World} {g : Nat} {T : TypeId} {fr : Nat × Nat} {x0 x1 x2 x3 : Value} (h : w.heap[g]? = some (.cells #[x0, x1, x2, x3] T fr)) (c0 c1 c2 c3 : Value) :
    ((((w.setCell ⟨g, 0, none⟩ c0).setCell ⟨g, 1, none⟩ c1).setCell ⟨g, 2, none⟩ c2).setCell ⟨g, 3, none⟩ c3).heap[g]? = some (.cells #[c0, c1, c2, c3] T fr) := by
  simp [World.setCell, Array.getElem?_modify, h]
theorem below_four {w w1 : World} {g : Nat} (h : Below g w w1) (c0 c1 c2 c3 : Value) : Below g w ((((w1.setCell ⟨g, 0, none⟩ c0).setCell ⟨g, 1, none⟩ c1).setCell ⟨g, 2, none⟩ c2).setCell ⟨g, 3, none⟩ c3) := by
  iterate 4 refine Below.setCell ?_ (show g ≤ g from Nat.le_refl g) _
  exact h
structure Cells4 (w : World) (g : Nat) (c0 c1 c2 c3 : Value) : Prop where
  a0 : w.cell? ⟨g, 0, none⟩ = some c0
  a1 : w.cell? ⟨g, 1, none⟩ = some c1
  a2 : w.cell? ⟨g, 2, none⟩ = some c2
  a3 : w.cell? ⟨g, 3, none⟩ = some c3
  z : ∀ j, w.frozen? ⟨g, j, none⟩ = false
theorem cells4 {w : World} {g : Nat} {c0 c1 c2 c3 : Value} {T : TypeId} (h : w.heap[g]? = some (.cells #[c0, c1, c2, c3] T (0, 0))) : Cells4 w g c0 c1 c2 c3 := by
  refine ⟨?_, ?_, ?_, ?_, fun j => by simp [World.frozen?, h]⟩ <;> simp [World.cell?, h]
theorem only4 {F : Nat → Prop} {w : World} {g : Nat} (hg : F g) (c0 c1 c2 c3 : Value) : Only F w ((((w.setCell ⟨g, 0, none⟩ c0).setCell ⟨g, 1, none⟩ c1).setCell ⟨g, 2, none⟩ c2).setCell ⟨g, 3, none⟩ c3) := by
  iterate 4 refine Only.set ?_ hg _
  exact Only.refl _ _
theorem ownF_set4 {w : World} {g N : Nat} {v : Value} {fs : List (B × B)} {cs : Array Value} {T : TypeId} {fr : Nat × Nat} (h : OwnF w N v fs) (hg : w.heap[g]? = some (.cells cs T fr)) (ht : T ≠ 88) (c0 c1 c2 c3 : Value) : OwnF ((((w.setCell ⟨g, 0, none⟩ c0).setCell ⟨g, 1, none⟩ c1).setCell ⟨g, 2, none⟩ c2).setCell ⟨g, 3, none⟩ c3) N v fs := by
  refine ownF_only h (only4 (F := fun k => k = g) rfl c0 c1 c2 c3) (fun k e hk => ?_)
  subst hk
  exact ht (ownF_type h e hg)
theorem req_size : (Tryz.prog.info? 54).map (·.size) = some 4 := by kernel_rfl
theorem req_ne : (54 : Nat) ≠ 88 := by decide
theorem results_req {fn : Func} {p u : Tmp} (h : fn.results = #[.cell p 54, .tmp u]) (tmps : Array Value) (w : World) (g : Nat) (t : TypeId) (cs : Array Value) (fr : Nat × Nat)
    (hp : tmps.getD p undef = .pointer (some ⟨g, 0, none⟩)) (hg : w.heap[g]? = some (.cells cs t fr)) (hs : cs.size = 4) : (results fn tmps).run Tryz.prog w = .ok (.tuple #[.agg cs, tmps.getD u undef]) w := by
  have hl := run_loadVar_row (P := Tryz.prog) w g t 54 cs fr _ hg Tryz.underlying54 rfl (by rw [req_size, hs])
  rw [results_cell_tmp h, hp]
  simp [asAddr, Result.andThen, hl]
theorem results_req3 {fn : Func} {p u v : Tmp} (h : fn.results = #[.cell p 54, .tmp u, .tmp v]) (tmps : Array Value) (w : World) (g : Nat) (t : TypeId) (cs : Array Value) (fr : Nat × Nat)
    (hp : tmps.getD p undef = .pointer (some ⟨g, 0, none⟩)) (hg : w.heap[g]? = some (.cells cs t fr)) (hs : cs.size = 4) : (results fn tmps).run Tryz.prog w = .ok (.tuple #[.agg cs, tmps.getD u undef, tmps.getD v undef]) w := by
  have hl := run_loadVar_row (P := Tryz.prog) w g t 54 cs fr _ hg Tryz.underlying54 rfl (by rw [req_size, hs])
  have hp' : tmps[p]?.getD undef = .pointer (some ⟨g, 0, none⟩) := by simpa using hp
  simp [results, h, hp', asAddr, Result.andThen, hl]
def reqC (s : PS) (v : Value) : Array Value := #[.string (str s.method), .string (str s.target), .int .i64 s.minor, v]
def reqZ : Array Value := #[.string ⟨#[]⟩, .string ⟨#[]⟩, .int .i64 0, .slice none 0 0]
structure Rd_req (U : World) (g : Nat) (c1 c2 c3 c4 : Value) : Prop where
  a1 : U.cell? ⟨g, 8, none⟩ = some c1
  a2 : U.cell? ⟨g, 9, none⟩ = some c2
  a3 : U.cell? ⟨g, 11, none⟩ = some c3
  a4 : U.cell? ⟨g, 13, none⟩ = some c4
theorem Rd_req.below {U V : World} {g : Nat} {c1 c2 c3 c4 : Value} (h : Rd_req U g c1 c2 c3 c4) (hb : Below U.heap.size U V) : Rd_req V g c1 c2 c3 c4 := ⟨cell_keep hb h.a1, cell_keep hb h.a2, cell_keep hb h.a3, cell_keep hb h.a4⟩
theorem Rd_req.only {F : Nat → Prop} {U V : World} {g : Nat} {c1 c2 c3 c4 : Value} (h : Rd_req U g c1 c2 c3 c4) (ho : Only F U V) (hg : ¬ F g) : Rd_req V g c1 c2 c3 c4 := ⟨cell_only ho hg h.a1, cell_only ho hg h.a2, cell_only ho hg h.a3, cell_only ho hg h.a4⟩
theorem resp_size : (Tryz.prog.info? 62).map (·.size) = some 4 := by kernel_rfl
theorem resp_ne : (62 : Nat) ≠ 88 := by decide
theorem results_resp {fn : Func} {p u : Tmp} (h : fn.results = #[.cell p 62, .tmp u]) (tmps : Array Value) (w : World) (g : Nat) (t : TypeId) (cs : Array Value) (fr : Nat × Nat)
    (hp : tmps.getD p undef = .pointer (some ⟨g, 0, none⟩)) (hg : w.heap[g]? = some (.cells cs t fr)) (hs : cs.size = 4) : (results fn tmps).run Tryz.prog w = .ok (.tuple #[.agg cs, tmps.getD u undef]) w := by
  have hl := run_loadVar_row (P := Tryz.prog) w g t 62 cs fr _ hg Tryz.underlying62 rfl (by rw [resp_size, hs])
  rw [results_cell_tmp h, hp]
  simp [asAddr, Result.andThen, hl]
theorem results_resp3 {fn : Func} {p u v : Tmp} (h : fn.results = #[.cell p 62, .tmp u, .tmp v]) (tmps : Array Value) (w : World) (g : Nat) (t : TypeId) (cs : Array Value) (fr : Nat × Nat)
    (hp : tmps.getD p undef = .pointer (some ⟨g, 0, none⟩)) (hg : w.heap[g]? = some (.cells cs t fr)) (hs : cs.size = 4) : (results fn tmps).run Tryz.prog w = .ok (.tuple #[.agg cs, tmps.getD u undef, tmps.getD v undef]) w := by
  have hl := run_loadVar_row (P := Tryz.prog) w g t 62 cs fr _ hg Tryz.underlying62 rfl (by rw [resp_size, hs])
  have hp' : tmps[p]?.getD undef = .pointer (some ⟨g, 0, none⟩) := by simpa using hp
  simp [results, h, hp', asAddr, Result.andThen, hl]
def respC (s : PS) (v : Value) : Array Value := #[.int .i64 s.status, .string (str s.reason), .int .i64 s.minor, v]
def respZ : Array Value := #[.int .i64 0, .string ⟨#[]⟩, .int .i64 0, .slice none 0 0]
structure Rd_resp (U : World) (g : Nat) (c1 c2 c3 c4 : Value) : Prop where
  a1 : U.cell? ⟨g, 12, none⟩ = some c1
  a2 : U.cell? ⟨g, 10, none⟩ = some c2
  a3 : U.cell? ⟨g, 11, none⟩ = some c3
  a4 : U.cell? ⟨g, 13, none⟩ = some c4
theorem Rd_resp.below {U V : World} {g : Nat} {c1 c2 c3 c4 : Value} (h : Rd_resp U g c1 c2 c3 c4) (hb : Below U.heap.size U V) : Rd_resp V g c1 c2 c3 c4 := ⟨cell_keep hb h.a1, cell_keep hb h.a2, cell_keep hb h.a3, cell_keep hb h.a4⟩
theorem Rd_resp.only {F : Nat → Prop} {U V : World} {g : Nat} {c1 c2 c3 c4 : Value} (h : Rd_resp U g c1 c2 c3 c4) (ho : Only F U V) (hg : ¬ F g) : Rd_resp V g c1 c2 c3 c4 := ⟨cell_only ho hg h.a1, cell_only ho hg h.a2, cell_only ho hg h.a3, cell_only ho hg h.a4⟩
end Go.Proofs.YtnlmjlfoeodleaaGreatDoor
