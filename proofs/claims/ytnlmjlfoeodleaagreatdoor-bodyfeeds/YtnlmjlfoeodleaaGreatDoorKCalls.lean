/- The program's reader of chunked bodies: a new one, its trailers, its twin, none; Whole. -/
import Derived.Test.YtnlmjlfoeodleaaGreatDoorKFeed
namespace Go.Proofs.YtnlmjlfoeodleaaGreatDoor
open Go.RowKit

/-- A new reader: its own block alone. -/
theorem RdAt.new (w : World) (m : Nat) : RdAt (fun k => k = w.heap.size) (w.alloc (.cells (kdCells (newK m) (.slice none 0 0) (.slice none 0 0)) 128 (0, 0))) w.heap.size (newK m) :=
  ⟨_, _, ⟨heap_alloc_new w _, OwnF.nil _ _, Own.nil _ _⟩, rfl, fun k e => by simp [Value.ownBlock] at e, fun k e => by simp [Value.ownBlock] at e⟩
set_option maxRecDepth 20000 in
set_option maxHeartbeats 8000000 in
theorem new_no1 (m : Int) (w : World) (hm : m < 0) : Calls Tryz.prog 65 #[.int .i64 m] w fun e w' => e = .returned (.tuple #[.pointer none, .iface 72 (.int .i64 1)]) ∧ w' = w := by
  go_enter Tryz.func65, Tryz.ntmps65
  go_wp2
  go_ret2
  exact ⟨rfl, rfl⟩
set_option maxRecDepth 20000 in
set_option maxHeartbeats 8000000 in
theorem new_no2 (m : Int) (w : World) (hm : ¬ m < 0) (h2 : decide ((1099511627776 : Int) < m) = true) : Calls Tryz.prog 65 #[.int .i64 m] w fun e w' => e = .returned (.tuple #[.pointer none, .iface 72 (.int .i64 1)]) ∧ w' = w := by
  go_enter Tryz.func65, Tryz.ntmps65
  go_wp2
  go_ret2
  exact ⟨rfl, rfl⟩
theorem new_no (m : Int) (w : World) (hm : ¬ (0 ≤ m ∧ m ≤ 1099511627776)) : Calls Tryz.prog 65 #[.int .i64 m] w fun e w' => e = .returned (.tuple #[.pointer none, .iface 72 (.int .i64 1)]) ∧ w' = w := by
  by_cases h : m < 0
  · exact new_no1 m w h
  · exact new_no2 m w h (decide_eq_true (by omega))
set_option maxRecDepth 20000 in
set_option maxHeartbeats 8000000 in
theorem new_yes' (m : Nat) (w : World) (hm : decide ((1099511627776 : Int) < (m : Int)) = false) : Calls Tryz.prog 65 #[.int .i64 (m : Int)] w fun e w' => e = .returned (.tuple #[.pointer (some ⟨w.heap.size, 0, none⟩), .nilIface]) ∧ RdAt (fun k => k = w.heap.size) w' w.heap.size (newK m) ∧ Below w.heap.size w w' ∧ w'.heap.size = w.heap.size + 1 := by
  have HN := hid (RdAt.new w m)
  have h0 : ¬ (m : Int) < 0 := by omega
  go_enter Tryz.func65, Tryz.ntmps65
  go_wp2
  go_ret2
  exact ⟨rfl, HN.out, below_new _ _, by simp⟩
theorem new_yes (m : Nat) (w : World) (hm : m ≤ 1099511627776) : Calls Tryz.prog 65 #[.int .i64 (m : Int)] w fun e w' => e = .returned (.tuple #[.pointer (some ⟨w.heap.size, 0, none⟩), .nilIface]) ∧ RdAt (fun k => k = w.heap.size) w' w.heap.size (newK m) ∧ Below w.heap.size w w' ∧ w'.heap.size = w.heap.size + 1 := new_yes' m w (decide_eq_false (by omega))
theorem OwnF.news {w : World} {b n c : Nat} {ad : Addr} {fs : List (B × B)} (h : OwnF w b (.slice (some ad) n c) fs) : ∀ j u, (fldC fs)[j]? = some u → w.cell? (ad.add j) = some u := by
  rcases h.2 with ⟨h1, _⟩ | ⟨g, cap, cur, h1, h2, h3, h4, _, h6, h7⟩
  · cases h1
  · simp only [Value.slice.injEq, Option.some.injEq] at h1
    obtain ⟨rfl, _, _⟩ := h1
    intro j u hj
    rw [add_off]
    have hlt : j < (fldC fs).length := (List.getElem?_eq_some_iff.1 hj).1
    rw [fldC_len] at hlt
    rw [← h7, List.getElem?_take, if_pos hlt] at hj
    simp only [World.cell?, h3]
    simpa using hj
theorem fldC_one (fs : List (B × B)) : ∀ u ∈ fldC fs, u.oneCell' = true := by
  intro u hu
  unfold fldC at hu
  rw [List.mem_flatMap] at hu
  obtain ⟨f, _, hu⟩ := hu
  simp at hu
  rcases hu with rfl | rfl <;> rfl
set_option maxRecDepth 20000 in
set_option maxHeartbeats 8000000 in
theorem cloneF_any {w : World} {b n c : Nat} {p : Option Addr} {fs : List (B × B)} (h : OwnF w b (.slice p n c) fs) (hn : n ≤ 1048576) : Calls Tryz.prog 72 #[.slice p n c] w fun e w' => ∃ q d, e = .returned (.slice q n d) ∧ OwnF w' w.heap.size (.slice q n d) fs ∧ Below w.heap.size w w' := by
  have qn : ∀ (w : World) (a : Option Addr) (n c n' c' : Nat), (binOp .eql 33 (.slice a n c) (.slice none n' c')).run Tryz.prog w = .ok (.bool a.isNone) w := fun w a n c n' c' => Lib.run_eql_slice_nil w _ _ a n c n' c' Tryz.underlying33
  have hln := sliceF_len h
  cases p with
  | none =>
    obtain ⟨rfl, rfl⟩ : n = 0 ∧ c = 0 := by
      rcases h.2 with ⟨h1, _⟩ | ⟨g, cap, cur, h1, _⟩
      · cases h1; exact ⟨rfl, rfl⟩
      · cases h1
    obtain rfl : fs = [] := List.eq_nil_of_length_eq_zero hln
    clear h hn hln
    go_enter Tryz.func72, Tryz.ntmps72
    go_wp2
    go_ret
    exact ⟨none, 0, rfl, OwnF.nil _ _, Below.refl _ _⟩
  | some a =>
    obtain ⟨i0, hi0, hz0, hz1, hz2⟩ := info_parts infoF
    have HH := hid h.news
    have HL := hid hln
    have HA := hid (h.alloc (.cells #[] 88 (0, 0)))
    clear h hln
    go_enter Tryz.func72, Tryz.ntmps72
    go_wp2_with (at_builtin; refine wpList_append_own_at (w.alloc (.cells #[] 88 (0, 0))) rfl (.tmp 5) (.tmp 6) 33 rfl w.heap.size 88 i0 _ 2 32 Tryz.underlying33 hi0 hz0 hz1 hz2 rfl (by decide) (.slice (some ⟨w.heap.size, 0, none⟩) 0 0) 0 [] (by go_simp) (⟨rfl, .inr ⟨w.heap.size, 0, #[], rfl, Nat.le_refl _, heap_alloc_new _ _, Nat.le_refl _, Nat.zero_le _, rfl, rfl⟩⟩) a n c (fldC fs) (by go_simp) (by rw [fldC_len, HL.out]) HA.out.news (fldC_one fs) (by unfold maxLen; omega) (by omega) (by simp) ?_; intro v' w1 hown hgr _ _; rw [Nat.zero_add, List.nil_append] at hown; obtain ⟨q, d, rfl⟩ := own_slice hown; have HO := hid (show OwnF w1 w.heap.size (.slice q n d) fs from by unfold OwnF; rw [HL.out]; exact hown); have HB := hid (show Below w.heap.size w w1 from (below_new w _).trans ⟨hgr.os, hgr.tape, hgr.output, hgr.size, fun k hk => hgr.block k (by simp; omega) (fun e => by simp [Value.ownBlock] at e; omega)⟩); clear hown hgr)
    go_ret
    exact ⟨q, d, rfl, HO.out, HB.out⟩
theorem OwnF.lower {w : World} {b b' : Nat} {v : Value} {acc : List (B × B)} (h : OwnF w b v acc) (hb : b' ≤ b) : OwnF w b' v acc := by
  refine ⟨h.1, ?_⟩
  rcases h.2 with h1 | ⟨g, cap, cur, h1, h2, h3⟩
  · exact .inl h1
  · exact .inr ⟨g, cap, cur, h1, Nat.le_trans hb h2, h3⟩
theorem Own.news {w : World} {b n c : Nat} {ad : Addr} {acc : B} (h : Own w b (.slice (some ad) n c) acc) : ∀ j u, (Lib.byteCells acc)[j]? = some u → w.cell? (ad.add j) = some u := by
  rcases h.2 with ⟨h1, _⟩ | ⟨g, cap, cur, h1, h2, h3, h4, _, h6, h7⟩
  · cases h1
  · simp only [Value.slice.injEq, Option.some.injEq] at h1
    obtain ⟨rfl, _, _⟩ := h1
    intro j u hj
    rw [add_off]
    have hlt : j < (Lib.byteCells acc).length := (List.getElem?_eq_some_iff.1 hj).1
    have hll : (Lib.byteCells acc).length = acc.length := by simp [Lib.byteCells]
    rw [← h7, List.getElem?_take, if_pos (by omega)] at hj
    simp only [World.cell?, h3]
    simpa using hj
set_option maxRecDepth 20000 in
set_option maxHeartbeats 8000000 in
theorem trailers_any {F : Nat → Prop} {w : World} {g : Nat} {s : KS} (h : RdAt F w g s) (htr : s.tr.length ≤ 64) : Calls Tryz.prog 35 #[.pointer (some ⟨g, 0, none⟩)] w fun e w' => ∃ q d, e = .returned (.slice q s.tr.length d) ∧ OwnF w' w.heap.size (.slice q s.tr.length d) s.tr ∧ Below w.heap.size w w' := by
  obtain ⟨t, p, hr, hf⟩ := h
  obtain ⟨tp, tn, tc, rfl⟩ := own_slice3 hr.trs
  have htn := sliceF_len hr.trs
  have HC := hid (cloneF_any hr.trs (by omega))
  have hb := hr.blk
  unfold kdCells at hb
  obtain ⟨_, _, _, _, _, _, k6, _, _, _, _⟩ := cells10 hb
  rw [htn]
  clear hr hf hb htn htr
  go_enter Tryz.func35, Tryz.ntmps35
  go_wp2_with (go_at_call 72; (with_reducible refine HC.out.mono ?_); rintro e w1 ⟨q, d, rfl, ho, hb⟩; have HO := hid ho; have HB := hid hb; clear ho hb)
  go_ret
  exact ⟨q, d, rfl, HO.out, HB.out⟩
set_option maxRecDepth 20000 in
set_option maxHeartbeats 8000000 in
theorem nil_feed (p : Option Addr) (n c : Nat) (w : World) : Calls Tryz.prog 70 #[.pointer none, .slice p n c] w fun e w' => e = .returned (.tuple #[.int .i64 0, .slice none 0 0, .bool false, .iface 72 (.int .i64 1)]) ∧ w' = w := by
  go_enter Tryz.func70, Tryz.ntmps70
  go_wp2
  go_step3
  go_wp2
  (try rw [Exit.noGoto_ret])
  refine bodyPost_ret (results_tmp4 rfl _ _ _) rfl ?_
  exact ⟨rfl, rfl⟩
set_option maxRecDepth 20000 in
set_option maxHeartbeats 8000000 in
theorem nil_done (w : World) : Calls Tryz.prog 109 #[.pointer none] w fun e w' => e = .returned (.bool false) ∧ w' = w := by
  go_enter Tryz.func109, Tryz.ntmps109
  go_wp2
  go_ret
  exact ⟨rfl, rfl⟩
set_option maxRecDepth 20000 in
set_option maxHeartbeats 8000000 in
theorem nil_trailers (w : World) : Calls Tryz.prog 35 #[.pointer none] w fun e w' => e = .returned (.slice none 0 0) ∧ w' = w := by
  go_enter Tryz.func35, Tryz.ntmps35
  go_wp2
  go_ret
  exact ⟨rfl, rfl⟩
structure RdC (U : World) (g : Nat) (c6 c9 : Value) : Prop where
  a6 : U.cell? ⟨g, 6, none⟩ = some c6
  a9 : U.cell? ⟨g, 9, none⟩ = some c9
theorem RdC.below {U V : World} {g : Nat} {c6 c9 : Value} (h : RdC U g c6 c9) (hb : Below U.heap.size U V) : RdC V g c6 c9 := ⟨cell_keep hb h.a6, cell_keep hb h.a9⟩
theorem RdC.set {U : World} {g b : Nat} {c6 c9 : Value} (h : RdC U g c6 c9) (hg : g ≠ b) (j : Nat) (v : Value) : RdC (U.setCell ⟨b, j, none⟩ v) g c6 c9 := by
  have ho : Only (fun k => k = b) U (U.setCell ⟨b, j, none⟩ v) := (Only.refl (fun k => k = b) U).set rfl v
  exact ⟨cell_only ho hg h.a6, cell_only ho hg h.a9⟩
/-- A twin: blocks of its own alone. -/
structure Twin (w w' : World) (s : KS) : Prop where
  rd : ∃ F, RdAt F w' w.heap.size s ∧ (∀ k, F k → w.heap.size ≤ k) ∧ ∀ k, F k → k < w'.heap.size
  low : Below w.heap.size w w'
end Go.Proofs.YtnlmjlfoeodleaaGreatDoor
