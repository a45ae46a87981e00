/- The document reads a whole head. -/
import Derived.Test.YtfmkkkkdfkjdlaaDoorHReqD
import Derived.Test.YtfmkkkkdfkjdlaaDoorHFeed
namespace Go.Proofs.YtfmkkkkdfkjdlaaDoor
open Go.RowKit

theorem results_hd3 {fn : Func} {p u v : Tmp} (h : fn.results = #[.cell p 32, .tmp u, .tmp v]) (tmps : Array Value) (w : World) (g : Nat) (t : TypeId) (cs : Array Value) (fr : Nat × Nat)
    (hp : tmps.getD p undef = .pointer (some ⟨g, 0, none⟩)) (hg : w.heap[g]? = some (.cells cs t fr)) (hs : cs.size = 7) : (results fn tmps).run Tryd.prog w = .ok (.tuple #[.agg cs, tmps.getD u undef, tmps.getD v undef]) w := by
  have hl := run_loadVar_row (P := Tryd.prog) w g t 32 cs fr _ hg Tryd.underlying32 rfl (by rw [hd_size, hs])
  have hp' : tmps[p]?.getD undef = .pointer (some ⟨g, 0, none⟩) := by simpa using hp
  simp [results, h, hp', asAddr, Result.andThen, hl]
/-- The block handed out, the head's own, and what lies below. -/
structure Pair7 (w W : World) (g : Nat) (C : Array Value) : Prop where
  o : W.heap[w.heap.size]? = some (.cells #[.bool false, .int .i64 0, .slice none 0 0, .string ⟨#[]⟩, .int .i64 0, .bool false, .int .i64 0] 32 (0, 0))
  r : W.heap[g]? = some (.cells C 32 (0, 0))
  low : Below w.heap.size w W
  lt : w.heap.size < g
theorem Pair7.next {w W V : World} {g : Nat} {C : Array Value} (h : Pair7 w W g C) (hb : Below W.heap.size W V) : Pair7 w V g C :=
  ⟨(hb.block _ (lt_of_heap h.o)).trans h.o, (hb.block _ (lt_of_heap h.r)).trans h.r, h.low.trans (hb.mono h.low.size), h.lt⟩
theorem only7 {F : Nat → Prop} {w : World} {g : Nat} (hg : F g) (c0 c1 c2 c3 c4 c5 c6 : Value) : Only F w (((((((w.setCell ⟨g, 0, none⟩ (c0)).setCell ⟨g, 1, none⟩ (c1)).setCell ⟨g, 2, none⟩ (c2)).setCell ⟨g, 3, none⟩ (c3)).setCell ⟨g, 4, none⟩ (c4)).setCell ⟨g, 5, none⟩ (c5)).setCell ⟨g, 6, none⟩ (c6)) := by
  iterate 7 refine Only.set ?_ hg _
  exact Only.refl _ _
theorem Pair7.put {w W : World} {g : Nat} {x0 x1 x2 x3 x4 x5 x6 : Value} (h : Pair7 w W g #[x0, x1, x2, x3, x4, x5, x6]) (c0 c1 c2 c3 c4 c5 c6 : Value) : Pair7 w (((((((W.setCell ⟨g, 0, none⟩ (c0)).setCell ⟨g, 1, none⟩ (c1)).setCell ⟨g, 2, none⟩ (c2)).setCell ⟨g, 3, none⟩ (c3)).setCell ⟨g, 4, none⟩ (c4)).setCell ⟨g, 5, none⟩ (c5)).setCell ⟨g, 6, none⟩ (c6)) g #[c0, c1, c2, c3, c4, c5, c6] := by
  have h1 := h.lt
  have ho := only7 (F := fun k => k = g) (w := W) (g := g) rfl c0 c1 c2 c3 c4 c5 c6
  refine ⟨(ho.block _ (lt_of_heap h.o) (fun e => by have h9 : w.heap.size = g := e; omega)).trans h.o, ?_, h.low.trans (ho.below (fun k hk => by have h9 : k = g := hk; omega) h.low.size), h.lt⟩
  exact seven_put (has_seven h.r) c0 c1 c2 c3 c4 c5 c6
theorem put7 {W : World} {g : Nat} {T : TypeId} {fr : Nat × Nat} {x0 x1 x2 x3 x4 x5 x6 : Value} (h : W.heap[g]? = some (.cells #[x0, x1, x2, x3, x4, x5, x6] T fr)) (c0 c1 c2 c3 c4 c5 c6 : Value) : (((((((W.setCell ⟨g, 0, none⟩ (c0)).setCell ⟨g, 1, none⟩ (c1)).setCell ⟨g, 2, none⟩ (c2)).setCell ⟨g, 3, none⟩ (c3)).setCell ⟨g, 4, none⟩ (c4)).setCell ⟨g, 5, none⟩ (c5)).setCell ⟨g, 6, none⟩ (c6)).heap[g]? = some (.cells #[c0, c1, c2, c3, c4, c5, c6] T fr) := seven_put (has_seven h) c0 c1 c2 c3 c4 c5 c6
theorem below_seven {w w1 : World} {g : Nat} (h : Below g w w1) (c0 c1 c2 c3 c4 c5 c6 : Value) : Below g w (((((((w1.setCell ⟨g, 0, none⟩ (c0)).setCell ⟨g, 1, none⟩ (c1)).setCell ⟨g, 2, none⟩ (c2)).setCell ⟨g, 3, none⟩ (c3)).setCell ⟨g, 4, none⟩ (c4)).setCell ⟨g, 5, none⟩ (c5)).setCell ⟨g, 6, none⟩ (c6)) := by
  iterate 7 refine Below.setCell ?_ (show g ≤ g from Nat.le_refl g) _
  exact h
set_option maxRecDepth 20000 in
set_option maxHeartbeats 8000000 in
theorem rparse_arg (resp : Bool) (v : Value) (m : Int) (w : World) (hm : ¬ (1 ≤ m ∧ m ≤ 65536)) : Calls Tryd.prog 7 #[.bool resp, v, .int .i64 m] w fun e w' => e = .returned (.tuple #[.agg #[.bool false, .int .i64 0, .slice none 0 0, .string ⟨#[]⟩, .int .i64 0, .bool false, .int .i64 0], .int .i64 0, .int .i64 1]) ∧ Below w.heap.size w w' := by
  have HC := hid (show ∀ W : World, _ from fun W => newR_no resp m W (by omega))
  unfold headV newH at HC
  dsimp only at HC
  have HP0 := hid (show w.heap.size < (w.alloc (.cells #[.bool false, .int .i64 0, .slice none 0 0, .string ⟨#[]⟩, .int .i64 0, .bool false, .int .i64 0] 32 (0, 0))).heap.size ∧ Below w.heap.size w (w.alloc (.cells #[.bool false, .int .i64 0, .slice none 0 0, .string ⟨#[]⟩, .int .i64 0, .bool false, .int .i64 0] 32 (0, 0))) ∧ (w.alloc (.cells #[.bool false, .int .i64 0, .slice none 0 0, .string ⟨#[]⟩, .int .i64 0, .bool false, .int .i64 0] 32 (0, 0))).heap[w.heap.size]? = some (.cells #[.bool false, .int .i64 0, .slice none 0 0, .string ⟨#[]⟩, .int .i64 0, .bool false, .int .i64 0] 32 (0, 0)) from ⟨by simp, below_new w _, heap_alloc_new w _⟩)
  clear hm
  go_enter Tryd.func7, Tryd.ntmps7
  go_wp2_with (go_at_call 16; (with_reducible refine (HC.out _).mono ?_); rintro e w1 ⟨rfl, hb⟩; have H2 := hid (show Pair7 w (w1.alloc (.cells #[.bool false, .int .i64 0, .slice none 0 0, .string ⟨#[]⟩, .int .i64 0, .bool false, .int .i64 0] 32 (0, 0))) w1.heap.size #[.bool false, .int .i64 0, .slice none 0 0, .string ⟨#[]⟩, .int .i64 0, .bool false, .int .i64 0] from by have h2 := below_new w1 (.cells #[.bool false, .int .i64 0, .slice none 0 0, .string ⟨#[]⟩, .int .i64 0, .bool false, .int .i64 0] 32 (0, 0)); exact ⟨(h2.block _ (Nat.lt_of_lt_of_le HP0.out.1 hb.size)).trans ((hb.block _ HP0.out.1).trans HP0.out.2.2), heap_alloc_new w1 _, below_out (below_out HP0.out.2.1 hb) h2, Nat.lt_of_lt_of_le HP0.out.1 hb.size⟩); obtain ⟨y0, y1, y2, y3, y4, y5, y6, yz⟩ := seven H2.out.o; have yz0 := yz 0; have yz1 := yz 1; have yz2 := yz 2; have yz3 := yz 3; have yz4 := yz 4; have yz5 := yz 5; have yz6 := yz 6; clear hb yz)
  (try simp only [Exit.inBlock, Exit.then])
  refine bodyPost_ret (results_hd3 rfl _ _ _ 32 _ (0, 0) rfl (put7 H2.out.o _ _ _ _ _ _ _) rfl) rfl ?_
  exact ⟨rfl, below_seven H2.out.low _ _ _ _ _ _ _⟩
set_option maxRecDepth 20000 in
set_option maxHeartbeats 8000000 in
theorem rparse_err (resp : Bool) (l : B) (p : Option Addr) (n c : Nat) (hn : l.length = n) (m : Int) (w : World) (hm : 1 ≤ m ∧ m ≤ 65536) (hA : ArgAt w p l) (hnb : n ≤ 140737488355328) (he : (feedH (newH resp m) l).err ≠ 0) : Calls Tryd.prog 7 #[.bool resp, .slice p n c, .int .i64 m] w fun e w' => e = .returned (.tuple #[.agg #[.bool false, .int .i64 0, .slice none 0 0, .string ⟨#[]⟩, .int .i64 0, .bool false, .int .i64 0], .int .i64 0, .int .i64 ((feedH (newH resp m) l).err : Int)]) ∧ Below w.heap.size w w' := by
  have HC := hid (show ∀ W : World, _ from fun W => newR_ok resp m W (by omega) (by omega))
  have HF := hid (show ∀ W : World, Below w.heap.size w W → _ from fun W hb => feedR_any (newH resp m) l p n c hn w.heap.size (.slice none 0 0) W (OwnS.nil _ _) (hA.next hb) hb.size (newH_inv hm.2) hnb)
  have HP0 := hid (show w.heap.size < (w.alloc (.cells #[.bool false, .int .i64 0, .slice none 0 0, .string ⟨#[]⟩, .int .i64 0, .bool false, .int .i64 0] 32 (0, 0))).heap.size ∧ Below w.heap.size w (w.alloc (.cells #[.bool false, .int .i64 0, .slice none 0 0, .string ⟨#[]⟩, .int .i64 0, .bool false, .int .i64 0] 32 (0, 0))) ∧ (w.alloc (.cells #[.bool false, .int .i64 0, .slice none 0 0, .string ⟨#[]⟩, .int .i64 0, .bool false, .int .i64 0] 32 (0, 0))).heap[w.heap.size]? = some (.cells #[.bool false, .int .i64 0, .slice none 0 0, .string ⟨#[]⟩, .int .i64 0, .bool false, .int .i64 0] 32 (0, 0)) from ⟨by simp, below_new w _, heap_alloc_new w _⟩)
  obtain ⟨H, hH⟩ : ∃ H, feedH (newH resp m) l = H := ⟨_, rfl⟩
  obtain ⟨NN, hNN⟩ : ∃ NN, feedHN (newH resp m) l = NN := ⟨_, rfl⟩
  rw [hH, hNN] at HF
  rw [hH] at he
  rw [hH]
  unfold headV at HF
  rw [show (newH resp m).line = [] from rfl, show (newH resp m).resp = resp from rfl, show (newH resp m).most = m from rfl, show (newH resp m).len = 0 from rfl, show (newH resp m).done = false from rfl, show (newH resp m).err = 0 from rfl, show str [] = ⟨#[]⟩ from rfl, show ((0 : Nat) : Int) = 0 from rfl] at HF
  unfold headV newH at HC
  dsimp only at HC
  rw [show str [] = ⟨#[]⟩ from rfl, show ((0 : Nat) : Int) = 0 from rfl] at HC
  obtain ⟨fr, hfr⟩ : ∃ fr, H.resp = fr := ⟨_, rfl⟩
  obtain ⟨fm, hfm⟩ : ∃ fm, H.most = fm := ⟨_, rfl⟩
  obtain ⟨fL, hfL⟩ : ∃ fL, str H.line = fL := ⟨_, rfl⟩
  obtain ⟨fk, hfk⟩ : ∃ fk, H.len = fk := ⟨_, rfl⟩
  rw [hfr, hfm, hfL, hfk] at HF
  obtain ⟨fd, hfd⟩ : ∃ fd, H.done = fd := ⟨_, rfl⟩
  obtain ⟨fe, hfe⟩ : ∃ fe, H.err = fe := ⟨_, rfl⟩
  rw [hfd, hfe] at HF
  rw [hfe] at he
  rw [hfe]
  have hne : ((fe : Int) != 0) = true := by simpa using he
  clear hfd hfe he
  clear hn hm hA hH hNN hfr hfm hfL hfk
  go_enter Tryd.func7, Tryd.ntmps7
  go_wp2_with (first | (go_at_call 16; (with_reducible refine (HC.out _).mono ?_); rintro e w1 ⟨rfl, hb⟩; have H1 := hid (show Pair7 w (w1.alloc (.cells #[.bool resp, .int .i64 m, .slice none 0 0, .string ⟨#[]⟩, .int .i64 0, .bool false, .int .i64 0] 32 (0, 0))) w1.heap.size #[.bool resp, .int .i64 m, .slice none 0 0, .string ⟨#[]⟩, .int .i64 0, .bool false, .int .i64 0] from by have h2 := below_new w1 (.cells #[.bool resp, .int .i64 m, .slice none 0 0, .string ⟨#[]⟩, .int .i64 0, .bool false, .int .i64 0] 32 (0, 0)); exact ⟨(h2.block _ (Nat.lt_of_lt_of_le HP0.out.1 hb.size)).trans ((hb.block _ HP0.out.1).trans HP0.out.2.2), heap_alloc_new w1 _, below_out (below_out HP0.out.2.1 hb) h2, Nat.lt_of_lt_of_le HP0.out.1 hb.size⟩); clear hb) | (go_at_call 18; (with_reducible refine (HF.out _ H1.out.low).mono ?_); rintro e w2 ⟨v', rfl, ho, hb⟩; have H2 := hid (H1.out.next hb); obtain ⟨fp, fc, rfl⟩ := own_slice ho; obtain ⟨fn, hfn⟩ : ∃ fn, H.lines.length = fn := ⟨_, rfl⟩; rw [hfn] at ho ⊢; have H3 := hid (H2.out.put (.bool fr) (.int .i64 fm) (.slice fp fn fc) (.string fL) (.int .i64 (fk : Int)) (.bool fd) (.int .i64 (fe : Int))); have HO3 := hid (OwnS.aside7 ho H2.out.r hd_ne (.bool fr) (.int .i64 fm) (.slice fp fn fc) (.string fL) (.int .i64 (fk : Int)) (.bool fd) (.int .i64 (fe : Int))); have HFn := hid hfn; obtain ⟨x0, x1, x2, x3, x4, x5, x6, xz⟩ := seven H2.out.r; have xz0 := xz 0; have xz1 := xz 1; have xz2 := xz 2; have xz3 := xz 3; have xz4 := xz 4; have xz5 := xz 5; have xz6 := xz 6; obtain ⟨y0, y1, y2, y3, y4, y5, y6, yz⟩ := seven H3.out.o; have yz0 := yz 0; have yz1 := yz 1; have yz2 := yz 2; have yz3 := yz 3; have yz4 := yz 4; have yz5 := yz 5; have yz6 := yz 6; clear hb ho hfn xz yz))
  clear x0 x1 x2 x3 x4 x5 x6 xz0 xz1 xz2 xz3 xz4 xz5 xz6 y0 y1 y2 y3 y4 y5 y6 yz0 yz1 yz2 yz3 yz4 yz5 yz6
  obtain ⟨g9, hg9⟩ : ∃ g9, g9 = w1.heap.size := ⟨_, rfl⟩
  rw [← hg9] at H3 HO3 ⊢
  obtain ⟨W3, hW3⟩ : ∃ W3, W3 = (((((((w2.setCell ⟨g9, 0, none⟩ (.bool fr)).setCell ⟨g9, 1, none⟩ (.int .i64 fm)).setCell ⟨g9, 2, none⟩ (.slice fp fn fc)).setCell ⟨g9, 3, none⟩ (.string fL)).setCell ⟨g9, 4, none⟩ (.int .i64 (fk : Int))).setCell ⟨g9, 5, none⟩ (.bool fd)).setCell ⟨g9, 6, none⟩ (.int .i64 (fe : Int))) := ⟨_, rfl⟩
  rw [← hW3] at H3 HO3 ⊢
  obtain ⟨U, hU⟩ : ∃ U, U = W3.drew := ⟨_, rfl⟩
  have H4 := hid (show Pair7 w U g9 #[.bool fr, .int .i64 fm, .slice fp fn fc, .string fL, .int .i64 (fk : Int), .bool fd, .int .i64 (fe : Int)] from by rw [hU]; exact ⟨H3.out.o, H3.out.r, H3.out.low.drew, H3.out.lt⟩)
  have hS0 : U.cell? ⟨g9, 6, none⟩ = some (.int .i64 (fe : Int)) := (seven H4.out.r).a6
  clear hW3 hg9
  refine wp_region_noPanic ?_
  refine any_begin 6 (by kernel_rfl) (by kernel_rfl) ?_
  rw [← hU]
  clear hU
  refine late_begin (fun V => V.cell? ⟨g9, 6, none⟩ = some (.int .i64 (fe : Int))) (fun _ => false) hS0 (fun hS => ?_)
  refine late_take (i := 0) (some 32) rfl rfl (by kernel_rfl) (by kernel_rfl) (by kernel_rfl) (by kernel_rfl) (by kernel_rfl) (fun _ _ _ h => h) (by rfl) (v := ?v0pe) ?hy0pe hS ?rest0pe
  case hy0pe => intro w0 hSw; (try dsimp only at hSw); go_simp; try with_reducible rfl
  simp only [Act.put, List.setIfInBounds_toArray, List.set_cons_zero, List.set_cons_succ]
  refine late_take (i := 1) (some 33) rfl rfl (by kernel_rfl) (by kernel_rfl) (by kernel_rfl) (by kernel_rfl) (by kernel_rfl) (fun _ _ _ h => h) (by rfl) (v := ?v1pe) ?hy1pe hS ?rest1pe
  case hy1pe => intro w0 hSw; (try dsimp only at hSw); go_simp; try with_reducible rfl
  simp only [Act.put, List.setIfInBounds_toArray, List.set_cons_zero, List.set_cons_succ]
  refine late_take (i := 2) (some 34) rfl rfl (by kernel_rfl) (by kernel_rfl) (by kernel_rfl) (by kernel_rfl) (by kernel_rfl) (fun _ _ _ h => h) (by rfl) (v := ?v2pe) ?hy2pe hS ?rest2pe
  case hy2pe => intro w0 hSw; (try dsimp only at hSw); go_simp; try with_reducible rfl
  simp only [Act.put, List.setIfInBounds_toArray, List.set_cons_zero, List.set_cons_succ]
  refine wpAnyD_one (i := 3) (by kernel_rfl) rfl (fun K hK => ?_)
  obtain ⟨y0, y1, y2, y3, y4, y5, y6, yz⟩ := seven H4.out.o
  have yz0 := yz 0; have yz1 := yz 1; have yz2 := yz 2; have yz3 := yz 3; have yz4 := yz 4; have yz5 := yz 5; have yz6 := yz 6
  go_simp
  have hS3 : ∀ a0 a1 a2 a3 a4 a5 a6 : Value, (((((((U.setCell ⟨w.heap.size, 0, none⟩ (a0)).setCell ⟨w.heap.size, 1, none⟩ (a1)).setCell ⟨w.heap.size, 2, none⟩ (a2)).setCell ⟨w.heap.size, 3, none⟩ (a3)).setCell ⟨w.heap.size, 4, none⟩ (a4)).setCell ⟨w.heap.size, 5, none⟩ (a5)).setCell ⟨w.heap.size, 6, none⟩ (a6)).cell? ⟨g9, 6, none⟩ = some (.int .i64 (fe : Int)) := fun a0 a1 a2 a3 a4 a5 a6 => cell_only (only7 (F := fun k => k = w.heap.size) rfl a0 a1 a2 a3 a4 a5 a6) (fun e => by have h9 : g9 = w.heap.size := e; have := H4.out.lt; omega) hS
  refine hK _ _ ⟨fun _ => hS3 _ _ _ _ _ _ _, ?_⟩
  clear hK K y0 y1 y2 y3 y4 y5 y6 yz yz0 yz1 yz2 yz3 yz4 yz5 yz6
  refine late_take (i := 4) (some 7) rfl rfl (by kernel_rfl) (by kernel_rfl) (by kernel_rfl) (by kernel_rfl) (by kernel_rfl) (fun _ _ _ h => h) (by rfl) (v := ?v4pe) ?hy4pe (hS3 _ _ _ _ _ _ _) ?rest4pe
  case hy4pe => intro w0 hSw; (try dsimp only at hSw); go_simp; try with_reducible rfl
  simp only [Act.put, List.setIfInBounds_toArray, List.set_cons_zero, List.set_cons_succ]
  refine late_take (i := 5) (some 8) rfl rfl (by kernel_rfl) (by kernel_rfl) (by kernel_rfl) (by kernel_rfl) (by kernel_rfl) (fun _ _ _ h => h) (by rfl) (v := ?v5pe) ?hy5pe (hS3 _ _ _ _ _ _ _) ?rest5pe
  case hy5pe => intro w0 hSw; (try dsimp only at hSw); go_simp; try with_reducible rfl
  simp only [Act.put, List.setIfInBounds_toArray, List.set_cons_zero, List.set_cons_succ]
  refine late_done (by kernel_rfl) ?_ _
  refine NoPanic.normal ?_
  go_wp2
  (try simp only [Exit.inBlock, Exit.then])
  refine bodyPost_ret (results_hd3 rfl _ _ _ 32 _ (0, 0) rfl (put7 H4.out.o _ _ _ _ _ _ _) rfl) rfl ?_
  exact ⟨rfl, below_seven H4.out.low _ _ _ _ _ _ _⟩
set_option maxRecDepth 20000 in
set_option maxHeartbeats 8000000 in
theorem rparse_end (resp : Bool) (l : B) (p : Option Addr) (n c : Nat) (hn : l.length = n) (m : Int) (w : World) (hm : 1 ≤ m ∧ m ≤ 65536) (hA : ArgAt w p l) (hnb : n ≤ 140737488355328) (he : (feedH (newH resp m) l).err = 0) (hd : (feedH (newH resp m) l).done = false) : Calls Tryd.prog 7 #[.bool resp, .slice p n c, .int .i64 m] w fun e w' => e = .returned (.tuple #[.agg #[.bool false, .int .i64 0, .slice none 0 0, .string ⟨#[]⟩, .int .i64 0, .bool false, .int .i64 0], .int .i64 0, .int .i64 32]) ∧ Below w.heap.size w w' := by
  have HC := hid (show ∀ W : World, _ from fun W => newR_ok resp m W (by omega) (by omega))
  have HF := hid (show ∀ W : World, Below w.heap.size w W → _ from fun W hb => feedR_any (newH resp m) l p n c hn w.heap.size (.slice none 0 0) W (OwnS.nil _ _) (hA.next hb) hb.size (newH_inv hm.2) hnb)
  have HP0 := hid (show w.heap.size < (w.alloc (.cells #[.bool false, .int .i64 0, .slice none 0 0, .string ⟨#[]⟩, .int .i64 0, .bool false, .int .i64 0] 32 (0, 0))).heap.size ∧ Below w.heap.size w (w.alloc (.cells #[.bool false, .int .i64 0, .slice none 0 0, .string ⟨#[]⟩, .int .i64 0, .bool false, .int .i64 0] 32 (0, 0))) ∧ (w.alloc (.cells #[.bool false, .int .i64 0, .slice none 0 0, .string ⟨#[]⟩, .int .i64 0, .bool false, .int .i64 0] 32 (0, 0))).heap[w.heap.size]? = some (.cells #[.bool false, .int .i64 0, .slice none 0 0, .string ⟨#[]⟩, .int .i64 0, .bool false, .int .i64 0] 32 (0, 0)) from ⟨by simp, below_new w _, heap_alloc_new w _⟩)
  obtain ⟨H, hH⟩ : ∃ H, feedH (newH resp m) l = H := ⟨_, rfl⟩
  obtain ⟨NN, hNN⟩ : ∃ NN, feedHN (newH resp m) l = NN := ⟨_, rfl⟩
  rw [hH, hNN] at HF
  rw [hH] at he hd
  unfold headV at HF
  rw [show (newH resp m).line = [] from rfl, show (newH resp m).resp = resp from rfl, show (newH resp m).most = m from rfl, show (newH resp m).len = 0 from rfl, show (newH resp m).done = false from rfl, show (newH resp m).err = 0 from rfl, show str [] = ⟨#[]⟩ from rfl, show ((0 : Nat) : Int) = 0 from rfl] at HF
  unfold headV newH at HC
  dsimp only at HC
  rw [show str [] = ⟨#[]⟩ from rfl, show ((0 : Nat) : Int) = 0 from rfl] at HC
  rw [he] at HF
  rw [hd] at HF
  obtain ⟨fr, hfr⟩ : ∃ fr, H.resp = fr := ⟨_, rfl⟩
  obtain ⟨fm, hfm⟩ : ∃ fm, H.most = fm := ⟨_, rfl⟩
  obtain ⟨fL, hfL⟩ : ∃ fL, str H.line = fL := ⟨_, rfl⟩
  obtain ⟨fk, hfk⟩ : ∃ fk, H.len = fk := ⟨_, rfl⟩
  rw [hfr, hfm, hfL, hfk] at HF
  rw [show ((0 : Nat) : Int) = 0 from rfl] at HF
  clear he hd
  clear hn hm hA hH hNN hfr hfm hfL hfk
  go_enter Tryd.func7, Tryd.ntmps7
  go_wp2_with (first | (go_at_call 16; (with_reducible refine (HC.out _).mono ?_); rintro e w1 ⟨rfl, hb⟩; have H1 := hid (show Pair7 w (w1.alloc (.cells #[.bool resp, .int .i64 m, .slice none 0 0, .string ⟨#[]⟩, .int .i64 0, .bool false, .int .i64 0] 32 (0, 0))) w1.heap.size #[.bool resp, .int .i64 m, .slice none 0 0, .string ⟨#[]⟩, .int .i64 0, .bool false, .int .i64 0] from by have h2 := below_new w1 (.cells #[.bool resp, .int .i64 m, .slice none 0 0, .string ⟨#[]⟩, .int .i64 0, .bool false, .int .i64 0] 32 (0, 0)); exact ⟨(h2.block _ (Nat.lt_of_lt_of_le HP0.out.1 hb.size)).trans ((hb.block _ HP0.out.1).trans HP0.out.2.2), heap_alloc_new w1 _, below_out (below_out HP0.out.2.1 hb) h2, Nat.lt_of_lt_of_le HP0.out.1 hb.size⟩); clear hb) | (go_at_call 18; (with_reducible refine (HF.out _ H1.out.low).mono ?_); rintro e w2 ⟨v', rfl, ho, hb⟩; have H2 := hid (H1.out.next hb); obtain ⟨fp, fc, rfl⟩ := own_slice ho; obtain ⟨fn, hfn⟩ : ∃ fn, H.lines.length = fn := ⟨_, rfl⟩; rw [hfn] at ho ⊢; have H3 := hid (H2.out.put (.bool fr) (.int .i64 fm) (.slice fp fn fc) (.string fL) (.int .i64 (fk : Int)) (.bool false) (.int .i64 0)); have HO3 := hid (OwnS.aside7 ho H2.out.r hd_ne (.bool fr) (.int .i64 fm) (.slice fp fn fc) (.string fL) (.int .i64 (fk : Int)) (.bool false) (.int .i64 0)); have HFn := hid hfn; obtain ⟨x0, x1, x2, x3, x4, x5, x6, xz⟩ := seven H2.out.r; have xz0 := xz 0; have xz1 := xz 1; have xz2 := xz 2; have xz3 := xz 3; have xz4 := xz 4; have xz5 := xz 5; have xz6 := xz 6; obtain ⟨y0, y1, y2, y3, y4, y5, y6, yz⟩ := seven H3.out.o; have yz0 := yz 0; have yz1 := yz 1; have yz2 := yz 2; have yz3 := yz 3; have yz4 := yz 4; have yz5 := yz 5; have yz6 := yz 6; clear hb ho hfn xz yz))
  (try simp only [Exit.inBlock, Exit.then])
  refine bodyPost_ret (results_hd3 rfl _ _ _ 32 _ (0, 0) rfl (put7 H3.out.o _ _ _ _ _ _ _) rfl) rfl ?_
  exact ⟨rfl, below_seven H3.out.low _ _ _ _ _ _ _⟩
set_option maxRecDepth 20000 in
set_option maxHeartbeats 8000000 in
theorem rparse_ok (resp : Bool) (l : B) (p : Option Addr) (n c : Nat) (hn : l.length = n) (m : Int) (w : World) (hm : 1 ≤ m ∧ m ≤ 65536) (hA : ArgAt w p l) (hnb : n ≤ 140737488355328) (he : (feedH (newH resp m) l).err = 0) (hd : (feedH (newH resp m) l).done = true) : Calls Tryd.prog 7 #[.bool resp, .slice p n c, .int .i64 m] w fun e w' => ∃ v, e = .returned (.tuple #[headV (feedH (newH resp m) l) v, .int .i64 (feedHN (newH resp m) l : Int), .int .i64 0]) ∧ OwnS w' w.heap.size v (feedH (newH resp m) l).lines ∧ Below w.heap.size w w' := by
  have HC := hid (show ∀ W : World, _ from fun W => newR_ok resp m W (by omega) (by omega))
  have HF := hid (show ∀ W : World, Below w.heap.size w W → _ from fun W hb => feedR_any (newH resp m) l p n c hn w.heap.size (.slice none 0 0) W (OwnS.nil _ _) (hA.next hb) hb.size (newH_inv hm.2) hnb)
  have HP0 := hid (show w.heap.size < (w.alloc (.cells #[.bool false, .int .i64 0, .slice none 0 0, .string ⟨#[]⟩, .int .i64 0, .bool false, .int .i64 0] 32 (0, 0))).heap.size ∧ Below w.heap.size w (w.alloc (.cells #[.bool false, .int .i64 0, .slice none 0 0, .string ⟨#[]⟩, .int .i64 0, .bool false, .int .i64 0] 32 (0, 0))) ∧ (w.alloc (.cells #[.bool false, .int .i64 0, .slice none 0 0, .string ⟨#[]⟩, .int .i64 0, .bool false, .int .i64 0] 32 (0, 0))).heap[w.heap.size]? = some (.cells #[.bool false, .int .i64 0, .slice none 0 0, .string ⟨#[]⟩, .int .i64 0, .bool false, .int .i64 0] 32 (0, 0)) from ⟨by simp, below_new w _, heap_alloc_new w _⟩)
  obtain ⟨H, hH⟩ : ∃ H, feedH (newH resp m) l = H := ⟨_, rfl⟩
  obtain ⟨NN, hNN⟩ : ∃ NN, feedHN (newH resp m) l = NN := ⟨_, rfl⟩
  rw [hH, hNN] at HF
  rw [hH] at he hd
  rw [hH, hNN]
  unfold headV at HF
  rw [show (newH resp m).line = [] from rfl, show (newH resp m).resp = resp from rfl, show (newH resp m).most = m from rfl, show (newH resp m).len = 0 from rfl, show (newH resp m).done = false from rfl, show (newH resp m).err = 0 from rfl, show str [] = ⟨#[]⟩ from rfl, show ((0 : Nat) : Int) = 0 from rfl] at HF
  unfold headV newH at HC
  dsimp only at HC
  rw [show str [] = ⟨#[]⟩ from rfl, show ((0 : Nat) : Int) = 0 from rfl] at HC
  unfold headV
  rw [he] at HF
  rw [hd] at HF
  rw [he, hd]
  obtain ⟨fr, hfr⟩ : ∃ fr, H.resp = fr := ⟨_, rfl⟩
  obtain ⟨fm, hfm⟩ : ∃ fm, H.most = fm := ⟨_, rfl⟩
  obtain ⟨fL, hfL⟩ : ∃ fL, str H.line = fL := ⟨_, rfl⟩
  obtain ⟨fk, hfk⟩ : ∃ fk, H.len = fk := ⟨_, rfl⟩
  rw [hfr, hfm, hfL, hfk] at HF
  rw [hfr, hfm, hfL, hfk]
  rw [show ((0 : Nat) : Int) = 0 from rfl] at HF
  rw [show ((0 : Nat) : Int) = 0 from rfl]
  clear he hd
  clear hn hm hA hH hNN hfr hfm hfL hfk
  go_enter Tryd.func7, Tryd.ntmps7
  go_wp2_with (first | (go_at_call 16; (with_reducible refine (HC.out _).mono ?_); rintro e w1 ⟨rfl, hb⟩; have H1 := hid (show Pair7 w (w1.alloc (.cells #[.bool resp, .int .i64 m, .slice none 0 0, .string ⟨#[]⟩, .int .i64 0, .bool false, .int .i64 0] 32 (0, 0))) w1.heap.size #[.bool resp, .int .i64 m, .slice none 0 0, .string ⟨#[]⟩, .int .i64 0, .bool false, .int .i64 0] from by have h2 := below_new w1 (.cells #[.bool resp, .int .i64 m, .slice none 0 0, .string ⟨#[]⟩, .int .i64 0, .bool false, .int .i64 0] 32 (0, 0)); exact ⟨(h2.block _ (Nat.lt_of_lt_of_le HP0.out.1 hb.size)).trans ((hb.block _ HP0.out.1).trans HP0.out.2.2), heap_alloc_new w1 _, below_out (below_out HP0.out.2.1 hb) h2, Nat.lt_of_lt_of_le HP0.out.1 hb.size⟩); clear hb) | (go_at_call 18; (with_reducible refine (HF.out _ H1.out.low).mono ?_); rintro e w2 ⟨v', rfl, ho, hb⟩; have H2 := hid (H1.out.next hb); obtain ⟨fp, fc, rfl⟩ := own_slice ho; obtain ⟨fn, hfn⟩ : ∃ fn, H.lines.length = fn := ⟨_, rfl⟩; rw [hfn] at ho ⊢; have H3 := hid (H2.out.put (.bool fr) (.int .i64 fm) (.slice fp fn fc) (.string fL) (.int .i64 (fk : Int)) (.bool true) (.int .i64 0)); have HO3 := hid (OwnS.aside7 ho H2.out.r hd_ne (.bool fr) (.int .i64 fm) (.slice fp fn fc) (.string fL) (.int .i64 (fk : Int)) (.bool true) (.int .i64 0)); have HFn := hid hfn; obtain ⟨x0, x1, x2, x3, x4, x5, x6, xz⟩ := seven H2.out.r; have xz0 := xz 0; have xz1 := xz 1; have xz2 := xz 2; have xz3 := xz 3; have xz4 := xz 4; have xz5 := xz 5; have xz6 := xz 6; obtain ⟨y0, y1, y2, y3, y4, y5, y6, yz⟩ := seven H3.out.o; have yz0 := yz 0; have yz1 := yz 1; have yz2 := yz 2; have yz3 := yz 3; have yz4 := yz 4; have yz5 := yz 5; have yz6 := yz 6; clear hb ho hfn xz yz))
  (try simp only [Exit.inBlock, Exit.then])
  refine bodyPost_ret (results_hd3 rfl _ _ _ 32 _ (0, 0) rfl (put7 H3.out.o _ _ _ _ _ _ _) rfl) rfl ?_
  refine ⟨_, rfl, ?_, below_seven H3.out.low _ _ _ _ _ _ _⟩
  exact OwnS.aside7 HO3.out H3.out.o hd_ne _ _ _ _ _ _ _
end Go.Proofs.YtfmkkkkdfkjdlaaDoor
