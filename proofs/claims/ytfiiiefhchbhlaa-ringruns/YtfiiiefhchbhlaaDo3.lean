/- An act, done to a ring and to the document's: Skip. -/
import Derived.Test.YtfiiiefhchbhlaaDo
namespace Go.Proofs.Ytfiiiefhchbhlaa
open Go.RowKit

set_option maxRecDepth 20000 in
set_option maxHeartbeats 4000000 in
theorem do_skip (r g S N c : Nat) (pv pb : Option Addr) (nb cb : Nat) (kind n : Int) (q : List Int) (w : World) (h : Holds w r g S q) (hN : q.length = N) (hq : QAt r g w (.slice pv N c) q) (hk : (kind.tmod 6 + 6) % 6 = 3) :
    Calls Try.prog 10 #[.pointer (some ⟨r, 0, none⟩), .agg #[.int .i64 S, .slice pv N c], .agg #[.int .i64 kind, .int .i64 n, .slice pb nb cb]] w fun e w' => ∃ v' q', e = .returned (.tuple #[.agg #[.int .i64 S, v'], .bool true]) ∧ DoP r g S w w' v' q' := by
  obtain ⟨h1, h2⟩ := rem6 kind
  have HN := hid hN
  have HR : Hid (r < w.heap.size ∧ g < w.heap.size) := ⟨h.rlt, h.glt⟩
  have hS1 := h.most
  have hS2 := h.le
  rw [hN] at hS2
  have HH : Hid (Holds (boxed w S (.slice pv N c) kind n (.slice pb nb cb)) r g S q ∧ QAt r g (boxed w S (.slice pv N c) kind n (.slice pb nb cb)) (.slice pv N c) q) := ⟨h.below (boxed_below ..), hq.below (boxed_below ..)⟩
  clear h hq hN
  go_enter Try.func10, Try.ntmps10
  go_wp2_with (first
    | (go_at_call 23; refine (refRead_any r g S n _ HH.out.2 (by rw [HN.out]; omega) ⟨HH.out.1.rlt, HH.out.1.glt⟩).mono ?_; rintro e w5 ⟨v5, vo5, rfl, h5⟩; obtain ⟨p5, n5, c5, rfl, H5⟩ := h5.rest.arg.slice3; obtain ⟨po, no, co, rfl, HO⟩ := h5.out.arg.slice3; have HB5 : Hid (ReadP r g (boxed w S (.slice pv N c) kind n (.slice pb nb cb)) w5 (.slice p5 n5 c5) (.slice po no co) q (held n q.length)) := h5; clear h5))
  have HNO : Hid (held n q.length = no) := by
    show _ = _
    rw [HO.out, List.length_take]
    have := held_le n q.length
    omega
  have HB6 : Hid (Below w5.heap.size w5 (w5.alloc (.cells #[.int .i64 S, .slice p5 n5 c5] 30)).drew) := ⟨rfl, rfl, rfl, by simp, fun k hk => Below.heap_alloc _ _ _ hk⟩
  have HT6 : Hid (Turn r g (boxed w S (.slice pv N c) kind n (.slice pb nb cb)) (w5.alloc (.cells #[.int .i64 S, .slice p5 n5 c5] 30)).drew) := (Turn.of_below HB5.out.below).trans (Turn.of_below HB6.out)
  have HQ6 : Hid (QAt r g (w5.alloc (.cells #[.int .i64 S, .slice p5 n5 c5] 30)).drew (.slice p5 n5 c5) (q.drop (held n q.length))) := HB5.out.rest.below HB6.out
  have HH6 : Hid (Holds (w5.alloc (.cells #[.int .i64 S, .slice p5 n5 c5] 30)).drew r g S q) := (HH.out.1.below HB5.out.below).below HB6.out
  have hy : r ≠ w5.heap.size ∧ g ≠ w5.heap.size ∧ w5.heap.size ≠ w.heap.size + 1 + 1 := by
    have h3 := HB5.out.below.size
    have := boxed_size w S (.slice pv N c) kind n (.slice pb nb cb)
    have := HR.out
    omega
  have HY := hid hy
  have y0 : (w5.alloc (.cells #[.int .i64 S, .slice p5 n5 c5] 30)).drew.cell? ⟨w5.heap.size, 0, none⟩ = some (.int .i64 S) := by
    have e := heap_new w5 (.cells #[.int .i64 S, .slice p5 n5 c5] 30)
    show (w5.alloc (.cells #[.int .i64 S, .slice p5 n5 c5] 30)).cell? _ = _
    simp only [World.cell?, e]; rfl
  have y1 : (w5.alloc (.cells #[.int .i64 S, .slice p5 n5 c5] 30)).drew.cell? ⟨w5.heap.size, 1, none⟩ = some (.slice p5 n5 c5) := by
    have e := heap_new w5 (.cells #[.int .i64 S, .slice p5 n5 c5] 30)
    show (w5.alloc (.cells #[.int .i64 S, .slice p5 n5 c5] 30)).cell? _ = _
    simp only [World.cell?, e]; rfl
  have HY0 := hid y0
  have HY1 := hid y1
  obtain ⟨⟨c06, c16⟩, ⟨a06, a16, a26⟩, d06, d16, f06, f16⟩ := do_cells HR.out.1 HR.out.2 HT6.out
  clear c06 c16 a06 a26 d06 d16 f06 f16 hy
  go_region_held3 (fun W => W.cell? ⟨w5.heap.size, 0, none⟩ = some (.int .i64 S) ∧ W.cell? ⟨w5.heap.size, 1, none⟩ = some (.slice p5 n5 c5) ∧ W.cell? ⟨w.heap.size + 1, 1, none⟩ = some (.int .i64 n)) (first | exact ⟨by assumption, by assumption, by assumption⟩ | exact hE8 _ _)
    ((go_at_call 15; refine (hskip_any HH6.out n).mono ?_; rintro e w7 ⟨rfl, ht7, hz7, hh7⟩; rw [HNO.out]; have HT7 := hid (HT6.out.trans ht7); have y07 := ht7.cell HY.out.1.symm HY.out.2.1.symm HY0.out; have y17 := ht7.cell HY.out.1.symm HY.out.2.1.symm HY1.out; obtain ⟨⟨c07, c17⟩, ⟨a07, a17, a27⟩, d07, d17, f07, f17⟩ := do_cells HR.out.1 HR.out.2 HT7.out; have hE8 : ∀ A B, ((w7.setCell ⟨w.heap.size + 1 + 1, 0, none⟩ A).setCell ⟨w.heap.size + 1 + 1, 1, none⟩ B).cell? ⟨w5.heap.size, 0, none⟩ = some (.int .i64 S) ∧ ((w7.setCell ⟨w.heap.size + 1 + 1, 0, none⟩ A).setCell ⟨w.heap.size + 1 + 1, 1, none⟩ B).cell? ⟨w5.heap.size, 1, none⟩ = some (.slice p5 n5 c5) ∧ ((w7.setCell ⟨w.heap.size + 1 + 1, 0, none⟩ A).setCell ⟨w.heap.size + 1 + 1, 1, none⟩ B).cell? ⟨w.heap.size + 1, 1, none⟩ = some (.int .i64 n) := (fun A B => ⟨do_cell HY.out.2.2 y07 A B, do_cell HY.out.2.2 y17 A B, do_cell (by omega) a17 A B⟩); have HQ7 := hid (HQ6.out.turn ht7); have HH7 := hid hh7; clear ht7 hz7 hh7 c07 c17 a07 a27))
  go_wp2
  exact bodyPost_ret (v := .tuple #[.agg #[.int .i64 S, .slice p5 n5 c5], .bool true]) (by simp [results, go_sem, d07, d17]) rfl ⟨.slice p5 n5 c5, q.drop (held n q.length), rfl, do_end HR.out.1 HR.out.2 HT7.out HH7.out HQ7.out _ _⟩
end Go.Proofs.Ytfiiiefhchbhlaa
