/- An act, done to a ring and to the document's: Clear, or nothing. -/
import Derived.Test.YtfiiiefhchbhlaaDo
namespace Go.Proofs.Ytfiiiefhchbhlaa
open Go.RowKit

set_option maxRecDepth 20000 in
set_option maxHeartbeats 4000000 in
theorem do_none (r g S N c : Nat) (pv pb : Option Addr) (nb cb : Nat) (kind n : Int) (q : List Int) (w : World) (h : Holds w r g S q) (hq : QAt r g w (.slice pv N c) q) (hk : (kind.tmod 6 + 6) % 6 = 5) (hn : n.tmod 9 ≠ 0) :
    Calls Try.prog 10 #[.pointer (some ⟨r, 0, none⟩), .agg #[.int .i64 S, .slice pv N c], .agg #[.int .i64 kind, .int .i64 n, .slice pb nb cb]] w fun e w' => ∃ v' q', e = .returned (.tuple #[.agg #[.int .i64 S, v'], .bool true]) ∧ DoP r g S w w' v' q' := by
  obtain ⟨h1, h2⟩ := rem6 kind
  have hb : (n.tmod 9 == 0) = false := by simpa using hn
  have HB : Hid (∀ x y z, Below w.heap.size w (((w.alloc x).alloc y).alloc z)) := fun x y z => (two_below w _ _).alloc (by simp; omega) _
  have HD := hid h
  have HQ := hid hq
  clear h hq
  go_enter Try.func10, Try.ntmps10
  go_wp2
  exact bodyPost_ret (v := .tuple #[.agg #[.int .i64 S, .slice pv N c], .bool true]) (by simp [results, go_sem]) rfl ⟨.slice pv N c, q, rfl, Turn.of_below (HB.out _ _ _), HD.out.below (HB.out _ _ _), HQ.out.below (HB.out _ _ _)⟩
set_option maxRecDepth 20000 in
set_option maxHeartbeats 4000000 in
theorem do_clear (r g S N c : Nat) (pv pb : Option Addr) (nb cb : Nat) (kind n : Int) (q : List Int) (w : World) (h : Holds w r g S q) (hN : q.length = N) (hk : (kind.tmod 6 + 6) % 6 = 5) (hn : n.tmod 9 = 0) :
    Calls Try.prog 10 #[.pointer (some ⟨r, 0, none⟩), .agg #[.int .i64 S, .slice pv N c], .agg #[.int .i64 kind, .int .i64 n, .slice pb nb cb]] w fun e w' => ∃ v' q', e = .returned (.tuple #[.agg #[.int .i64 S, v'], .bool true]) ∧ DoP r g S w w' v' q' := by
  obtain ⟨h1, h2⟩ := rem6 kind
  have hb : (n.tmod 9 == 0) = true := by simpa using hn
  have HR : Hid (r < w.heap.size ∧ g < w.heap.size) := ⟨h.rlt, h.glt⟩
  have HN := hid hN
  have HH6 : Hid (Holds (boxed w S (.slice pv N c) kind n (.slice pb nb cb)).drew r g S q) := (h.below (boxed_below w S (.slice pv N c) kind n (.slice pb nb cb))).of_heap rfl rfl
  have HT6 : Hid (Turn r g (boxed w S (.slice pv N c) kind n (.slice pb nb cb)) (boxed w S (.slice pv N c) kind n (.slice pb nb cb)).drew) := (Turn.refl _ _ _).drew
  clear h hN
  go_enter Try.func10, Try.ntmps10
  go_wp2
  go_region_held3 (fun W => W.cell? ⟨w.heap.size, 0, none⟩ = some (.int .i64 S) ∧ W.cell? ⟨w.heap.size, 1, none⟩ = some (.slice pv N c)) (first | exact ⟨by assumption, by assumption⟩ | exact hE8 _ _ | go_keep)
    ((go_at_call 25; refine (hclear_any HH6.out).mono ?_; rintro e w7 ⟨rfl, ht7, hz7, hh7⟩; rw [HN.out]; have HT7 := hid (HT6.out.trans ht7); obtain ⟨⟨c07, c17⟩, ⟨a07, a17, a27⟩, d07, d17, f07, f17⟩ := do_cells HR.out.1 HR.out.2 HT7.out; have hE8 : ∀ A B, ((w7.setCell ⟨w.heap.size + 1 + 1, 0, none⟩ A).setCell ⟨w.heap.size + 1 + 1, 1, none⟩ B).cell? ⟨w.heap.size, 0, none⟩ = some (.int .i64 S) ∧ ((w7.setCell ⟨w.heap.size + 1 + 1, 0, none⟩ A).setCell ⟨w.heap.size + 1 + 1, 1, none⟩ B).cell? ⟨w.heap.size, 1, none⟩ = some (.slice pv N c) := (fun A B => ⟨do_cell (by omega) c07 A B, do_cell (by omega) c17 A B⟩); have HH7 := hid hh7; clear ht7 hz7 hh7 a07 a17 a27))
  go_wp2
  exact bodyPost_ret (v := .tuple #[.agg #[.int .i64 S, .slice none 0 0], .bool true]) (by simp [results, go_sem, d07, d17]) rfl ⟨.slice none 0 0, [], rfl, do_end HR.out.1 HR.out.2 HT7.out HH7.out (.inl ⟨rfl, rfl⟩) _ _⟩
end Go.Proofs.Ytfiiiefhchbhlaa
