/- An act, done to a ring and to the document's: Line. -/
import Derived.Test.YtfiiiefhchbhlaaDo
namespace Go.Proofs.Ytfiiiefhchbhlaa
open Go.RowKit

set_option maxRecDepth 20000 in
set_option maxHeartbeats 4000000 in
theorem do_line (r g S N c : Nat) (pv pb : Option Addr) (nb cb : Nat) (kind n : Int) (q : List Int) (w : World) (h : Holds w r g S q) (hN : q.length = N) (hq : QAt r g w (.slice pv N c) q) (hk : (kind.tmod 6 + 6) % 6 = 4) (hn2 : n ≤ 9223372036854775807) :
    Calls Try.prog 10 #[.pointer (some ⟨r, 0, none⟩), .agg #[.int .i64 S, .slice pv N c], .agg #[.int .i64 kind, .int .i64 n, .slice pb nb cb]] w fun e w' => ∃ v' q', e = .returned (.tuple #[.agg #[.int .i64 S, v'], .bool true]) ∧ DoP r g S w w' v' q' := by
  obtain ⟨h1, h2⟩ := rem6 kind
  have HN := hid hN
  have HR : Hid (r < w.heap.size ∧ g < w.heap.size) := ⟨h.rlt, h.glt⟩
  have hS1 := h.most
  have hS2 := h.le
  rw [hN] at hS2
  have HH : Hid (Holds (boxed w S (.slice pv N c) kind n (.slice pb nb cb)) r g S q ∧ QAt r g (boxed w S (.slice pv N c) kind n (.slice pb nb cb)) (.slice pv N c) q) := ⟨h.below (boxed_below ..), hq.below (boxed_below ..)⟩
  clear h hq hN
  go_enter Try.func10, Try.ntmps10
  go_wp2_with (first
    | (go_at_call 24; refine (refLine_any r g S n _ HH.out.2 (by rw [HN.out]; omega) hn2 ⟨HH.out.1.rlt, HH.out.1.glt⟩).mono ?_; rintro e w5 ⟨v5, vo5, rfl, h5⟩; obtain ⟨p5, n5, c5, rfl, H5⟩ := h5.rest.arg.slice3; obtain ⟨po, no, co, rfl, HO⟩ := h5.line.arg.slice3; have HB5 : Hid (LineP r g (boxed w S (.slice pv N c) kind n (.slice pb nb cb)) w5 (.slice p5 n5 c5) (.slice po no co) q n) := h5; have HT5 : Hid (Turn r g (boxed w S (.slice pv N c) kind n (.slice pb nb cb)) (w5.alloc (.cells #[.int .i64 S, .slice p5 n5 c5] 30))) := (Turn.of_below h5.below).trans (Turn.of_below ((Below.refl _ _).alloc (Nat.le_refl _) _)); obtain ⟨⟨c05, c15⟩, ⟨a05, a15, a25⟩, d05, d15, f05, f15⟩ := do_cells HR.out.1 HR.out.2 HT5.out; clear h5 c05 c15 a05 a25 d05 d15 f05 f15)
    | (go_at_call 16; refine (hline_any ((HH.out.1.below HB5.out.below).below ((Below.refl _ _).alloc (Nat.le_refl _) _)) n hn2).mono ?_; rintro e w6 ⟨v6, rfl, h6⟩; have HL6 := hid h6; clear h6))
  obtain ⟨T, HTT⟩ : ∃ T, Hid (strOfNums (lineL q n) = T) := ⟨_, rfl⟩
  obtain ⟨ec, HEC⟩ : ∃ ec, Hid (lineC q n = ec) := ⟨_, rfl⟩
  have HT6 : Hid (Turn r g (boxed w S (.slice pv N c) kind n (.slice pb nb cb)) w6.drew) := (HT5.out.trans HL6.out.turn).drew
  have HQ6 : Hid (QAt r g w6.drew (.slice p5 n5 c5) (lineR q n)) := ((HB5.out.rest.below ((Below.refl _ _).alloc (Nat.le_refl _) (.cells #[.int .i64 S, .slice p5 n5 c5] 30))).turn HL6.out.turn).turn (Turn.refl r g _).drew
  have HH6 : Hid (Holds w6.drew r g S (lineR q n)) := HL6.out.ring.of_heap rfl rfl
  have hy : r ≠ w5.heap.size ∧ g ≠ w5.heap.size ∧ w5.heap.size ≠ w.heap.size + 1 + 1 := by
    have h3 := HB5.out.below.size
    have := boxed_size w S (.slice pv N c) kind n (.slice pb nb cb)
    have := HR.out
    omega
  have HY := hid hy
  have e5 := heap_new w5 (.cells #[.int .i64 S, .slice p5 n5 c5] 30)
  have y0 : w6.drew.cell? ⟨w5.heap.size, 0, none⟩ = some (.int .i64 S) := HL6.out.turn.cell (o := 0) HY.out.1.symm HY.out.2.1.symm (by simp only [World.cell?, e5]; rfl)
  have y1 : w6.drew.cell? ⟨w5.heap.size, 1, none⟩ = some (.slice p5 n5 c5) := HL6.out.turn.cell (o := 1) HY.out.1.symm HY.out.2.1.symm (by simp only [World.cell?, e5]; rfl)
  obtain ⟨⟨c06, c16⟩, ⟨a06, a16, a26⟩, d06, d16, f06, f16⟩ := do_cells HR.out.1 HR.out.2 (HT5.out.trans HL6.out.turn)
  have HLA : Hid (QAt r g w6.drew (.slice po no co) (lineL q n)) := ((HB5.out.line.below ((Below.refl _ _).alloc (Nat.le_refl _) (.cells #[.int .i64 S, .slice p5 n5 c5] 30))).turn HL6.out.turn).turn (Turn.refl r g _).drew
  have HLB : Hid (BytesAt (w5.alloc (.cells #[.int .i64 S, .slice p5 n5 c5] 30)).heap.size w6.drew v6 (lineL q n)) := HL6.out.bytes.of_heap fun _ _ _ => rfl
  have v1 : (convert 28 9 (.slice po no co)).run Try.prog w6.drew = .ok (.string T) w6.drew := by rw [← HTT.out]; exact HLA.out.arg.conv
  have v2 : (convert 28 9 v6).run Try.prog w6.drew = .ok (.string T) w6.drew := by rw [← HTT.out]; exact conv_bytes HLB.out
  have hE8 : ∀ A B, ((w6.drew.setCell ⟨w.heap.size + 1 + 1, 0, none⟩ A).setCell ⟨w.heap.size + 1 + 1, 1, none⟩ B).cell? ⟨w5.heap.size, 0, none⟩ = some (.int .i64 S) ∧ ((w6.drew.setCell ⟨w.heap.size + 1 + 1, 0, none⟩ A).setCell ⟨w.heap.size + 1 + 1, 1, none⟩ B).cell? ⟨w5.heap.size, 1, none⟩ = some (.slice p5 n5 c5) ∧ (convert 28 9 (.slice po no co)).run Try.prog ((w6.drew.setCell ⟨w.heap.size + 1 + 1, 0, none⟩ A).setCell ⟨w.heap.size + 1 + 1, 1, none⟩ B) = .ok (.string T) ((w6.drew.setCell ⟨w.heap.size + 1 + 1, 0, none⟩ A).setCell ⟨w.heap.size + 1 + 1, 1, none⟩ B) ∧ (convert 28 9 v6).run Try.prog ((w6.drew.setCell ⟨w.heap.size + 1 + 1, 0, none⟩ A).setCell ⟨w.heap.size + 1 + 1, 1, none⟩ B) = .ok (.string T) ((w6.drew.setCell ⟨w.heap.size + 1 + 1, 0, none⟩ A).setCell ⟨w.heap.size + 1 + 1, 1, none⟩ B) := fun A B =>
    ⟨do_cell HY.out.2.2 y0 A B, do_cell HY.out.2.2 y1 A B, by rw [← HTT.out]; exact (do_qat HR.out.1 HR.out.2 HT6.out HLA.out A B).arg.conv, by rw [← HTT.out]; exact conv_bytes (HLB.out.of_heap fun i hi _ => do_heap w w6.drew A B i (by have := HB5.out.below.size; have := boxed_size w S (.slice pv N c) kind n (.slice pb nb cb); simp only [World.size_alloc] at hi; omega))⟩
  clear c06 c16 a06 a16 a26 hy
  rw [HEC.out]
  go_region_held3 (fun W => W.cell? ⟨w5.heap.size, 0, none⟩ = some (.int .i64 S) ∧ W.cell? ⟨w5.heap.size, 1, none⟩ = some (.slice p5 n5 c5) ∧ (convert 28 9 (.slice po no co)).run Try.prog W = .ok (.string T) W ∧ (convert 28 9 v6).run Try.prog W = .ok (.string T) W) (first | exact ⟨by assumption, by assumption, by assumption, by assumption⟩ | exact hE8 _ _)
    ((go_at_call 8; refine (num_any ec _).mono ?_; rintro e w7 ⟨rfl, rfl⟩))
  go_wp2
  exact bodyPost_ret (v := .tuple #[.agg #[.int .i64 S, .slice p5 n5 c5], .bool true]) (by simp [results, go_sem, d06, d16]) rfl ⟨.slice p5 n5 c5, lineR q n, rfl, do_end HR.out.1 HR.out.2 HT6.out HH6.out HQ6.out _ _⟩
end Go.Proofs.Ytfiiiefhchbhlaa
