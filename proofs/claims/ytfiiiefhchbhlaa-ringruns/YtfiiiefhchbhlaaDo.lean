/- An act, done to a ring and to the document's. -/
import Derived.Test.YtfiiiefhchbhlaaRefLine
import Derived.Test.YtfiiiefhchbhlaaWorks
import Derived.Deep.RegionHeld3
import Derived.Test.YtfiiiefhchbhlaaVb
namespace Go.Proofs.Ytfiiiefhchbhlaa
open Go.RowKit

def obQ (S : Nat) (v : Value) : Obj := .cells #[.int .i64 S, v] 30
def obA (k n : Int) (vb : Value) : Obj := .cells #[.int .i64 k, .int .i64 n, vb] 38
def ob0 : Obj := .cells #[.int .i64 0, .slice none 0 0] 30
/-- The world behind the three boxes. -/
def boxed (w : World) (S : Nat) (v : Value) (k n : Int) (vb : Value) : World := ((w.alloc (obQ S v)).alloc (obA k n vb)).alloc ob0
theorem boxed_below (w : World) (S : Nat) (v : Value) (k n : Int) (vb : Value) : Below w.heap.size w (boxed w S v k n vb) := (two_below w _ _).alloc (by simp; omega) _
theorem boxed_size (w : World) (S : Nat) (v : Value) (k n : Int) (vb : Value) : (boxed w S v k n vb).heap.size = w.heap.size + 3 := by simp [boxed]
/-- What the boxes hold, whatever became of the ring. -/
theorem do_cells {w W : World} {r g S : Nat} {v vb : Value} {k n : Int} (hr : r < w.heap.size) (hg : g < w.heap.size) (ht : Turn r g (boxed w S v k n vb) W) :
    (W.cell? ⟨w.heap.size, 0, none⟩ = some (.int .i64 S) ∧ W.cell? ⟨w.heap.size, 1, none⟩ = some v) ∧
    (W.cell? ⟨w.heap.size + 1, 0, none⟩ = some (.int .i64 k) ∧ W.cell? ⟨w.heap.size + 1, 1, none⟩ = some (.int .i64 n) ∧ W.cell? ⟨w.heap.size + 1, 2, none⟩ = some vb) ∧
    (W.cell? ⟨w.heap.size + 1 + 1, 0, none⟩ = some (.int .i64 0) ∧ W.cell? ⟨w.heap.size + 1 + 1, 1, none⟩ = some (.slice none 0 0) ∧ W.frozen? ⟨w.heap.size + 1 + 1, 0, none⟩ = false ∧ W.frozen? ⟨w.heap.size + 1 + 1, 1, none⟩ = false) := by
  have hz := boxed_size w S v k n vb
  have e0 : (boxed w S v k n vb).heap[w.heap.size]? = some (obQ S v) := by unfold boxed; rw [heap_old _ _ _ (by simp; omega), heap_old _ _ _ (by simp), heap_new]
  have e1 : (boxed w S v k n vb).heap[w.heap.size + 1]? = some (obA k n vb) := by
    unfold boxed
    rw [heap_old _ _ _ (by simp)]
    have := heap_new (w.alloc (obQ S v)) (obA k n vb)
    simpa only [World.size_alloc] using this
  have e2 : (boxed w S v k n vb).heap[w.heap.size + 1 + 1]? = some ob0 := by
    have := heap_new ((w.alloc (obQ S v)).alloc (obA k n vb)) ob0
    unfold boxed
    simpa only [World.size_alloc] using this
  have f0 := (ht.block w.heap.size (by omega) (by omega) (by omega)).trans e0
  have f1 := (ht.block (w.heap.size + 1) (by omega) (by omega) (by omega)).trans e1
  have f2 := (ht.block (w.heap.size + 1 + 1) (by omega) (by omega) (by omega)).trans e2
  unfold obQ at f0
  unfold obA at f1
  unfold ob0 at f2
  refine ⟨⟨?_, ?_⟩, ⟨?_, ?_, ?_⟩, ?_, ?_, ?_, ?_⟩
  · simp only [World.cell?, f0]; rfl
  · simp only [World.cell?, f0]; rfl
  · simp only [World.cell?, f1]; rfl
  · simp only [World.cell?, f1]; rfl
  · simp only [World.cell?, f1]; rfl
  · simp only [World.cell?, f2]; rfl
  · simp only [World.cell?, f2]; rfl
  · simp [World.frozen?, f2]
  · simp [World.frozen?, f2]
/-- What do leaves: both rings hold the same, and nothing else has turned. -/
structure DoP (r g S : Nat) (w w' : World) (v' : Value) (q' : List Int) : Prop where
  turn : Turn r g w w'
  ring : Holds w' r g S q'
  ref : QAt r g w' v' q'
theorem rem6 (k : Int) : -6 < k.tmod 6 ∧ k.tmod 6 < 6 := by
  have h1 := Int.tmod_lt_of_pos k (show (0 : Int) < 6 by omega)
  have h2 := Int.tmod_lt_of_pos (-k) (show (0 : Int) < 6 by omega)
  rw [Int.neg_tmod] at h2
  omega
theorem Mine.qat {w w' : World} {pa : Option Addr} {cap r g : Nat} {bs : List Int} (h : Mine w w' pa cap bs) (hr : r < w.heap.size) (hg : g < w.heap.size) : QAt r g w' (.slice pa bs.length cap) bs := by
  cases pa with
  | none => obtain ⟨rfl, rfl⟩ := h.nothing rfl; exact .inl ⟨rfl, rfl⟩
  | some a =>
    obtain ⟨b, cur, rfl, h1, h2, h3, h4⟩ := h.row a rfl
    rcases h.arg with ⟨hv, _⟩ | ⟨b', o', cap', h5, h6, h7, h8, h9⟩
    · simp at hv
    · simp only [Value.slice.injEq, Option.some.injEq] at h6
      obtain ⟨e1, e2, e3⟩ := h6
      cases e1
      exact .inr ⟨b, 0, cap, ⟨h5, by omega, by omega⟩, rfl, h.fits, h.most, h9⟩
theorem QAt.src {r g : Nat} {w : World} {v : Value} {bs : List Int} (h : QAt r g w v bs) : SrcAt g w v bs := by
  rcases h with h | ⟨b, o, cap, h1, h2, h3, h4, h5⟩
  · exact .inl h
  · exact .inr ⟨b, o, cap, h2, h3, h4, h5, h1.2.2⟩
theorem Turn.cell {r g : Nat} {w w' : World} (h : Turn r g w w') {b o : Nat} {v : Value} (hb : b ≠ r) (hb2 : b ≠ g) (hc : w.cell? ⟨b, o, none⟩ = some v) : w'.cell? ⟨b, o, none⟩ = some v := by
  have hlt : b < w.heap.size := by
    rcases Nat.lt_or_ge b w.heap.size with h' | h'
    · exact h'
    · simp [World.cell?, Array.getElem?_eq_none h'] at hc
  exact (World.cell?_of_block (w := w) (a := ⟨b, o, none⟩) (h.block b hlt hb hb2)).trans hc
theorem do_heap (w W : World) (A B : Value) (i : Nat) (hi : i ≠ w.heap.size + 1 + 1) : ((W.setCell ⟨w.heap.size + 1 + 1, 0, none⟩ A).setCell ⟨w.heap.size + 1 + 1, 1, none⟩ B).heap[i]? = W.heap[i]? := by
  rw [Below.heap_setCell _ _ _ _ (by show i ≠ w.heap.size + 1 + 1; exact hi), Below.heap_setCell _ _ _ _ (by show i ≠ w.heap.size + 1 + 1; exact hi)]
theorem do_cell {w W : World} {b o : Nat} {x : Value} (hb : b ≠ w.heap.size + 1 + 1) (h : W.cell? ⟨b, o, none⟩ = some x) (A B : Value) : ((W.setCell ⟨w.heap.size + 1 + 1, 0, none⟩ A).setCell ⟨w.heap.size + 1 + 1, 1, none⟩ B).cell? ⟨b, o, none⟩ = some x :=
  (World.cell?_of_block (w := W) (a := ⟨b, o, none⟩) (do_heap w W A B b hb)).trans h
theorem do_qat {w W : World} {r g S : Nat} {v vb v' : Value} {k n : Int} {q' : List Int} (hr : r < w.heap.size) (hg : g < w.heap.size) (ht : Turn r g (boxed w S v k n vb) W) (hq : QAt r g W v' q') (A B : Value) :
    QAt r g ((W.setCell ⟨w.heap.size + 1 + 1, 0, none⟩ A).setCell ⟨w.heap.size + 1 + 1, 1, none⟩ B) v' q' := by
  have hz := boxed_size w S v k n vb
  have e2 : (boxed w S v k n vb).heap[w.heap.size + 1 + 1]? = some ob0 := by
    have := heap_new ((w.alloc (obQ S v)).alloc (obA k n vb)) ob0
    unfold boxed
    simpa only [World.size_alloc] using this
  have f2 := (ht.block (w.heap.size + 1 + 1) (by omega) (by omega) (by omega)).trans e2
  have u := no_u8 (V := .slice none 0 0) (fun x h => by cases h) f2
  rcases hq with hq | ⟨b, o, cap, h1, h2, h3, h4, h5⟩
  · exact .inl hq
  · exact .inr ⟨b, o, cap, ⟨by simp [World.setCell]; exact h1.1, h1.2⟩, h2, h3, h4, h5.over (fun i hi _ => do_heap w W A B i hi) u u⟩
theorem do_vb {w W : World} {r g S : Nat} {v vb v' : Value} {k n : Int} {q' : List Int} (hr : r < w.heap.size) (hg : g < w.heap.size) (ht : Turn r g (boxed w S v k n vb) W) (hq : VbAt r g W v' q') (A B : Value) :
    VbAt r g ((W.setCell ⟨w.heap.size + 1 + 1, 0, none⟩ A).setCell ⟨w.heap.size + 1 + 1, 1, none⟩ B) v' q' := by
  rcases hq with hq | hq
  · exact .inl (do_qat hr hg ht hq A B)
  · exact .inr hq
theorem do_end {w W : World} {r g S : Nat} {v vb v' : Value} {k n : Int} {q' : List Int} (hr : r < w.heap.size) (hg : g < w.heap.size) (ht : Turn r g (boxed w S v k n vb) W) (hh : Holds W r g S q') (hq : QAt r g W v' q') (A B : Value) :
    DoP r g S w ((W.setCell ⟨w.heap.size + 1 + 1, 0, none⟩ A).setCell ⟨w.heap.size + 1 + 1, 1, none⟩ B) v' q' := by
  have hz := boxed_size w S v k n vb
  have hz2 := ht.size
  have e2 : (boxed w S v k n vb).heap[w.heap.size + 1 + 1]? = some ob0 := by
    have := heap_new ((w.alloc (obQ S v)).alloc (obA k n vb)) ob0
    unfold boxed
    simpa only [World.size_alloc] using this
  have f2 := (ht.block (w.heap.size + 1 + 1) (by omega) (by omega) (by omega)).trans e2
  have hk : ∀ i, i ≠ w.heap.size + 1 + 1 → i ≠ w.heap.size + 1 + 1 → ((W.setCell ⟨w.heap.size + 1 + 1, 0, none⟩ A).setCell ⟨w.heap.size + 1 + 1, 1, none⟩ B).heap[i]? = W.heap[i]? := fun i hi _ => by
    rw [Below.heap_setCell _ _ _ _ (by show i ≠ w.heap.size + 1 + 1; exact hi), Below.heap_setCell _ _ _ _ (by show i ≠ w.heap.size + 1 + 1; exact hi)]
  have hsz : ((W.setCell ⟨w.heap.size + 1 + 1, 0, none⟩ A).setCell ⟨w.heap.size + 1 + 1, 1, none⟩ B).heap.size = W.heap.size := by simp [World.setCell]
  have u := no_u8 (V := .slice none 0 0) (fun x h => by cases h) f2
  have t1 : Turn r g w W := (Turn.of_below (boxed_below w S v k n vb)).trans ht
  refine ⟨⟨t1.os, t1.tape, t1.output, by rw [hsz]; exact t1.size, fun i hi h1 h2 => ?_⟩, hh.of_heap (hk r (by omega) (by omega)) (hk g (by omega) (by omega)), ?_⟩
  · rw [hk i (by omega) (by omega)]; exact t1.block i hi h1 h2
  · rcases hq with hq | ⟨b, o, cap, h1, h2, h3, h4, h5⟩
    · exact .inl hq
    · exact .inr ⟨b, o, cap, ⟨by rw [hsz]; exact h1.1, h1.2⟩, h2, h3, h4, h5.over hk u u⟩
set_option maxRecDepth 20000 in
set_option maxHeartbeats 4000000 in
theorem do_write0 (r g S N c : Nat) (pv pb : Option Addr) (nb cb : Nat) (kind n : Int) (q bs : List Int) (w : World) (h : Holds w r g S q) (hN : q.length = N) (hq : QAt r g w (.slice pv N c) q) (hb : VbAt r g w (.slice pb nb cb) bs) (hnb : bs.length = nb) (hnb2 : nb ≤ 140737488355328) (hk : (kind.tmod 6 + 6) % 6 = 0) :
    Calls Try.prog 10 #[.pointer (some ⟨r, 0, none⟩), .agg #[.int .i64 S, .slice pv N c], .agg #[.int .i64 kind, .int .i64 n, .slice pb nb cb]] w fun e w' => ∃ v' q', e = .returned (.tuple #[.agg #[.int .i64 S, v'], .bool true]) ∧ DoP r g S w w' v' q' := by
  obtain ⟨h1, h2⟩ := rem6 kind
  have HW0 : Hid (boxed w S (.slice pv N c) kind n (.slice pb nb cb) = ((w.alloc (.cells #[.int .i64 S, .slice pv N c] 30)).alloc (.cells #[.int .i64 kind, .int .i64 n, .slice pb nb cb] 38)).alloc (.cells #[.int .i64 0, .slice none 0 0] 30)) := rfl
  have HNB := hid hnb
  have HN := hid hN
  have HR : Hid (r < w.heap.size ∧ g < w.heap.size) := ⟨h.rlt, h.glt⟩
  have hS1 := h.most
  have hS2 := h.le
  rw [hN] at hS2
  have HH : Hid (Holds (boxed w S (.slice pv N c) kind n (.slice pb nb cb)) r g S q ∧ QAt r g (boxed w S (.slice pv N c) kind n (.slice pb nb cb)) (.slice pv N c) q ∧ VbAt r g (boxed w S (.slice pv N c) kind n (.slice pb nb cb)) (.slice pb nb cb) bs) := ⟨h.below (boxed_below ..), hq.below (boxed_below ..), hb.below (boxed_below ..)⟩
  obtain ⟨m, Hm⟩ : ∃ m, Hid (m = min bs.length (S - q.length)) := ⟨_, rfl⟩
  clear h hq hb hN hnb
  go_enter Try.func10, Try.ntmps10
  go_wp2_with (first
    | (at_builtin; refine wpList_append_vb rfl _ _ rfl rfl _ rfl bs HH.out.2.2 (by rw [HNB.out]; exact hnb2) ?_; intro pa cap w4 hm; have HM : Hid (Mine (boxed w S (.slice pv N c) kind n (.slice pb nb cb)) w4 pa cap bs) := hm; have HT4 : Hid (Turn r g (boxed w S (.slice pv N c) kind n (.slice pb nb cb)) w4) := Turn.of_below hm.below; obtain ⟨⟨c0, c1⟩, ⟨a0, a1, a2⟩, d0, d1, f0, f1⟩ := do_cells HR.out.1 HR.out.2 HT4.out; clear hm d0 d1 f0 f1 a0 a1; rw [HNB.out])
    | (go_at_call 22; refine (refWrite_vb r g S _ (by have := HT4.out.size; have := boxed_size w S (.slice pv N c) kind n (.slice pb nb cb); have := HR.out.1; omega) (by have := HT4.out.size; have := boxed_size w S (.slice pv N c) kind n (.slice pb nb cb); have := HR.out.2; omega) (by rw [HN.out]; exact hS2) hS1 (HH.out.2.1.turn HT4.out).arg (HH.out.2.2.turn HT4.out) m Hm.out).mono ?_; rintro e w5 ⟨v5, rfl, h5⟩; obtain ⟨p5, n5, c5, rfl, H5⟩ := h5.ring.arg.slice3; have HB5 := hid h5; clear h5))
  obtain ⟨T, HTT⟩ : ∃ T, Hid (strOfNums bs = T) := ⟨_, rfl⟩
  have HB6 : Hid (Below w5.heap.size w5 (w5.alloc (.cells #[.int .i64 S, .slice p5 n5 c5] 30)).drew) := ⟨rfl, rfl, rfl, by simp, fun k hk => Below.heap_alloc _ _ _ hk⟩
  have HT6 : Hid (Turn r g (boxed w S (.slice pv N c) kind n (.slice pb nb cb)) (w5.alloc (.cells #[.int .i64 S, .slice p5 n5 c5] 30)).drew) := (HT4.out.trans (Turn.of_below HB5.out.below)).trans (Turn.of_below HB6.out)
  have HQ6 : Hid (QAt r g (w5.alloc (.cells #[.int .i64 S, .slice p5 n5 c5] 30)).drew (.slice p5 n5 c5) (q ++ bs.take m)) := HB5.out.ring.below HB6.out
  have HM6 : Hid (QAt r g (w5.alloc (.cells #[.int .i64 S, .slice p5 n5 c5] 30)).drew (.slice pa nb cap) bs) := by
    have h0 := (((HM.out.qat (by rw [boxed_size]; have := HR.out.1; omega) (by rw [boxed_size]; have := HR.out.2; omega) : QAt r g w4 _ bs).below HB5.out.below).below HB6.out)
    rw [HNB.out] at h0
    exact h0
  have HA6 : Hid (VbAt r g (w5.alloc (.cells #[.int .i64 S, .slice p5 n5 c5] 30)).drew (.slice pb nb cb) bs) := HH.out.2.2.turn HT6.out
  have HH6 : Hid (Holds (w5.alloc (.cells #[.int .i64 S, .slice p5 n5 c5] 30)).drew r g S q) := ((HH.out.1.below HM.out.below).below HB5.out.below).below HB6.out
  have hy : r ≠ w5.heap.size ∧ g ≠ w5.heap.size := by
    have h0 := HT4.out.size
    have h3 := HB5.out.below.size
    have := boxed_size w S (.slice pv N c) kind n (.slice pb nb cb)
    have := HR.out
    omega
  have HY := hid hy
  have HYZ : Hid (w5.heap.size ≠ w.heap.size + 1 + 1) := by
    show _ ≠ _
    have h0 := HT4.out.size
    have h3 := HB5.out.below.size
    have := boxed_size w S (.slice pv N c) kind n (.slice pb nb cb)
    omega
  have y0 : (w5.alloc (.cells #[.int .i64 S, .slice p5 n5 c5] 30)).drew.cell? ⟨w5.heap.size, 0, none⟩ = some (.int .i64 S) := by
    have e := heap_new w5 (.cells #[.int .i64 S, .slice p5 n5 c5] 30)
    show (w5.alloc (.cells #[.int .i64 S, .slice p5 n5 c5] 30)).cell? _ = _
    simp only [World.cell?, e]; rfl
  have y1 : (w5.alloc (.cells #[.int .i64 S, .slice p5 n5 c5] 30)).drew.cell? ⟨w5.heap.size, 1, none⟩ = some (.slice p5 n5 c5) := by
    have e := heap_new w5 (.cells #[.int .i64 S, .slice p5 n5 c5] 30)
    show (w5.alloc (.cells #[.int .i64 S, .slice p5 n5 c5] 30)).cell? _ = _
    simp only [World.cell?, e]; rfl
  have HY0 := hid y0
  have HY1 := hid y1
  obtain ⟨⟨c06, c16⟩, ⟨a06, a16, a26⟩, d06, d16, f06, f16⟩ := do_cells HR.out.1 HR.out.2 HT6.out
  have v1 : (convert 28 9 (.slice pa nb cap)).run Try.prog (w5.alloc (.cells #[.int .i64 S, .slice p5 n5 c5] 30)).drew = .ok (.string T) (w5.alloc (.cells #[.int .i64 S, .slice p5 n5 c5] 30)).drew := by rw [← HTT.out]; exact HM6.out.arg.conv
  have v2 : (convert 28 9 (.slice pb nb cb)).run Try.prog (w5.alloc (.cells #[.int .i64 S, .slice p5 n5 c5] 30)).drew = .ok (.string T) (w5.alloc (.cells #[.int .i64 S, .slice p5 n5 c5] 30)).drew := by rw [← HTT.out]; exact HA6.out.conv
  clear c0 c1 a2 c06 c16 a06 a16 d06 d16 f06 f16 hy
  go_region_held3 (fun W => W.cell? ⟨w5.heap.size, 0, none⟩ = some (.int .i64 S) ∧ W.cell? ⟨w5.heap.size, 1, none⟩ = some (.slice p5 n5 c5) ∧ W.cell? ⟨w.heap.size + 1, 2, none⟩ = some (.slice pb nb cb) ∧ (convert 28 9 (.slice pa nb cap)).run Try.prog W = .ok (.string T) W ∧ (convert 28 9 (.slice pb nb cb)).run Try.prog W = .ok (.string T) W) (first | exact ⟨by assumption, by assumption, by assumption, by assumption, by assumption⟩ | exact hE8 _ _)
    ((go_at_call 12; refine (hwrite_any HH6.out HM6.out.src m Hm.out).mono ?_; rintro e w7 ⟨rfl, ht7, hz7, hh7⟩; have HT7 := hid (HT6.out.trans ht7); have y07 := ht7.cell HY.out.1.symm HY.out.2.symm HY0.out; have y17 := ht7.cell HY.out.1.symm HY.out.2.symm HY1.out; obtain ⟨⟨c07, c17⟩, ⟨a07, a17, a27⟩, d07, d17, f07, f17⟩ := do_cells HR.out.1 HR.out.2 HT7.out; have v17 : (convert 28 9 (.slice pa nb cap)).run Try.prog w7 = .ok (.string T) w7 := (by rw [← HTT.out]; exact (HM6.out.turn ht7).arg.conv); have v27 : (convert 28 9 (.slice pb nb cb)).run Try.prog w7 = .ok (.string T) w7 := (by rw [← HTT.out]; exact (HA6.out.turn ht7).conv); have hE8 : ∀ A B, ((w7.setCell ⟨w.heap.size + 1 + 1, 0, none⟩ A).setCell ⟨w.heap.size + 1 + 1, 1, none⟩ B).cell? ⟨w5.heap.size, 0, none⟩ = some (.int .i64 S) ∧ ((w7.setCell ⟨w.heap.size + 1 + 1, 0, none⟩ A).setCell ⟨w.heap.size + 1 + 1, 1, none⟩ B).cell? ⟨w5.heap.size, 1, none⟩ = some (.slice p5 n5 c5) ∧ ((w7.setCell ⟨w.heap.size + 1 + 1, 0, none⟩ A).setCell ⟨w.heap.size + 1 + 1, 1, none⟩ B).cell? ⟨w.heap.size + 1, 2, none⟩ = some (.slice pb nb cb) ∧ (convert 28 9 (.slice pa nb cap)).run Try.prog ((w7.setCell ⟨w.heap.size + 1 + 1, 0, none⟩ A).setCell ⟨w.heap.size + 1 + 1, 1, none⟩ B) = .ok (.string T) ((w7.setCell ⟨w.heap.size + 1 + 1, 0, none⟩ A).setCell ⟨w.heap.size + 1 + 1, 1, none⟩ B) ∧ (convert 28 9 (.slice pb nb cb)).run Try.prog ((w7.setCell ⟨w.heap.size + 1 + 1, 0, none⟩ A).setCell ⟨w.heap.size + 1 + 1, 1, none⟩ B) = .ok (.string T) ((w7.setCell ⟨w.heap.size + 1 + 1, 0, none⟩ A).setCell ⟨w.heap.size + 1 + 1, 1, none⟩ B) := (fun A B => ⟨do_cell HYZ.out y07 A B, do_cell HYZ.out y17 A B, do_cell (by omega) a27 A B, by rw [← HTT.out]; exact (do_qat HR.out.1 HR.out.2 HT7.out (HM6.out.turn ht7) A B).arg.conv, by rw [← HTT.out]; exact (do_vb HR.out.1 HR.out.2 HT7.out (HA6.out.turn ht7) A B).conv⟩); have HQ7 := hid (HQ6.out.turn ht7); have HH7 := hid hh7; clear ht7 hz7 hh7 c07 c17 a07 a17))
  go_wp2
  refine bodyPost_ret (v := .tuple #[.agg #[.int .i64 S, .slice p5 n5 c5], .bool true]) (by simp [results, go_sem, d07, d17]) rfl ⟨.slice p5 n5 c5, q ++ bs.take m, rfl, do_end HR.out.1 HR.out.2 HT7.out HH7.out HQ7.out _ _⟩
set_option maxRecDepth 20000 in
set_option maxHeartbeats 4000000 in
theorem do_write1 (r g S N c : Nat) (pv pb : Option Addr) (nb cb : Nat) (kind n : Int) (q bs : List Int) (w : World) (h : Holds w r g S q) (hN : q.length = N) (hq : QAt r g w (.slice pv N c) q) (hb : VbAt r g w (.slice pb nb cb) bs) (hnb : bs.length = nb) (hnb2 : nb ≤ 140737488355328) (hk : (kind.tmod 6 + 6) % 6 = 1) :
    Calls Try.prog 10 #[.pointer (some ⟨r, 0, none⟩), .agg #[.int .i64 S, .slice pv N c], .agg #[.int .i64 kind, .int .i64 n, .slice pb nb cb]] w fun e w' => ∃ v' q', e = .returned (.tuple #[.agg #[.int .i64 S, v'], .bool true]) ∧ DoP r g S w w' v' q' := by
  obtain ⟨h1, h2⟩ := rem6 kind
  have HW0 : Hid (boxed w S (.slice pv N c) kind n (.slice pb nb cb) = ((w.alloc (.cells #[.int .i64 S, .slice pv N c] 30)).alloc (.cells #[.int .i64 kind, .int .i64 n, .slice pb nb cb] 38)).alloc (.cells #[.int .i64 0, .slice none 0 0] 30)) := rfl
  have HNB := hid hnb
  have HN := hid hN
  have HR : Hid (r < w.heap.size ∧ g < w.heap.size) := ⟨h.rlt, h.glt⟩
  have hS1 := h.most
  have hS2 := h.le
  rw [hN] at hS2
  have HH : Hid (Holds (boxed w S (.slice pv N c) kind n (.slice pb nb cb)) r g S q ∧ QAt r g (boxed w S (.slice pv N c) kind n (.slice pb nb cb)) (.slice pv N c) q ∧ VbAt r g (boxed w S (.slice pv N c) kind n (.slice pb nb cb)) (.slice pb nb cb) bs) := ⟨h.below (boxed_below ..), hq.below (boxed_below ..), hb.below (boxed_below ..)⟩
  obtain ⟨m, Hm⟩ : ∃ m, Hid (m = min bs.length (S - q.length)) := ⟨_, rfl⟩
  clear h hq hb hN hnb
  go_enter Try.func10, Try.ntmps10
  go_wp2_with (first
    | (at_builtin; refine wpList_append_vb rfl _ _ rfl rfl _ rfl bs HH.out.2.2 (by rw [HNB.out]; exact hnb2) ?_; intro pa cap w4 hm; have HM : Hid (Mine (boxed w S (.slice pv N c) kind n (.slice pb nb cb)) w4 pa cap bs) := hm; have HT4 : Hid (Turn r g (boxed w S (.slice pv N c) kind n (.slice pb nb cb)) w4) := Turn.of_below hm.below; obtain ⟨⟨c0, c1⟩, ⟨a0, a1, a2⟩, d0, d1, f0, f1⟩ := do_cells HR.out.1 HR.out.2 HT4.out; clear hm d0 d1 f0 f1 a0 a1; rw [HNB.out])
    | (go_at_call 22; refine (refWrite_vb r g S _ (by have := HT4.out.size; have := boxed_size w S (.slice pv N c) kind n (.slice pb nb cb); have := HR.out.1; omega) (by have := HT4.out.size; have := boxed_size w S (.slice pv N c) kind n (.slice pb nb cb); have := HR.out.2; omega) (by rw [HN.out]; exact hS2) hS1 (HH.out.2.1.turn HT4.out).arg (HH.out.2.2.turn HT4.out) m Hm.out).mono ?_; rintro e w5 ⟨v5, rfl, h5⟩; obtain ⟨p5, n5, c5, rfl, H5⟩ := h5.ring.arg.slice3; have HB5 := hid h5; clear h5))
  obtain ⟨T, HTT⟩ : ∃ T, Hid (strOfNums bs = T) := ⟨_, rfl⟩
  have HB6 : Hid (Below w5.heap.size w5 (w5.alloc (.cells #[.int .i64 S, .slice p5 n5 c5] 30)).drew) := ⟨rfl, rfl, rfl, by simp, fun k hk => Below.heap_alloc _ _ _ hk⟩
  have HT6 : Hid (Turn r g (boxed w S (.slice pv N c) kind n (.slice pb nb cb)) (w5.alloc (.cells #[.int .i64 S, .slice p5 n5 c5] 30)).drew) := (HT4.out.trans (Turn.of_below HB5.out.below)).trans (Turn.of_below HB6.out)
  have HQ6 : Hid (QAt r g (w5.alloc (.cells #[.int .i64 S, .slice p5 n5 c5] 30)).drew (.slice p5 n5 c5) (q ++ bs.take m)) := HB5.out.ring.below HB6.out
  have HM6 : Hid (QAt r g (w5.alloc (.cells #[.int .i64 S, .slice p5 n5 c5] 30)).drew (.slice pa nb cap) bs) := by
    have h0 := (((HM.out.qat (by rw [boxed_size]; have := HR.out.1; omega) (by rw [boxed_size]; have := HR.out.2; omega) : QAt r g w4 _ bs).below HB5.out.below).below HB6.out)
    rw [HNB.out] at h0
    exact h0
  have HA6 : Hid (VbAt r g (w5.alloc (.cells #[.int .i64 S, .slice p5 n5 c5] 30)).drew (.slice pb nb cb) bs) := HH.out.2.2.turn HT6.out
  have HH6 : Hid (Holds (w5.alloc (.cells #[.int .i64 S, .slice p5 n5 c5] 30)).drew r g S q) := ((HH.out.1.below HM.out.below).below HB5.out.below).below HB6.out
  have hy : r ≠ w5.heap.size ∧ g ≠ w5.heap.size := by
    have h0 := HT4.out.size
    have h3 := HB5.out.below.size
    have := boxed_size w S (.slice pv N c) kind n (.slice pb nb cb)
    have := HR.out
    omega
  have HY := hid hy
  have HYZ : Hid (w5.heap.size ≠ w.heap.size + 1 + 1) := by
    show _ ≠ _
    have h0 := HT4.out.size
    have h3 := HB5.out.below.size
    have := boxed_size w S (.slice pv N c) kind n (.slice pb nb cb)
    omega
  have y0 : (w5.alloc (.cells #[.int .i64 S, .slice p5 n5 c5] 30)).drew.cell? ⟨w5.heap.size, 0, none⟩ = some (.int .i64 S) := by
    have e := heap_new w5 (.cells #[.int .i64 S, .slice p5 n5 c5] 30)
    show (w5.alloc (.cells #[.int .i64 S, .slice p5 n5 c5] 30)).cell? _ = _
    simp only [World.cell?, e]; rfl
  have y1 : (w5.alloc (.cells #[.int .i64 S, .slice p5 n5 c5] 30)).drew.cell? ⟨w5.heap.size, 1, none⟩ = some (.slice p5 n5 c5) := by
    have e := heap_new w5 (.cells #[.int .i64 S, .slice p5 n5 c5] 30)
    show (w5.alloc (.cells #[.int .i64 S, .slice p5 n5 c5] 30)).cell? _ = _
    simp only [World.cell?, e]; rfl
  have HY0 := hid y0
  have HY1 := hid y1
  obtain ⟨⟨c06, c16⟩, ⟨a06, a16, a26⟩, d06, d16, f06, f16⟩ := do_cells HR.out.1 HR.out.2 HT6.out
  have v1 : (convert 28 9 (.slice pa nb cap)).run Try.prog (w5.alloc (.cells #[.int .i64 S, .slice p5 n5 c5] 30)).drew = .ok (.string T) (w5.alloc (.cells #[.int .i64 S, .slice p5 n5 c5] 30)).drew := by rw [← HTT.out]; exact HM6.out.arg.conv
  have v2 : (convert 28 9 (.slice pb nb cb)).run Try.prog (w5.alloc (.cells #[.int .i64 S, .slice p5 n5 c5] 30)).drew = .ok (.string T) (w5.alloc (.cells #[.int .i64 S, .slice p5 n5 c5] 30)).drew := by rw [← HTT.out]; exact HA6.out.conv
  clear c0 c1 a2 c06 c16 a06 a16 d06 d16 f06 f16 hy
  go_region_held3 (fun W => W.cell? ⟨w5.heap.size, 0, none⟩ = some (.int .i64 S) ∧ W.cell? ⟨w5.heap.size, 1, none⟩ = some (.slice p5 n5 c5) ∧ W.cell? ⟨w.heap.size + 1, 2, none⟩ = some (.slice pb nb cb) ∧ (convert 28 9 (.slice pa nb cap)).run Try.prog W = .ok (.string T) W ∧ (convert 28 9 (.slice pb nb cb)).run Try.prog W = .ok (.string T) W) (first | exact ⟨by assumption, by assumption, by assumption, by assumption, by assumption⟩ | exact hE8 _ _)
    ((go_at_call 12; refine (hwrite_any HH6.out HM6.out.src m Hm.out).mono ?_; rintro e w7 ⟨rfl, ht7, hz7, hh7⟩; have HT7 := hid (HT6.out.trans ht7); have y07 := ht7.cell HY.out.1.symm HY.out.2.symm HY0.out; have y17 := ht7.cell HY.out.1.symm HY.out.2.symm HY1.out; obtain ⟨⟨c07, c17⟩, ⟨a07, a17, a27⟩, d07, d17, f07, f17⟩ := do_cells HR.out.1 HR.out.2 HT7.out; have v17 : (convert 28 9 (.slice pa nb cap)).run Try.prog w7 = .ok (.string T) w7 := (by rw [← HTT.out]; exact (HM6.out.turn ht7).arg.conv); have v27 : (convert 28 9 (.slice pb nb cb)).run Try.prog w7 = .ok (.string T) w7 := (by rw [← HTT.out]; exact (HA6.out.turn ht7).conv); have hE8 : ∀ A B, ((w7.setCell ⟨w.heap.size + 1 + 1, 0, none⟩ A).setCell ⟨w.heap.size + 1 + 1, 1, none⟩ B).cell? ⟨w5.heap.size, 0, none⟩ = some (.int .i64 S) ∧ ((w7.setCell ⟨w.heap.size + 1 + 1, 0, none⟩ A).setCell ⟨w.heap.size + 1 + 1, 1, none⟩ B).cell? ⟨w5.heap.size, 1, none⟩ = some (.slice p5 n5 c5) ∧ ((w7.setCell ⟨w.heap.size + 1 + 1, 0, none⟩ A).setCell ⟨w.heap.size + 1 + 1, 1, none⟩ B).cell? ⟨w.heap.size + 1, 2, none⟩ = some (.slice pb nb cb) ∧ (convert 28 9 (.slice pa nb cap)).run Try.prog ((w7.setCell ⟨w.heap.size + 1 + 1, 0, none⟩ A).setCell ⟨w.heap.size + 1 + 1, 1, none⟩ B) = .ok (.string T) ((w7.setCell ⟨w.heap.size + 1 + 1, 0, none⟩ A).setCell ⟨w.heap.size + 1 + 1, 1, none⟩ B) ∧ (convert 28 9 (.slice pb nb cb)).run Try.prog ((w7.setCell ⟨w.heap.size + 1 + 1, 0, none⟩ A).setCell ⟨w.heap.size + 1 + 1, 1, none⟩ B) = .ok (.string T) ((w7.setCell ⟨w.heap.size + 1 + 1, 0, none⟩ A).setCell ⟨w.heap.size + 1 + 1, 1, none⟩ B) := (fun A B => ⟨do_cell HYZ.out y07 A B, do_cell HYZ.out y17 A B, do_cell (by omega) a27 A B, by rw [← HTT.out]; exact (do_qat HR.out.1 HR.out.2 HT7.out (HM6.out.turn ht7) A B).arg.conv, by rw [← HTT.out]; exact (do_vb HR.out.1 HR.out.2 HT7.out (HA6.out.turn ht7) A B).conv⟩); have HQ7 := hid (HQ6.out.turn ht7); have HH7 := hid hh7; clear ht7 hz7 hh7 c07 c17 a07 a17))
  go_wp2
  refine bodyPost_ret (v := .tuple #[.agg #[.int .i64 S, .slice p5 n5 c5], .bool true]) (by simp [results, go_sem, d07, d17]) rfl ⟨.slice p5 n5 c5, q ++ bs.take m, rfl, do_end HR.out.1 HR.out.2 HT7.out HH7.out HQ7.out _ _⟩
end Go.Proofs.Ytfiiiefhchbhlaa
