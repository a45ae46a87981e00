/- The law RingRuns returns true for every size, every row of acts and every number. -/
import Derived.Test.YtfiiiefhchbhlaaDoAny
import Derived.Test.YtfiiiefhchbhlaaSame
import Derived.Deep.CutBlock
import Derived.Deep.CutRange
namespace Go.Proofs.Ytfiiiefhchbhlaa
open Go.RowKit

/-- The bytes of an act that came in. -/
def OldB (w : World) (v : Value) (bs : List Int) : Prop := ArgAt w v bs ∨ ∃ a, v = .slice (some a) 0 0 ∧ bs = []
/-- A slice of acts that lies in memory. -/
def ActsAt (w : World) (pc : Option Addr) (M : Nat) : Prop :=
  ∀ k, k < M → ∃ b o kind n pb nb cb bs, pc = some ⟨b, o, none⟩ ∧ b < w.heap.size ∧ w.cell? ⟨b, o + k * 3, none⟩ = some (.int .i64 kind) ∧ w.cell? ⟨b, o + k * 3 + 1, none⟩ = some (.int .i64 n) ∧ w.cell? ⟨b, o + k * 3 + 2, none⟩ = some (.slice pb nb cb) ∧
    n ≤ 9223372036854775807 ∧ OldB w (.slice pb nb cb) bs ∧ bs.length = nb ∧ nb ≤ 140737488355328
/-- In the round: the ring, the document's ring in its variable y, and nothing old has turned. -/
structure RunP (w W : World) (r g S y N c : Nat) (pv : Option Addr) (q : List Int) : Prop where
  below : Below w.heap.size w W
  lo : w.heap.size ≤ r ∧ w.heap.size ≤ g ∧ w.heap.size ≤ y
  apart : y ≠ r ∧ y ≠ g
  ring : Holds W r g S q
  len : q.length = N
  ref : QAt r g W (.slice pv N c) q
  box : W.heap[y]? = some (.cells #[.int .i64 S, .slice pv N c] 30)
section
variable {w W W' : World} {r g S y N c : Nat} {pv : Option Addr} {q : List Int}
theorem RunP.next (h : RunP w W r g S y N c pv q) (hb : Below W.heap.size W W') : RunP w W' r g S y N c pv q :=
  ⟨h.below.trans (hb.mono h.below.size), h.lo, h.apart, h.ring.below hb, h.len, h.ref.below hb, (hb.block y (lt_of_heap h.box)).trans h.box⟩
theorem RunP.c0 (h : RunP w W r g S y N c pv q) : W.cell? ⟨y, 0, none⟩ = some (.int .i64 S) := by simp only [World.cell?, h.box]; rfl
theorem RunP.c1 (h : RunP w W r g S y N c pv q) : W.cell? ⟨y, 1, none⟩ = some (.slice pv N c) := by simp only [World.cell?, h.box]; rfl
theorem RunP.f (h : RunP w W r g S y N c pv q) (j : Nat) : W.frozen? ⟨y, j, none⟩ = false := by simp [World.frozen?, h.box]
end
theorem old_qat {w W : World} {r g : Nat} {v : Value} {bs : List Int} (h : ArgAt w v bs) (hb : Below w.heap.size w W) (hr : w.heap.size ≤ r) (hg : w.heap.size ≤ g) : QAt r g W v bs := by
  rcases h with h | ⟨b, o, cap, h1, h2, h3, h4, h5⟩
  · exact .inl h
  · exact .inr ⟨b, o, cap, ⟨Nat.lt_of_lt_of_le h1 hb.size, by omega, by omega⟩, h2, h3, h4, h5.of_heap (hb.block b h1)⟩
theorem old_vb {w W : World} {r g : Nat} {v : Value} {bs : List Int} (h : OldB w v bs) (hb : Below w.heap.size w W) (hr : w.heap.size ≤ r) (hg : w.heap.size ≤ g) : VbAt r g W v bs := by
  rcases h with h | h
  · exact .inl (old_qat h hb hr hg)
  · exact .inr h
/-- Behind do: the ring is at q5, the document's in block y2; y holds what it held. -/
structure MidP (w V : World) (r g S y N c y2 : Nat) (pv p5 : Option Addr) (n5 c5 : Nat) (q5 : List Int) : Prop where
  below : Below w.heap.size w V
  lo : w.heap.size ≤ r ∧ w.heap.size ≤ g ∧ w.heap.size ≤ y
  apart : y ≠ r ∧ y ≠ g
  ring : Holds V r g S q5
  len : q5.length = n5
  ref : QAt r g V (.slice p5 n5 c5) q5
  box : V.heap[y]? = some (.cells #[.int .i64 S, .slice pv N c] 30)
  new : V.heap[y2]? = some (.cells #[.int .i64 S, .slice p5 n5 c5] 30)
theorem alloc_cells {W w5 : World} {r g : Nat} (hr : r < W.heap.size) (hg : g < W.heap.size) (ht : Turn r g (W.alloc (.cells #[.int .i64 0, .slice none 0 0] 30)).drew w5) :
    w5.heap[W.heap.size]? = some (.cells #[.int .i64 0, .slice none 0 0] 30) ∧ w5.cell? ⟨W.heap.size, 0, none⟩ = some (.int .i64 0) ∧ w5.cell? ⟨W.heap.size, 1, none⟩ = some (.slice none 0 0) ∧ w5.frozen? ⟨W.heap.size, 0, none⟩ = false ∧ w5.frozen? ⟨W.heap.size, 1, none⟩ = false := by
  have e : w5.heap[W.heap.size]? = some (.cells #[.int .i64 0, .slice none 0 0] 30) := (ht.block W.heap.size (by show _ < (W.alloc _).heap.size; simp) (by omega) (by omega)).trans (heap_new W _)
  refine ⟨e, ?_, ?_, ?_, ?_⟩
  · simp only [World.cell?, e]; rfl
  · simp only [World.cell?, e]; rfl
  · simp [World.frozen?, e]
  · simp [World.frozen?, e]
theorem far_cell {V : World} {b o z : Nat} {x : Value} (hb : b ≠ z) (h : V.cell? ⟨b, o, none⟩ = some x) (A B : Value) : ((V.setCell ⟨z, 0, none⟩ A).setCell ⟨z, 1, none⟩ B).cell? ⟨b, o, none⟩ = some x :=
  (World.cell?_of_block (w := V) (a := ⟨b, o, none⟩) (by rw [Below.heap_setCell _ _ _ _ (by show b ≠ z; exact hb), Below.heap_setCell _ _ _ _ (by show b ≠ z; exact hb)])).trans h
theorem Mid.of_do {w W V w5 : World} {r g S y N c : Nat} {pv : Option Addr} {q q' : List Int} {p5 : Option Addr} {n5 c5 : Nat} (h : RunP w W r g S y N c pv q) (hb : Below W.heap.size W V) (hd : DoP r g S V w5 (.slice p5 n5 c5) q') (hn : n5 = q'.length) {w6 : World} {y2 : Nat} (hk : ∀ i, i ≠ y2 → i < w5.heap.size → w6.heap[i]? = w5.heap[i]?) (hz : w5.heap.size ≤ w6.heap.size) (ho : w6.os = w5.os ∧ w6.tape = w5.tape ∧ w6.output = w5.output) (hy2 : W.heap.size ≤ y2)
    (hnew : w6.heap[y2]? = some (.cells #[.int .i64 S, .slice p5 n5 c5] 30)) (hu : ∀ j x, w5.cell? ⟨y2, j, none⟩ ≠ some (.int .u8 x)) : MidP w w6 r g S y N c y2 pv p5 n5 c5 q' := by
  have ht : Turn r g W w5 := (Turn.of_below hb).trans hd.turn
  have hlo := h.lo
  have hW := h.below.size
  have hr := h.ring.rlt
  have hg := h.ring.glt
  have hyl := lt_of_heap h.box
  have b1 : Below w.heap.size w w5 := h.below.trans (ht.below h.below.size h.lo.1 h.lo.2.1)
  have hz5 := ht.size
  have b2 : Below w.heap.size w5 w6 := ⟨ho.1, ho.2.1, ho.2.2, hz, fun i hi => hk i (by omega) (by omega)⟩
  refine ⟨b1.trans b2, h.lo, h.apart, hd.ring.of_heap (hk r (by omega) (by omega)) (hk g (by omega) (by omega)), hn.symm, ?_, ((hk y (by omega) (by omega)).trans (ht.block y hyl h.apart.1 h.apart.2)).trans h.box, hnew⟩
  rcases hd.ref with hq | ⟨b, o2, cap, h1, h2, h3, h4, h5⟩
  · exact .inl hq
  · refine .inr ⟨b, o2, cap, ⟨Nat.lt_of_lt_of_le h1.1 hz, h1.2⟩, h2, h3, h4, ?_⟩
    intro j x hj
    have h6 := h5 j x hj
    have hb2 : b ≠ y2 := fun e => by subst e; exact hu _ _ h6
    unfold World.cell? at h6 ⊢
    rwa [hk b hb2 h1.1]
theorem MidP.store {w V : World} {r g S y N c y2 n5 c5 : Nat} {pv p5 : Option Addr} {q5 : List Int} (h : MidP w V r g S y N c y2 pv p5 n5 c5 q5) :
    RunP w ((V.setCell ⟨y, 0, none⟩ (.int .i64 S)).setCell ⟨y, 1, none⟩ (.slice p5 n5 c5)) r g S y n5 c5 p5 q5 := by
  have hk : ∀ i, i ≠ y → i ≠ y → ((V.setCell ⟨y, 0, none⟩ (.int .i64 S)).setCell ⟨y, 1, none⟩ (.slice p5 n5 c5)).heap[i]? = V.heap[i]? := fun i hi _ => by
    rw [Below.heap_setCell _ _ _ _ (by show i ≠ y; exact hi), Below.heap_setCell _ _ _ _ (by show i ≠ y; exact hi)]
  have u := no_u8 (V := .slice pv N c) (fun x h => by cases h) h.box
  refine ⟨(h.below.setCell (by show _ ≤ y; exact h.lo.2.2) _).setCell (by show _ ≤ y; exact h.lo.2.2) _, h.lo, h.apart, h.ring.of_heap (hk r h.apart.1.symm h.apart.1.symm) (hk g h.apart.2.symm h.apart.2.symm), h.len, ?_, ?_⟩
  · rcases h.ref with hq | ⟨b, o2, cap, h1, h2, h3, h4, h5⟩
    · exact .inl hq
    · exact .inr ⟨b, o2, cap, ⟨by simp [World.setCell]; exact h1.1, h1.2⟩, h2, h3, h4, h5.over hk u u⟩
  · simp [World.setCell, Array.getElem?_modify, h.box]
set_option maxRecDepth 20000 in
set_option maxHeartbeats 4000000 in
theorem runs_no (size n : Int) (pc : Option Addr) (M cc : Nat) (w : World) (hs : size < 1 ∨ 1048576 < size) :
    Calls Try.prog 3 #[.int .i64 size, .slice pc M cc, .int .i64 n] w fun e w' => e = .returned (.bool true) ∧ Below w.heap.size w w' := by
  go_enter Try.func3, Try.ntmps3
  go_wp2_with (first
    | (go_at_call 6; refine (new_no size _ hs).mono ?_; rintro e w' ⟨rfl, rfl⟩)
    | (go_at_call 7; refine (refNew_no size _ hs).mono ?_; rintro e w2 ⟨rfl, hb2⟩)
    | (go_at_call 8; refine (num_err _ _).mono ?_; rintro e w' ⟨rfl, rfl⟩)
    | (go_at_call 9; refine (works_any _).mono ?_; rintro e w3 ⟨rfl, hb3⟩))
  go_ret
  exact ⟨rfl, (hb2.alloc hb2.size _).trans (hb3.mono (by have := hb2.size; simp; omega))⟩
set_option maxRecDepth 20000 in
set_option maxHeartbeats 4000000 in
theorem runs_yes (S : Nat) (n : Int) (pc : Option Addr) (M cc : Nat) (w : World) (h1 : 1 ≤ S) (h2 : S ≤ 1048576) (hA : ActsAt w pc M) :
    Calls Try.prog 3 #[.int .i64 S, .slice pc M cc, .int .i64 n] w fun e w' => e = .returned (.bool true) ∧ Below w.heap.size w w' := by
  have HA := hid hA
  clear hA
  go_enter Try.func3, Try.ntmps3
  go_wp2_with (first
    | (go_at_call 6; refine (hnew_any S _ h1 h2).mono ?_; rintro e w1 ⟨r, rfl, g, hb, hr, hg, hh⟩; have HS1 : Hid (Below w.heap.size w w1 ∧ w.heap.size ≤ r ∧ w.heap.size ≤ g ∧ Holds w1 r g S []) := ⟨hb, hr, hg, hh⟩; clear hb hr hg hh)
    | (go_at_call 7; refine (refNew_any S _ h1 h2).mono ?_; rintro e w2 ⟨rfl, hb2⟩; have HB2 := hid hb2; clear hb2))
  have HR0 : Hid (RunP w (w2.alloc (.cells #[.int .i64 S, .slice none 0 0] 30)) r g S w2.heap.size 0 0 none []) := by
    obtain ⟨k1, k2, k3, k4⟩ := HS1.out
    have hz := HB2.out.size
    have hz1 := k1.size
    have hbb : Below w1.heap.size w1 (w2.alloc (.cells #[.int .i64 S, .slice none 0 0] 30)) := HB2.out.alloc hz _
    exact ⟨k1.trans (hbb.mono hz1), ⟨k2, k3, by omega⟩, ⟨by have := k4.rlt; omega, by have := k4.glt; omega⟩, k4.below hbb, rfl, .inl ⟨rfl, rfl⟩, heap_new _ _⟩
  clear HS1 HB2
  obtain ⟨y, hy⟩ : ∃ y, y = w2.heap.size := ⟨_, rfl⟩
  rw [← hy] at HR0
  go_loopw [11] (fun i W => ∃ (k N c : Nat) (pv : Option Addr) (q : List Int), i = .int .i64 k ∧ k ≤ 500 ∧ Hid (RunP w W r g S w2.heap.size N c pv q)) (fun i _ => 500 - (intOf i).toNat)
  case atStart => exact ⟨0, 0, 0, none, [], rfl, Nat.zero_le _, by rw [← hy]; exact HR0⟩
  case round =>
    rw [← hy] at *
    obtain ⟨k, N, c, pv, q, rfl, hk, HP⟩ := hrel
    rename World => W
    by_cases hgo : k < M ∧ k < 500
    · obtain ⟨hkM, hk2⟩ := hgo
      have hkM' : (k : Int) < M := by omega
      have hk2' : (k : Int) < 500 := by omega
      obtain ⟨b, o, kind, an, pb, nb, cb, bs, rfl, hb, x0, x1, x2, hn2, hv, hl, hl2⟩ := HA.out k hkM
      have y0 := HP.out.c0
      have y1 := HP.out.c1
      have z0 : W.cell? ⟨b, o + k * 3, none⟩ = some (.int .i64 kind) := (HP.out.below.cell (p := ⟨b, o + k * 3, none⟩) hb).trans x0
      have z1 : W.cell? ⟨b, o + k * 3 + 1, none⟩ = some (.int .i64 an) := (HP.out.below.cell (p := ⟨b, o + k * 3 + 1, none⟩) hb).trans x1
      have z2 : W.cell? ⟨b, o + k * 3 + 2, none⟩ = some (.slice pb nb cb) := (HP.out.below.cell (p := ⟨b, o + k * 3 + 2, none⟩) hb).trans x2
      have HZ : Hid (W.cell? ⟨b, o + k * 3, none⟩ = some (.int .i64 kind) ∧ W.cell? ⟨b, o + k * 3 + 1, none⟩ = some (.int .i64 an) ∧ W.cell? ⟨b, o + k * 3 + 2, none⟩ = some (.slice pb nb cb)) := ⟨z0, z1, z2⟩
      have HBQ := hid (old_vb hv HP.out.below HP.out.lo.1 HP.out.lo.2.1)
      have HL := hid hl
      have HBL : Hid (b ≠ r ∧ b ≠ g) := by have := HP.out.lo; exact ⟨by omega, by omega⟩
      clear x0 x1 x2 hv hl
      have t5 : ∀ V, Turn r g W V → V.cell? ⟨y, 0, none⟩ = some (.int .i64 S) ∧ V.cell? ⟨y, 1, none⟩ = some (.slice pv N c) ∧ V.cell? ⟨b, o + k * 3, none⟩ = some (.int .i64 kind) ∧ V.cell? ⟨b, o + k * 3 + 1, none⟩ = some (.int .i64 an) ∧ V.cell? ⟨b, o + k * 3 + 2, none⟩ = some (.slice pb nb cb) := fun V ht =>
        ⟨ht.cell HP.out.apart.1 HP.out.apart.2 HP.out.c0, ht.cell HP.out.apart.1 HP.out.apart.2 HP.out.c1, ht.cell HBL.out.1 HBL.out.2 HZ.out.1, ht.cell HBL.out.1 HBL.out.2 HZ.out.2.1, ht.cell HBL.out.1 HBL.out.2 HZ.out.2.2⟩
      have s5 : ∀ V, Below W.heap.size W V → V.cell? ⟨y, 0, none⟩ = some (.int .i64 S) ∧ V.cell? ⟨y, 1, none⟩ = some (.slice pv N c) ∧ V.cell? ⟨b, o + k * 3, none⟩ = some (.int .i64 kind) ∧ V.cell? ⟨b, o + k * 3 + 1, none⟩ = some (.int .i64 an) ∧ V.cell? ⟨b, o + k * 3 + 2, none⟩ = some (.slice pb nb cb) := fun V hb => t5 V (Turn.of_below hb)
      go_upto_region 8 with fail
      go_cut [12, 13] from 60 to 68 (fun s12 s13 V => ∃ (y2 n5 c5 : Nat) (p5 : Option Addr) (q5 : List Int), s12 = .pointer (some ⟨y2, 0, none⟩) ∧ s13 = .bool true ∧ MidP w V r g S y N c y2 pv p5 n5 c5 q5)
      case first =>
        have HV1 : Hid (Below W.heap.size W W.drew) := (Below.refl _ _).drew
        have HV2 : Hid (Below W.heap.size W (W.alloc (.cells #[.int .i64 0, .slice none 0 0] 30)).drew) := ((Below.refl _ _).alloc (Nat.le_refl _) _).drew
        have HNE : Hid (y ≠ W.heap.size ∧ b ≠ W.heap.size) := ⟨Nat.ne_of_lt (lt_of_heap HP.out.box), by have := HP.out.below.size; omega⟩
        go_wp2_with fail
        go_region_held3 (fun V => V.cell? ⟨y, 0, none⟩ = some (.int .i64 S) ∧ V.cell? ⟨y, 1, none⟩ = some (.slice pv N c) ∧ V.cell? ⟨b, o + k * 3, none⟩ = some (.int .i64 kind) ∧ V.cell? ⟨b, o + k * 3 + 1, none⟩ = some (.int .i64 an) ∧ V.cell? ⟨b, o + k * 3 + 2, none⟩ = some (.slice pb nb cb)) (first | exact ⟨by assumption, by assumption, by assumption, by assumption, by assumption⟩ | exact s5 _ HV2.out | exact u5 _ _ | go_keep)
          (first
            | (go_at_call 10; with_reducible refine (do_any r g S N c pv pb nb cb kind an q bs W.drew (HP.out.ring.below HV1.out) HP.out.len (HP.out.ref.below HV1.out) (HBQ.out.below HV1.out) HL.out hl2 hn2).mono ?_; rintro e w5 ⟨v5, q5, rfl, h5⟩; obtain ⟨p5, n5, c5, rfl, H5⟩ := h5.ref.arg.slice3; have HD5 := hid h5; have ht5 : Turn r g W w5 := (Turn.of_below HV1.out).trans h5.turn; obtain ⟨y05, y15, z05, z15, z25⟩ := t5 _ ht5; clear h5 ht5)
            | (go_at_call 10; with_reducible refine (do_any r g S N c pv pb nb cb kind an q bs (W.alloc (.cells #[.int .i64 0, .slice none 0 0] 30)).drew (HP.out.ring.below HV2.out) HP.out.len (HP.out.ref.below HV2.out) (HBQ.out.below HV2.out) HL.out hl2 hn2).mono ?_; rintro e w5 ⟨v5, q5, rfl, h5⟩; obtain ⟨p5, n5, c5, rfl, H5⟩ := h5.ref.arg.slice3; have HD5 := hid h5; have ht5 : Turn r g W w5 := (Turn.of_below HV2.out).trans h5.turn; obtain ⟨y05, y15, z05, z15, z25⟩ := t5 _ ht5; obtain ⟨hbx, k0, k1, l0, l1⟩ := alloc_cells HP.out.ring.rlt HP.out.ring.glt h5.turn; have HBX := hid hbx; have u5 : ∀ A B, ((w5.setCell ⟨W.heap.size, 0, none⟩ A).setCell ⟨W.heap.size, 1, none⟩ B).cell? ⟨y, 0, none⟩ = some (.int .i64 S) ∧ ((w5.setCell ⟨W.heap.size, 0, none⟩ A).setCell ⟨W.heap.size, 1, none⟩ B).cell? ⟨y, 1, none⟩ = some (.slice pv N c) ∧ ((w5.setCell ⟨W.heap.size, 0, none⟩ A).setCell ⟨W.heap.size, 1, none⟩ B).cell? ⟨b, o + k * 3, none⟩ = some (.int .i64 kind) ∧ ((w5.setCell ⟨W.heap.size, 0, none⟩ A).setCell ⟨W.heap.size, 1, none⟩ B).cell? ⟨b, o + k * 3 + 1, none⟩ = some (.int .i64 an) ∧ ((w5.setCell ⟨W.heap.size, 0, none⟩ A).setCell ⟨W.heap.size, 1, none⟩ B).cell? ⟨b, o + k * 3 + 2, none⟩ = some (.slice pb nb cb) := (fun A B => ⟨far_cell HNE.out.1 y05 A B, far_cell HNE.out.1 y15 A B, far_cell HNE.out.2 z05 A B, far_cell HNE.out.2 z15 A B, far_cell HNE.out.2 z25 A B⟩); clear h5 ht5 hbx))
        · go_wp2
          go_meet
          case rel =>
            have hz : W.heap.size ≤ w5.heap.size := HD5.out.turn.size
            refine ⟨w5.heap.size, n5, c5, p5, q5, rfl, rfl, Mid.of_do HP.out HV1.out HD5.out H5.out (fun i hi hl => heap_old _ _ _ hl) (by simp) ⟨rfl, rfl, rfl⟩ hz (heap_new _ _) ?_⟩
            intro j x hc
            simp [World.cell?] at hc
        · go_wp2
          go_meet
          case rel =>
            refine ⟨W.heap.size, n5, c5, p5, q5, rfl, rfl, Mid.of_do HP.out HV2.out HD5.out H5.out (fun i hi hl => ?_) (by simp [World.setCell]) ⟨rfl, rfl, rfl⟩ (Nat.le_refl _) ?_ (no_u8 (V := .slice none 0 0) (fun x h => by cases h) HBX.out)⟩
            · rw [Below.heap_setCell _ _ _ _ (by show i ≠ W.heap.size; exact hi), Below.heap_setCell _ _ _ _ (by show i ≠ W.heap.size; exact hi)]
            · simp [World.setCell, Array.getElem?_modify, HBX.out]
      case rest =>
        obtain ⟨y2, n5, c5, p5, q5, rfl, rfl, hmid⟩ := hcut
        have HM := hid hmid
        have m0 : wc.cell? ⟨y2, 0, none⟩ = some (.int .i64 S) := by simp only [World.cell?, hmid.new]; rfl
        have m1 : wc.cell? ⟨y2, 1, none⟩ = some (.slice p5 n5 c5) := by simp only [World.cell?, hmid.new]; rfl
        have b0 : wc.cell? ⟨y, 0, none⟩ = some (.int .i64 S) := by simp only [World.cell?, hmid.box]; rfl
        have b1 : wc.cell? ⟨y, 1, none⟩ = some (.slice pv N c) := by simp only [World.cell?, hmid.box]; rfl
        have g0 : wc.frozen? ⟨y, 0, none⟩ = false := by simp [World.frozen?, hmid.box]
        have g1 : wc.frozen? ⟨y, 1, none⟩ = false := by simp [World.frozen?, hmid.box]
        have HR7 := hid hmid.store
        have e0 := HR7.out.c0
        have e1 := HR7.out.c1
        clear hmid
        go_wp2_with (first
          | (go_at_call 11; refine (same_any r g S n5 c5 p5 q5 _ _ HR8.out.ring HR8.out.len HR8.out.ref).mono ?_; rintro e w9 ⟨rfl, hb9⟩; have HR9 := hid (HR8.out.next hb9); have e09 := HR9.out.c0; have e19 := HR9.out.c1; clear HR8 hb9)
          | (go_at_call 11; refine (same_any r g S n5 c5 p5 q5 _ _ HR7.out.ring HR7.out.len HR7.out.ref).mono ?_; rintro e w8 ⟨rfl, hb8⟩; have HR8 := hid (HR7.out.next hb8); have e08 := HR8.out.c0; have e18 := HR8.out.c1; clear HR7 hb8))
        go_roundw
        case rel => exact ⟨k + 1, n5, c5, p5, q5, by go_num, by omega, HR9⟩
        case measure => simp [intOf]; omega
    · rcases (by omega : M ≤ k ∨ (k < M ∧ 500 ≤ k)) with hx | ⟨hx, hx2⟩
      · have hx' : ¬ (k : Int) < M := by omega
        go_wp2_with (go_at_call 9; refine (works_any _).mono ?_; rintro e w9 ⟨rfl, hb9⟩)
        go_ret
        exact ⟨rfl, (HP.out.next hb9).below⟩
      · have hx' : (k : Int) < M := by omega
        have hx3 : ¬ (k : Int) < 500 := by omega
        go_wp2_with (go_at_call 9; refine (works_any _).mono ?_; rintro e w9 ⟨rfl, hb9⟩)
        go_ret
        exact ⟨rfl, (HP.out.next hb9).below⟩
theorem runs_walk (size n : Int) (pc : Option Addr) (M cc : Nat) (w : World) (hA : ActsAt w pc M) :
    Calls Try.prog 3 #[.int .i64 size, .slice pc M cc, .int .i64 n] w fun e w' => e = .returned (.bool true) ∧ Below w.heap.size w w' := by
  by_cases h : size < 1 ∨ 1048576 < size
  · exact runs_no size n pc M cc w h
  · obtain ⟨S, rfl⟩ : ∃ S : Nat, size = S := ⟨size.toNat, by omega⟩
    exact runs_yes S n pc M cc w (by omega) (by omega) hA
end Go.Proofs.Ytfiiiefhchbhlaa
