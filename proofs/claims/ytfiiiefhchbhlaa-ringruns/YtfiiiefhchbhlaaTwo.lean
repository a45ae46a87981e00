/- A ring and its twin, apart from each other and from what was in memory. -/
import Derived.Test.YtfiiiefhchbhlaaArgs
namespace Go.Proofs.Ytfiiiefhchbhlaa
open Go.RowKit

/-- The ring r holds the bytes bs, in blocks of its own, and nothing that was in memory has turned. -/
structure Stage (w W : World) (r g : Nat) (bs : List Int) : Prop where
  below : Below w.heap.size w W
  rlo : w.heap.size ≤ r
  glo : w.heap.size ≤ g
  ring : Holds W r g 4096 bs
/-- The ring and its twin. -/
structure Two (w W : World) (r g r2 g2 : Nat) (p q : List Int) : Prop where
  below : Below w.heap.size w W
  lo : w.heap.size ≤ r ∧ w.heap.size ≤ g ∧ w.heap.size ≤ r2 ∧ w.heap.size ≤ g2
  ring : Holds W r g 4096 p
  twin : Holds W r2 g2 4096 q
  apart : r ≠ r2 ∧ r ≠ g2 ∧ g ≠ r2 ∧ g ≠ g2
theorem Two.over {w W W' : World} {r g r2 g2 : Nat} {p q : List Int} (h : Two w W r g r2 g2 p q) (hb : Below W.heap.size W W') : Two w W' r g r2 g2 p q :=
  ⟨h.below.trans (hb.mono h.below.size), h.lo, h.ring.below hb, h.twin.below hb, h.apart⟩
theorem Two.turn2 {w W W' : World} {r g r2 g2 : Nat} {p q q' : List Int} (h : Two w W r g r2 g2 p q) (ht : Turn r2 g2 W W') (hq : Holds W' r2 g2 4096 q') : Two w W' r g r2 g2 p q' :=
  ⟨h.below.trans (ht.below h.below.size h.lo.2.2.1 h.lo.2.2.2), h.lo, h.ring.other ht h.apart.1 h.apart.2.1 h.apart.2.2.1 h.apart.2.2.2, hq, h.apart⟩
theorem Two.turn1 {w W W' : World} {r g r2 g2 : Nat} {p q p' : List Int} (h : Two w W r g r2 g2 p q) (ht : Turn r g W W') (hq : Holds W' r g 4096 p') : Two w W' r g r2 g2 p' q :=
  ⟨h.below.trans (ht.below h.below.size h.lo.1 h.lo.2.1), h.lo, hq, h.twin.other ht h.apart.1.symm h.apart.2.2.1.symm h.apart.2.1.symm h.apart.2.2.2.symm, h.apart⟩
theorem Two.scrib {w W W' : World} {r g r2 g2 N : Nat} {p q : List Int} {pa : Option Addr} (h : Two w W r g r2 g2 p q) (hs : Scrib pa N W W') (hp : ∀ a, pa = some a → w.heap.size ≤ a.block ∧ (a.block ≠ r ∧ a.block ≠ g) ∧ a.block ≠ r2 ∧ a.block ≠ g2) : Two w W' r g r2 g2 p q :=
  ⟨h.below.trans (hs.below fun a ha => (hp a ha).1), h.lo, hs.holds h.ring fun a ha => (hp a ha).2.1, hs.holds h.twin fun a ha => (hp a ha).2.2, h.apart⟩
theorem Two.still {w W W' : World} {r g r2 g2 : Nat} {p q : List Int} (h : Two w W r g r2 g2 p q) (hs : Still W W') : Two w W' r g r2 g2 p q :=
  ⟨h.below.trans (hs.below _), h.lo, h.ring.still hs, h.twin.still hs, h.apart⟩
theorem new_first (w : World) : Calls Try.prog 6 #[.int .i64 4096] w fun e w' => ∃ r, e = .returned (.tuple #[.pointer (some ⟨r, 0, none⟩), .nilIface]) ∧ ∃ g, Stage w w' r g [] := by
  refine (hnew_any 4096 w (by omega) (by omega)).mono ?_
  rintro e w' ⟨r, rfl, g, hb, hr, hg, hh⟩
  exact ⟨r, rfl, g, hb, hr, hg, hh⟩
theorem new_second {w W : World} {r g : Nat} {bs : List Int} (h : Stage w W r g bs) : Calls Try.prog 6 #[.int .i64 4096] W fun e w' => ∃ r2, e = .returned (.tuple #[.pointer (some ⟨r2, 0, none⟩), .nilIface]) ∧ ∃ g2, Two w w' r g r2 g2 bs [] := by
  refine (hnew_any 4096 W (by omega) (by omega)).mono ?_
  rintro e w' ⟨r2, rfl, g2, hb, hr, hg, hh⟩
  have h1 := h.ring.rlt
  have h2 := h.ring.glt
  have h3 := h.below.size
  have h4 := h.rlo
  have h5 := h.glo
  exact ⟨r2, rfl, g2, h.below.trans (hb.mono h3), by omega, h.ring.below hb, hh, by omega⟩
/-- What came in is written to the ring. -/
theorem write_first {w W : World} {r g r2 g2 N : Nat} {bs q : List Int} {v : Value} (h : Two w W r g r2 g2 [] q) (hv : ArgAt w v bs) (hN : bs.length = N) (hN2 : N ≤ 4096) :
    Calls Try.prog 12 #[.pointer (some ⟨r, 0, none⟩), v] W fun e w' => e = .returned (.int .i64 N) ∧ Two w w' r g r2 g2 bs q := by
  have hs : SrcAt g W v bs := by
    rcases hv with hv | ⟨b, o, cap, h1, h2, h3, h4, h5⟩
    · exact .inl hv
    · exact .inr ⟨b, o, cap, h2, h3, h4, h5.of_heap (h.below.block b h1), by have := h.lo; omega⟩
  refine (hwrite_any h.ring hs N (by rw [hN]; simp; omega)).mono ?_
  rintro e w' ⟨rfl, ht, hz, hh⟩
  refine ⟨rfl, h.turn1 ht ?_⟩
  rwa [List.nil_append, List.take_of_length_le (by omega)] at hh
end Go.Proofs.Ytfiiiefhchbhlaa
