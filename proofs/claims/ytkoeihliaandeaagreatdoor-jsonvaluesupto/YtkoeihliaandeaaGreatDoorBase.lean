/- A reader of json in memory: its text, what is left of it, its depth; what turns and what stays. -/
import Derived.Test.YtkoeihliaandeaaGreatDoorSpec
import Derived.Test.YtkoeihliaandeaaGreatDoorProg
import Derived.WalkKit
import Derived.WalkSpells
import Derived.WalkLawsBesides
import Derived.Lib.Strings
import Derived.Deep.QuietTactic
import Derived.BigQuiet
import Derived.Laws.Tables
import Derived.Laws.Rows
import Derived.Laws.BytesArg
import Derived.OwnWalk
import Derived.Deep.LoopGhost
namespace Go.Proofs.YtkoeihliaandeaaGreatDoor
open Go.RowKit

theorem hid {p : Prop} (h : p) : Hid p := h
theorem lt_of_heap {w : World} {k : Nat} {o : Obj} (h : w.heap[k]? = some o) : k < w.heap.size := (Array.getElem?_eq_some_iff.1 h).1
theorem below_new (w : World) (o : Obj) : Below w.heap.size w (w.alloc o) := (Below.refl _ _).alloc (Nat.le_refl _) _
/-- Of what lay in memory, nothing but block h has turned. -/
structure Turn (h : Nat) (w w' : World) : Prop where
  os : w'.os = w.os
  tape : w'.tape = w.tape
  output : w'.output = w.output
  size : w.heap.size ≤ w'.heap.size
  block : ∀ k, k < w.heap.size → k ≠ h → w'.heap[k]? = w.heap[k]?
theorem Turn.refl (h : Nat) (w : World) : Turn h w w := ⟨rfl, rfl, rfl, Nat.le_refl _, fun _ _ _ => rfl⟩
theorem Turn.trans {h : Nat} {a b c : World} (x : Turn h a b) (y : Turn h b c) : Turn h a c :=
  ⟨y.os.trans x.os, y.tape.trans x.tape, y.output.trans x.output, Nat.le_trans x.size y.size, fun k hk hh => (y.block k (Nat.lt_of_lt_of_le hk x.size) hh).trans (x.block k hk hh)⟩
theorem Turn.of_below {h : Nat} {w w' : World} (b : Below w.heap.size w w') : Turn h w w' := ⟨b.os, b.tape, b.output, b.size, fun k hk _ => b.block k hk⟩
theorem Turn.setCell {h : Nat} {w w' : World} (x : Turn h w w') (j : Nat) (v : Value) : Turn h w (w'.setCell ⟨h, j, none⟩ v) :=
  x.trans ⟨rfl, rfl, rfl, by simp [World.setCell], fun k _ hh => Below.heap_setCell _ _ _ _ hh⟩
theorem Turn.below {h B : Nat} {w w' : World} (x : Turn h w w') (hB : B ≤ w.heap.size) (hh : B ≤ h) : Below B w w' :=
  ⟨x.os, x.tape, x.output, x.size, fun k hk => x.block k (by omega) (by omega)⟩
theorem Turn.drew {h : Nat} {w w' : World} (x : Turn h w w') : Turn h w w'.drew := ⟨x.os, x.tape, x.output, x.size, x.block⟩
theorem Turn.drewN {h : Nat} {w w' : World} (x : Turn h w w') : ∀ n, Turn h w (w'.drewN n)
  | 0 => x
  | n + 1 => (Turn.drewN x n).drew
theorem Turn.alloc {h : Nat} {w w' : World} (x : Turn h w w') (o : Obj) : Turn h w (w'.alloc o) := x.trans (Turn.of_below (below_new _ _))
/-- Block b is a reader of the text s, of which l is left; its depth is d. -/
structure Rd (w : World) (b : Nat) (s : ByteArray) (l : B) (d : Nat) : Prop where
  row : ∃ p : Nat, p ≤ s.size ∧ s.data.toList.drop p = l ∧ w.heap[b]? = some (.cells #[.string s, .int .i64 p, .int .i64 d] 45 (0, 0))
  size : s.size ≤ 140737488355328
theorem Rd.of_heap {w w' : World} {b : Nat} {s : ByteArray} {l : B} {d : Nat} (h : Rd w b s l d) (e : w'.heap[b]? = w.heap[b]?) : Rd w' b s l d := by
  obtain ⟨⟨p, h1, h2, h3⟩, h4⟩ := h
  exact ⟨⟨p, h1, h2, e.trans h3⟩, h4⟩
theorem Rd.lt {w : World} {b : Nat} {s : ByteArray} {l : B} {d : Nat} (h : Rd w b s l d) : b < w.heap.size := by
  obtain ⟨⟨p, h1, h2, h3⟩, h4⟩ := h
  exact lt_of_heap h3
theorem Rd.below {w w' : World} {b : Nat} {s : ByteArray} {l : B} {d : Nat} (h : Rd w b s l d) (hb : Below w.heap.size w w') : Rd w' b s l d := h.of_heap (hb.block b h.lt)
theorem Rd.drewN {w : World} {b : Nat} {s : ByteArray} {l : B} {d : Nat} (h : Rd w b s l d) (n : Nat) : Rd (w.drewN n) b s l d := h.below (by
  have := (Turn.refl (w.heap.size) w).drewN n
  exact this.below (Nat.le_refl _) (Nat.le_refl _))
/-- What a reader's cells hold: the place p. -/
structure At (w : World) (b : Nat) (s : ByteArray) (l : B) (d p : Nat) : Prop where
  c0 : w.cell? ⟨b, 0, none⟩ = some (.string s)
  c1 : w.cell? ⟨b, 1, none⟩ = some (.int .i64 p)
  c2 : w.cell? ⟨b, 2, none⟩ = some (.int .i64 d)
  fz : ∀ j, w.frozen? ⟨b, j, none⟩ = false
  len : l.length = s.size - p
  drop : s.data.toList.drop p = l
  le : p ≤ s.size
  most : s.size ≤ 140737488355328
theorem Rd.at {w : World} {b : Nat} {s : ByteArray} {l : B} {d : Nat} (h : Rd w b s l d) : ∃ p, At w b s l d p := by
  obtain ⟨⟨p, h1, h2, h3⟩, h4⟩ := h
  refine ⟨p, by simp [World.cell?, h3], by simp [World.cell?, h3], by simp [World.cell?, h3], fun j => by simp [World.frozen?, h3], ?_, h2, h1, h4⟩
  rw [← h2, List.length_drop]
  rfl
theorem At.byte {w : World} {b : Nat} {s : ByteArray} {c : UInt8} {l : B} {d p : Nat} (h : At w b s (c :: l) d p) : s.data.toList[p]? = some c := by
  have := h.drop
  have h2 : (s.data.toList.drop p)[0]? = some c := by rw [this]; rfl
  simpa using h2
/-- The place moved. -/
theorem Rd.move {w : World} {b : Nat} {s : ByteArray} {l : B} {d : Nat} (h : Rd w b s l d) (p : Nat) (hp : p ≤ s.size) : Rd (w.setCell ⟨b, 1, none⟩ (.int .i64 p)) b s (s.data.toList.drop p) d := by
  obtain ⟨⟨q, h1, h2, h3⟩, h4⟩ := h
  refine ⟨⟨p, hp, rfl, ?_⟩, h4⟩
  simp [World.setCell, Array.getElem?_modify, h3]
/-- The depth turned. -/
theorem Rd.deep {w : World} {b : Nat} {s : ByteArray} {l : B} {d : Nat} (h : Rd w b s l d) (d' : Nat) : Rd (w.setCell ⟨b, 2, none⟩ (.int .i64 d')) b s l d' := by
  obtain ⟨⟨q, h1, h2, h3⟩, h4⟩ := h
  refine ⟨⟨q, h1, h2, ?_⟩, h4⟩
  simp [World.setCell, Array.getElem?_modify, h3]
theorem Rd.moved {w : World} {b : Nat} {s : ByteArray} {l l' : B} {d p : Nat} (h : Rd w b s l d) (z : Int) (hz : z = p) (hp : p ≤ s.size) (hl : s.data.toList.drop p = l') : Rd (w.setCell ⟨b, 1, none⟩ (.int .i64 z)) b s l' d := by
  subst hz hl
  exact h.move p hp
theorem At.step {w : World} {b : Nat} {s : ByteArray} {c : UInt8} {l : B} {d p : Nat} (h : At w b s (c :: l) d p) : s.data.toList.drop (p + 1) = l ∧ p + 1 ≤ s.size := by
  have h1 := h.drop
  have h2 := h.len
  have h3 := h.le
  simp at h2
  refine ⟨?_, by omega⟩
  rw [← List.drop_drop, h1]
  rfl
end Go.Proofs.YtkoeihliaandeaaGreatDoor
