/- The program's reader in memory. -/
import Derived.Test.YtnlmjlfoeodleaaGreatDoorPSpec
namespace Go.Proofs.YtnlmjlfoeodleaaGreatDoor
open Go.RowKit

/-- Nothing but the blocks of F has turned. -/
structure Only (F : Nat → Prop) (w w' : World) : Prop where
  os : w'.os = w.os
  tape : w'.tape = w.tape
  output : w'.output = w.output
  size : w.heap.size ≤ w'.heap.size
  block : ∀ k, k < w.heap.size → ¬ F k → w'.heap[k]? = w.heap[k]?
theorem Only.refl (F : Nat → Prop) (w : World) : Only F w w := ⟨rfl, rfl, rfl, Nat.le_refl _, fun _ _ _ => rfl⟩
theorem Only.of_below {F : Nat → Prop} {w w' : World} (h : Below w.heap.size w w') : Only F w w' := ⟨h.os, h.tape, h.output, h.size, fun k hk _ => h.block k hk⟩
theorem Only.trans {F G : Nat → Prop} {a b c : World} (h : Only F a b) (k : Only G b c) (hs : ∀ k, G k → F k ∨ a.heap.size ≤ k) : Only F a c :=
  ⟨k.os.trans h.os, k.tape.trans h.tape, k.output.trans h.output, Nat.le_trans h.size k.size, fun j hj hf => (k.block j (Nat.lt_of_lt_of_le hj h.size) (fun hg => by rcases hs j hg with h1 | h1; exact hf h1; omega)).trans (h.block j hj hf)⟩
theorem size_set (w : World) (a : Addr) (v : Value) : (w.setCell a v).heap.size = w.heap.size := by simp [World.setCell]
theorem Only.set {F : Nat → Prop} {w w' : World} {g j : Nat} (h : Only F w w') (hg : F g) (v : Value) : Only F w (w'.setCell ⟨g, j, none⟩ v) :=
  h.trans (G := F) ⟨rfl, rfl, rfl, by rw [size_set]; exact Nat.le_refl _, fun k _ hf => Below.heap_setCell _ _ _ _ (fun e => hf (by have e2 : k = g := e; rw [e2]; exact hg))⟩ (fun _ h => .inl h)
theorem Only.grown {F : Nat → Prop} {w w' : World} {o : Option Nat} (h : w.grownBy w' o) (ho : ∀ k, o = some k → F k) : Only F w w' := ⟨h.os, h.tape, h.output, h.size, fun k hk hf => h.block k hk (fun e => hf (ho k e.symm))⟩
theorem Only.below {F : Nat → Prop} {w w' : World} {N : Nat} (h : Only F w w') (hN : ∀ k, F k → N ≤ k) (hs : N ≤ w.heap.size) : Below N w w' := ⟨h.os, h.tape, h.output, h.size, fun k hk => h.block k (Nat.lt_of_lt_of_le hk hs) (fun hf => by have := hN k hf; omega)⟩
def rdCells (s : PS) (p f : Value) : Array Value := #[.bool s.resp, .int .i64 s.most, .int .i64 (s.taken : Int), errOf s.err, .int .i64 (s.st : Int), p, .string (str s.fn), .string (str s.fv), .string (str s.method), .string (str s.target), .string (str s.reason), .int .i64 s.minor, .int .i64 s.status, f]
/-- The blocks of a reader lie within F. -/
structure Foot (F : Nat → Prop) (g : Nat) (p f : Value) : Prop where
  g : F g
  p : ∀ k, p.ownBlock = some k → F k
  f : ∀ k, f.ownBlock = some k → F k
theorem own_only {w w' : World} {b : Nat} {F : Nat → Prop} {v : Value} {acc : B} (h : Own w b v acc) (ho : Only F w w') (hf : ∀ k, v.ownBlock = some k → ¬ F k) : Own w' b v acc := by
  refine ⟨h.1, ?_⟩
  rcases h.2 with h1 | ⟨g, cap, cur, h1, h2, h3, h4⟩
  · exact .inl h1
  · exact .inr ⟨g, cap, cur, h1, h2, (ho.block g (lt_of_heap h3) (hf g (by rw [h1]; rfl))).trans h3, h4⟩
theorem ownF_only {w w' : World} {b : Nat} {F : Nat → Prop} {v : Value} {acc : List (B × B)} (h : OwnF w b v acc) (ho : Only F w w') (hf : ∀ k, v.ownBlock = some k → ¬ F k) : OwnF w' b v acc := by
  refine ⟨h.1, ?_⟩
  rcases h.2 with h1 | ⟨g, cap, cur, h1, h2, h3, h4⟩
  · exact .inl h1
  · exact .inr ⟨g, cap, cur, h1, h2, (ho.block g (lt_of_heap h3) (hf g (by rw [h1]; rfl))).trans h3, h4⟩
theorem own_type {w : World} {N k : Nat} {v : Value} {acc : B} {cs : Array Value} {T : TypeId} {fr : Nat × Nat} (h : Own w N v acc) (e : v.ownBlock = some k) (hk : w.heap[k]? = some (.cells cs T fr)) : T = 5 := by
  rcases h.2 with ⟨h4, _⟩ | ⟨g, cap, cur, h4, h5, h6, _⟩
  · rw [h4] at e; simp [Value.ownBlock] at e
  · rw [h4] at e
    simp [Value.ownBlock] at e
    subst e
    rw [h6] at hk
    simp at hk
    exact hk.2.1.symm
theorem ownF_type {w : World} {N k : Nat} {v : Value} {acc : List (B × B)} {cs : Array Value} {T : TypeId} {fr : Nat × Nat} (h : OwnF w N v acc) (e : v.ownBlock = some k) (hk : w.heap[k]? = some (.cells cs T fr)) : T = 88 := by
  rcases h.2 with ⟨h4, _⟩ | ⟨g, cap, cur, h4, h5, h6, _⟩
  · rw [h4] at e; simp [Value.ownBlock] at e
  · rw [h4] at e
    simp [Value.ownBlock] at e
    subst e
    rw [h6] at hk
    simp at hk
    exact hk.2.1.symm
theorem t_ne3 : (5 : Nat) ≠ 88 := by decide
structure Cells14 (w : World) (g : Nat) (c0 c1 c2 c3 c4 c5 c6 c7 c8 c9 c10 c11 c12 c13 : Value) : Prop where
  a0 : w.cell? ⟨g, 0, none⟩ = some c0
  a1 : w.cell? ⟨g, 1, none⟩ = some c1
  a2 : w.cell? ⟨g, 2, none⟩ = some c2
  a3 : w.cell? ⟨g, 3, none⟩ = some c3
  a4 : w.cell? ⟨g, 4, none⟩ = some c4
  a5 : w.cell? ⟨g, 5, none⟩ = some c5
  a6 : w.cell? ⟨g, 6, none⟩ = some c6
  a7 : w.cell? ⟨g, 7, none⟩ = some c7
  a8 : w.cell? ⟨g, 8, none⟩ = some c8
  a9 : w.cell? ⟨g, 9, none⟩ = some c9
  a10 : w.cell? ⟨g, 10, none⟩ = some c10
  a11 : w.cell? ⟨g, 11, none⟩ = some c11
  a12 : w.cell? ⟨g, 12, none⟩ = some c12
  a13 : w.cell? ⟨g, 13, none⟩ = some c13
  z : ∀ j, w.frozen? ⟨g, j, none⟩ = false
theorem cells14 {w : World} {g : Nat} {c0 c1 c2 c3 c4 c5 c6 c7 c8 c9 c10 c11 c12 c13 : Value} {T : TypeId} (h : w.heap[g]? = some (.cells #[c0, c1, c2, c3, c4, c5, c6, c7, c8, c9, c10, c11, c12, c13] T (0, 0))) : Cells14 w g c0 c1 c2 c3 c4 c5 c6 c7 c8 c9 c10 c11 c12 c13 := by
  refine ⟨?_, ?_, ?_, ?_, ?_, ?_, ?_, ?_, ?_, ?_, ?_, ?_, ?_, ?_, fun j => by simp [World.frozen?, h]⟩ <;> simp [World.cell?, h]
theorem put14 {w : World} {g : Nat} {T : TypeId} {fr : Nat × Nat} {x0 x1 x2 x3 x4 x5 x6 x7 x8 x9 x10 x11 x12 x13 : Value} (h : w.heap[g]? = some (.cells #[x0, x1, x2, x3, x4, x5, x6, x7, x8, x9, x10, x11, x12, x13] T fr)) (c0 c1 c2 c3 c4 c5 c6 c7 c8 c9 c10 c11 c12 c13 : Value) :
    ((((((((((((((w.setCell ⟨g, 0, none⟩ c0).setCell ⟨g, 1, none⟩ c1).setCell ⟨g, 2, none⟩ c2).setCell ⟨g, 3, none⟩ c3).setCell ⟨g, 4, none⟩ c4).setCell ⟨g, 5, none⟩ c5).setCell ⟨g, 6, none⟩ c6).setCell ⟨g, 7, none⟩ c7).setCell ⟨g, 8, none⟩ c8).setCell ⟨g, 9, none⟩ c9).setCell ⟨g, 10, none⟩ c10).setCell ⟨g, 11, none⟩ c11).setCell ⟨g, 12, none⟩ c12).setCell ⟨g, 13, none⟩ c13).heap[g]? = some (.cells #[c0, c1, c2, c3, c4, c5, c6, c7, c8, c9, c10, c11, c12, c13] T fr) := by
  simp [World.setCell, Array.getElem?_modify, h]
theorem set14_0 {w : World} {g : Nat} {T : TypeId} {c0 c1 c2 c3 c4 c5 c6 c7 c8 c9 c10 c11 c12 c13 : Value} (h : w.heap[g]? = some (.cells #[c0, c1, c2, c3, c4, c5, c6, c7, c8, c9, c10, c11, c12, c13] T (0, 0))) (v : Value) : (w.setCell ⟨g, 0, none⟩ v).heap[g]? = some (.cells #[v, c1, c2, c3, c4, c5, c6, c7, c8, c9, c10, c11, c12, c13] T (0, 0)) := by
  simp [World.setCell, Array.getElem?_modify, h]
theorem set14_1 {w : World} {g : Nat} {T : TypeId} {c0 c1 c2 c3 c4 c5 c6 c7 c8 c9 c10 c11 c12 c13 : Value} (h : w.heap[g]? = some (.cells #[c0, c1, c2, c3, c4, c5, c6, c7, c8, c9, c10, c11, c12, c13] T (0, 0))) (v : Value) : (w.setCell ⟨g, 1, none⟩ v).heap[g]? = some (.cells #[c0, v, c2, c3, c4, c5, c6, c7, c8, c9, c10, c11, c12, c13] T (0, 0)) := by
  simp [World.setCell, Array.getElem?_modify, h]
theorem set14_2 {w : World} {g : Nat} {T : TypeId} {c0 c1 c2 c3 c4 c5 c6 c7 c8 c9 c10 c11 c12 c13 : Value} (h : w.heap[g]? = some (.cells #[c0, c1, c2, c3, c4, c5, c6, c7, c8, c9, c10, c11, c12, c13] T (0, 0))) (v : Value) : (w.setCell ⟨g, 2, none⟩ v).heap[g]? = some (.cells #[c0, c1, v, c3, c4, c5, c6, c7, c8, c9, c10, c11, c12, c13] T (0, 0)) := by
  simp [World.setCell, Array.getElem?_modify, h]
theorem set14_3 {w : World} {g : Nat} {T : TypeId} {c0 c1 c2 c3 c4 c5 c6 c7 c8 c9 c10 c11 c12 c13 : Value} (h : w.heap[g]? = some (.cells #[c0, c1, c2, c3, c4, c5, c6, c7, c8, c9, c10, c11, c12, c13] T (0, 0))) (v : Value) : (w.setCell ⟨g, 3, none⟩ v).heap[g]? = some (.cells #[c0, c1, c2, v, c4, c5, c6, c7, c8, c9, c10, c11, c12, c13] T (0, 0)) := by
  simp [World.setCell, Array.getElem?_modify, h]
theorem set14_4 {w : World} {g : Nat} {T : TypeId} {c0 c1 c2 c3 c4 c5 c6 c7 c8 c9 c10 c11 c12 c13 : Value} (h : w.heap[g]? = some (.cells #[c0, c1, c2, c3, c4, c5, c6, c7, c8, c9, c10, c11, c12, c13] T (0, 0))) (v : Value) : (w.setCell ⟨g, 4, none⟩ v).heap[g]? = some (.cells #[c0, c1, c2, c3, v, c5, c6, c7, c8, c9, c10, c11, c12, c13] T (0, 0)) := by
  simp [World.setCell, Array.getElem?_modify, h]
theorem set14_5 {w : World} {g : Nat} {T : TypeId} {c0 c1 c2 c3 c4 c5 c6 c7 c8 c9 c10 c11 c12 c13 : Value} (h : w.heap[g]? = some (.cells #[c0, c1, c2, c3, c4, c5, c6, c7, c8, c9, c10, c11, c12, c13] T (0, 0))) (v : Value) : (w.setCell ⟨g, 5, none⟩ v).heap[g]? = some (.cells #[c0, c1, c2, c3, c4, v, c6, c7, c8, c9, c10, c11, c12, c13] T (0, 0)) := by
  simp [World.setCell, Array.getElem?_modify, h]
theorem set14_6 {w : World} {g : Nat} {T : TypeId} {c0 c1 c2 c3 c4 c5 c6 c7 c8 c9 c10 c11 c12 c13 : Value} (h : w.heap[g]? = some (.cells #[c0, c1, c2, c3, c4, c5, c6, c7, c8, c9, c10, c11, c12, c13] T (0, 0))) (v : Value) : (w.setCell ⟨g, 6, none⟩ v).heap[g]? = some (.cells #[c0, c1, c2, c3, c4, c5, v, c7, c8, c9, c10, c11, c12, c13] T (0, 0)) := by
  simp [World.setCell, Array.getElem?_modify, h]
theorem set14_7 {w : World} {g : Nat} {T : TypeId} {c0 c1 c2 c3 c4 c5 c6 c7 c8 c9 c10 c11 c12 c13 : Value} (h : w.heap[g]? = some (.cells #[c0, c1, c2, c3, c4, c5, c6, c7, c8, c9, c10, c11, c12, c13] T (0, 0))) (v : Value) : (w.setCell ⟨g, 7, none⟩ v).heap[g]? = some (.cells #[c0, c1, c2, c3, c4, c5, c6, v, c8, c9, c10, c11, c12, c13] T (0, 0)) := by
  simp [World.setCell, Array.getElem?_modify, h]
theorem set14_8 {w : World} {g : Nat} {T : TypeId} {c0 c1 c2 c3 c4 c5 c6 c7 c8 c9 c10 c11 c12 c13 : Value} (h : w.heap[g]? = some (.cells #[c0, c1, c2, c3, c4, c5, c6, c7, c8, c9, c10, c11, c12, c13] T (0, 0))) (v : Value) : (w.setCell ⟨g, 8, none⟩ v).heap[g]? = some (.cells #[c0, c1, c2, c3, c4, c5, c6, c7, v, c9, c10, c11, c12, c13] T (0, 0)) := by
  simp [World.setCell, Array.getElem?_modify, h]
theorem set14_9 {w : World} {g : Nat} {T : TypeId} {c0 c1 c2 c3 c4 c5 c6 c7 c8 c9 c10 c11 c12 c13 : Value} (h : w.heap[g]? = some (.cells #[c0, c1, c2, c3, c4, c5, c6, c7, c8, c9, c10, c11, c12, c13] T (0, 0))) (v : Value) : (w.setCell ⟨g, 9, none⟩ v).heap[g]? = some (.cells #[c0, c1, c2, c3, c4, c5, c6, c7, c8, v, c10, c11, c12, c13] T (0, 0)) := by
  simp [World.setCell, Array.getElem?_modify, h]
theorem set14_10 {w : World} {g : Nat} {T : TypeId} {c0 c1 c2 c3 c4 c5 c6 c7 c8 c9 c10 c11 c12 c13 : Value} (h : w.heap[g]? = some (.cells #[c0, c1, c2, c3, c4, c5, c6, c7, c8, c9, c10, c11, c12, c13] T (0, 0))) (v : Value) : (w.setCell ⟨g, 10, none⟩ v).heap[g]? = some (.cells #[c0, c1, c2, c3, c4, c5, c6, c7, c8, c9, v, c11, c12, c13] T (0, 0)) := by
  simp [World.setCell, Array.getElem?_modify, h]
theorem set14_11 {w : World} {g : Nat} {T : TypeId} {c0 c1 c2 c3 c4 c5 c6 c7 c8 c9 c10 c11 c12 c13 : Value} (h : w.heap[g]? = some (.cells #[c0, c1, c2, c3, c4, c5, c6, c7, c8, c9, c10, c11, c12, c13] T (0, 0))) (v : Value) : (w.setCell ⟨g, 11, none⟩ v).heap[g]? = some (.cells #[c0, c1, c2, c3, c4, c5, c6, c7, c8, c9, c10, v, c12, c13] T (0, 0)) := by
  simp [World.setCell, Array.getElem?_modify, h]
theorem set14_12 {w : World} {g : Nat} {T : TypeId} {c0 c1 c2 c3 c4 c5 c6 c7 c8 c9 c10 c11 c12 c13 : Value} (h : w.heap[g]? = some (.cells #[c0, c1, c2, c3, c4, c5, c6, c7, c8, c9, c10, c11, c12, c13] T (0, 0))) (v : Value) : (w.setCell ⟨g, 12, none⟩ v).heap[g]? = some (.cells #[c0, c1, c2, c3, c4, c5, c6, c7, c8, c9, c10, c11, v, c13] T (0, 0)) := by
  simp [World.setCell, Array.getElem?_modify, h]
theorem set14_13 {w : World} {g : Nat} {T : TypeId} {c0 c1 c2 c3 c4 c5 c6 c7 c8 c9 c10 c11 c12 c13 : Value} (h : w.heap[g]? = some (.cells #[c0, c1, c2, c3, c4, c5, c6, c7, c8, c9, c10, c11, c12, c13] T (0, 0))) (v : Value) : (w.setCell ⟨g, 13, none⟩ v).heap[g]? = some (.cells #[c0, c1, c2, c3, c4, c5, c6, c7, c8, c9, c10, c11, c12, v] T (0, 0)) := by
  simp [World.setCell, Array.getElem?_modify, h]
theorem only14 {F : Nat → Prop} {w : World} {g : Nat} (hg : F g) (c0 c1 c2 c3 c4 c5 c6 c7 c8 c9 c10 c11 c12 c13 : Value) : Only F w ((((((((((((((w.setCell ⟨g, 0, none⟩ c0).setCell ⟨g, 1, none⟩ c1).setCell ⟨g, 2, none⟩ c2).setCell ⟨g, 3, none⟩ c3).setCell ⟨g, 4, none⟩ c4).setCell ⟨g, 5, none⟩ c5).setCell ⟨g, 6, none⟩ c6).setCell ⟨g, 7, none⟩ c7).setCell ⟨g, 8, none⟩ c8).setCell ⟨g, 9, none⟩ c9).setCell ⟨g, 10, none⟩ c10).setCell ⟨g, 11, none⟩ c11).setCell ⟨g, 12, none⟩ c12).setCell ⟨g, 13, none⟩ c13) := by
  iterate 14 refine Only.set ?_ hg _
  exact Only.refl _ _
end Go.Proofs.YtnlmjlfoeodleaaGreatDoor
