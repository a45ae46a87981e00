/- A target in memory; the document's path and query behind a host. -/
import Derived.Test.YtbdbmlklijmefabDoorRSegs
namespace Go.Proofs.YtbdbmlklijmefabDoor
open Go.RowKit

structure Five (w : World) (g : Nat) (c0 c1 c2 c3 c4 : Value) : Prop where
  a0 : w.cell? ⟨g, 0, none⟩ = some c0
  a1 : w.cell? ⟨g, 1, none⟩ = some c1
  a2 : w.cell? ⟨g, 2, none⟩ = some c2
  a3 : w.cell? ⟨g, 3, none⟩ = some c3
  a4 : w.cell? ⟨g, 4, none⟩ = some c4
  fz : ∀ j, w.frozen? ⟨g, j, none⟩ = false
theorem five {w : World} {g : Nat} {c0 c1 c2 c3 c4 : Value} {T : TypeId} (h : w.heap[g]? = some (.cells #[c0, c1, c2, c3, c4] T (0, 0))) : Five w g c0 c1 c2 c3 c4 := by
  refine ⟨?_, ?_, ?_, ?_, ?_, fun j => by simp [World.frozen?, h]⟩ <;> simp [World.cell?, h]
theorem has_five {w : World} {g : Nat} {T : TypeId} {fr : Nat × Nat} {x0 x1 x2 x3 x4 : Value} (h : w.heap[g]? = some (.cells #[x0, x1, x2, x3, x4] T fr)) : ∃ cs : Array Value, cs.size = 5 ∧ w.heap[g]? = some (.cells cs T fr) := ⟨_, rfl, h⟩
theorem five_put {w : World} {g : Nat} {T : TypeId} {fr : Nat × Nat} (h : ∃ cs : Array Value, cs.size = 5 ∧ w.heap[g]? = some (.cells cs T fr)) (c0 c1 c2 c3 c4 : Value) :
    (((((w.setCell ⟨g, 0, none⟩ c0).setCell ⟨g, 1, none⟩ c1).setCell ⟨g, 2, none⟩ c2).setCell ⟨g, 3, none⟩ c3).setCell ⟨g, 4, none⟩ c4).heap[g]? = some (.cells #[c0, c1, c2, c3, c4] T fr) := by
  obtain ⟨⟨l⟩, hs, h⟩ := h
  rcases l with _ | ⟨x0, _ | ⟨x1, _ | ⟨x2, _ | ⟨x3, _ | ⟨x4, _ | ⟨x5, r⟩⟩⟩⟩⟩⟩ <;> simp at hs
  · simp [World.setCell, Array.getElem?_modify, h]
theorem new_second (w : World) (o1 o2 : Obj) : ((w.alloc o1).alloc o2).heap[w.heap.size + 1]? = some o2 := by
  have := heap_alloc_new (w.alloc o1) o2
  rwa [show (w.alloc o1).heap.size = w.heap.size + 1 by simp] at this
theorem two_at {w W0 : World} {o1 o2 : Obj} (h : W0 = (w.alloc o1).alloc o2) : W0.heap[w.heap.size]? = some o1 ∧ W0.heap[w.heap.size + 1]? = some o2 ∧ Below w.heap.size w W0 := by
  subst h
  refine ⟨?_, new_second w o1 o2, ?_⟩
  · rw [Below.heap_alloc _ _ _ (by simp)]
    exact heap_alloc_new w o1
  · exact (below_new w o1).trans ((below_new _ o2).mono (by simp))
/-- A target as a value. -/
def tgV (t : TG) : Value := .agg #[.int .i64 t.form, .string (str t.host), .string (str t.path), .string (str t.query), .bool t.has]
theorem cutF_len (x : UInt8) : ∀ s : B, (cutF x s).1.length ≤ s.length ∧ (cutF x s).2.1.length ≤ s.length
  | [] => ⟨Nat.le_refl _, Nat.le_refl _⟩
  | c :: l => by
    have := cutF_len x l
    unfold cutF
    split
    · simp
    · simp
      omega
end Go.Proofs.YtbdbmlklijmefabDoor
