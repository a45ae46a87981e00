/- The document's head: one byte more. -/
import Derived.Test.YtnlmjlfoeodleaaDoorHGoes
namespace Go.Proofs.YtnlmjlfoeodleaaDoor
open Go.RowKit

structure HS where
  resp : Bool
  most : Int
  lines : List B
  line : B
  len : Nat
  done : Bool
  err : Nat
def byteH (h : HS) (c : UInt8) : HS :=
  if h.most < (h.len : Int) + 1 then { h with len := h.len + 1, err := 22 }
  else if h.line.getLast? = some 13 then
    if c = 10 then
      if h.line.dropLast = [] ∧ h.lines ≠ [] then { h with len := h.len + 1, line := [], done := true }
      else { h with len := h.len + 1, line := [], lines := h.lines ++ [h.line.dropLast], err := if 65 < h.lines.length + 1 then 22 else h.err }
    else { h with len := h.len + 1, err := kindN h.lines.length }
  else if c = 10 then { h with len := h.len + 1, err := kindN h.lines.length }
  else if c = 13 then
    if goesB h.resp h.lines.length h.line true = true ∨ h.line = [] ∧ h.lines ≠ [] then { h with len := h.len + 1, line := h.line ++ [13] }
    else { h with len := h.len + 1, err := kindN h.lines.length }
  else if goesB h.resp h.lines.length (h.line ++ [c]) false = true then { h with len := h.len + 1, line := h.line ++ [c] }
  else { h with len := h.len + 1, err := kindN h.lines.length }
/-- A head as a value, its row of lines given. -/
def headV (h : HS) (v : Value) : Value := .agg #[.bool h.resp, .int .i64 h.most, v, .string (str h.line), .int .i64 (h.len : Int), .bool h.done, .int .i64 (h.err : Int)]
theorem has_seven {w : World} {g : Nat} {T : TypeId} {fr : Nat × Nat} {x0 x1 x2 x3 x4 x5 x6 : Value} (h : w.heap[g]? = some (.cells #[x0, x1, x2, x3, x4, x5, x6] T fr)) : ∃ cs : Array Value, cs.size = 7 ∧ w.heap[g]? = some (.cells cs T fr) := ⟨_, rfl, h⟩
theorem new_second (w : World) (o1 o2 : Obj) : ((w.alloc o1).alloc o2).heap[w.heap.size + 1]? = some o2 := by
  have := heap_alloc_new (w.alloc o1) o2
  rwa [show (w.alloc o1).heap.size = w.heap.size + 1 by simp] at this
theorem two_at {w W0 : World} {o1 o2 : Obj} (h : W0 = (w.alloc o1).alloc o2) : W0.heap[w.heap.size]? = some o1 ∧ W0.heap[w.heap.size + 1]? = some o2 ∧ Below w.heap.size w W0 := by
  subst h
  refine ⟨?_, new_second w o1 o2, ?_⟩
  · rw [Below.heap_alloc _ _ _ (by simp)]
    exact heap_alloc_new w o1
  · exact (below_new w o1).trans ((below_new _ o2).mono (by simp))
theorem seven_put {w : World} {g : Nat} {T : TypeId} {fr : Nat × Nat} (h : ∃ cs : Array Value, cs.size = 7 ∧ w.heap[g]? = some (.cells cs T fr)) (c0 c1 c2 c3 c4 c5 c6 : Value) :
    (((((((w.setCell ⟨g, 0, none⟩ c0).setCell ⟨g, 1, none⟩ c1).setCell ⟨g, 2, none⟩ c2).setCell ⟨g, 3, none⟩ c3).setCell ⟨g, 4, none⟩ c4).setCell ⟨g, 5, none⟩ c5).setCell ⟨g, 6, none⟩ c6).heap[g]? = some (.cells #[c0, c1, c2, c3, c4, c5, c6] T fr) := by
  obtain ⟨⟨l⟩, hs, h⟩ := h
  rcases l with _ | ⟨x0, _ | ⟨x1, _ | ⟨x2, _ | ⟨x3, _ | ⟨x4, _ | ⟨x5, _ | ⟨x6, _ | ⟨x7, r⟩⟩⟩⟩⟩⟩⟩⟩ <;> simp at hs
  · simp [World.setCell, Array.getElem?_modify, h]
def ByteAns (h : HS) (c : UInt8) (base : Nat) (w : World) (e : Ending) (w' : World) : Prop := ∃ v', e = .returned (headV (byteH h c) v') ∧ OwnS w' base v' (byteH h c).lines ∧ Below w.heap.size w w'
theorem ans_of {h h' : HS} {c : UInt8} {base : Nat} {w w' : World} {v' : Value} {e : Ending} (hv : byteH h c = h') (he : e = .returned (headV h' v')) (ho : OwnS w' base v' h'.lines) (hb : Below w.heap.size w w') : ByteAns h c base w e w' := ⟨v', by rw [hv, he], by rw [hv]; exact ho, hb⟩
theorem conv_one (W : World) (c : UInt8) : (convert 57 9 (.slice (some ⟨W.heap.size, 0, none⟩) 1 1)).run Tryd.prog (W.alloc (.cells #[.int .u8 (c.toNat : Int)] 5 (0, 0))) = .ok (.string (str [c])) (W.alloc (.cells #[.int .u8 (c.toNat : Int)] 5 (0, 0))) := by
  rw [← str_cells]
  refine run_convert_bytes_arg _ 57 5 (by kernel_rfl) (by kernel_rfl) W.heap.size 0 1 1 _ (by simp) ?_ 9 (by kernel_rfl)
  intro i hi
  obtain rfl : i = 0 := by omega
  have := heap_alloc_new W (.cells #[.int .u8 (c.toNat : Int)] 5 (0, 0))
  simp only [World.cell?, this]
  rfl
theorem last_split {l : B} (h : l ≠ []) : ∃ k y, l.length = k + 1 ∧ l[k]? = some y ∧ l.getLast? = some y := by
  refine ⟨l.length - 1, l.getLast h, by have := List.length_pos_iff.2 h; omega, ?_, List.getLast?_eq_some_getLast h⟩
  rw [List.getLast_eq_getElem h, List.getElem?_eq_getElem]
theorem below_two (w : World) (o1 o2 : Obj) : Below w.heap.size w ((w.alloc o1).alloc o2) := (two_at rfl).2.2
end Go.Proofs.YtnlmjlfoeodleaaDoor
