/- The document's lines of a head: where a byte stands, texts of a kind, versions. -/
import Derived.Test.YtnlmjlfoeodleaaGreatDoorCTrim
namespace Go.Proofs.YtnlmjlfoeodleaaGreatDoor
open Go.RowKit

/-- Where a byte stands first, or -1. -/
def findV (x : UInt8) (s : B) : Int := if (cutF x s).2.2 then ((cutF x s).1.length : Int) else -1
theorem find_at {x : UInt8} {s : B} {i : Nat} (h : ∀ y ∈ s.take i, y ≠ x) (hx : s[i]? = some x) : findV x s = (i : Int) := by
  have hlt : i < s.length := (List.getElem?_eq_some_iff.1 hx).1
  have e0 : s[i] = x := by rw [List.getElem?_eq_getElem hlt] at hx; exact Option.some.inj hx
  have e1 : s = s.take i ++ x :: s.drop (i + 1) := by
    conv => lhs; rw [← List.take_append_drop i s]
    rw [List.drop_eq_getElem_cons hlt, e0]
  unfold findV
  rw [e1, cutF_at _ _ h]
  simp
  omega
theorem find_none {x : UInt8} {s : B} (h : ∀ y ∈ s, y ≠ x) : findV x s = -1 := by
  unfold findV
  rw [cutF_no s h]
  rfl
/-- A token's byte, a visible one, a value's. -/
def clsB (k : Nat) (c : UInt8) : Bool := if k = 1 then visB (c.toNat : Int) else if k = 2 then valB (c.toNat : Int) else tokB (c.toNat : Int)
def allB (k : Nat) (s : B) : Bool := s.all (clsB k)
end Go.Proofs.YtnlmjlfoeodleaaGreatDoor
/- The document's lines of a head: versions, and the three kinds of lines, begun or whole. -/
namespace Go.Proofs.YtnlmjlfoeodleaaGreatDoor
open Go.RowKit

def ver0 : B := [72, 84, 84, 80, 47, 49, 46, 48]
def ver1 : B := [72, 84, 84, 80, 47, 49, 46, 49]
def beginsB (s : B) (whole : Bool) : Bool := if s.length > 8 ∨ (whole = true ∧ s.length ≠ 8) then false else (ver0.take s.length == s || ver1.take s.length == s)
theorem ver_ext0 (n : Nat) : ((ByteArray.mk #[72, 84, 84, 80, 47, 49, 46, 48]).extract 0 n).toList = ver0.take n := by
  rw [ByteArray.toList_eq]
  show ((str ver0).extract 0 n).data.toList = _
  rw [take_ext]
theorem ver_ext1 (n : Nat) : ((ByteArray.mk #[72, 84, 84, 80, 47, 49, 46, 49]).extract 0 n).toList = ver1.take n := by
  rw [ByteArray.toList_eq]
  show ((str ver1).extract 0 n).data.toList = _
  rw [take_ext]
theorem str_tl (s : B) : (str s).toList = s := by rw [ByteArray.toList_eq]
theorem cutF_found {x : UInt8} {s : B} (h : (cutF x s).2.2 = true) : ∃ i : Nat, findV x s = (i : Int) ∧ i < s.length ∧ (cutF x s).1 = s.take i ∧ (cutF x s).2.1 = s.drop (i + 1) := by
  refine ⟨(cutF x s).1.length, by unfold findV; rw [if_pos h], ?_⟩
  obtain ⟨_, h2, _⟩ := cutF_spec x s
  rw [if_pos h] at h2
  have h3 := congrArg List.length h2
  simp only [List.length_append, List.length_cons] at h3
  obtain ⟨a, ha⟩ : ∃ a, (cutF x s).1 = a := ⟨_, rfl⟩
  obtain ⟨b, hb⟩ : ∃ b, (cutF x s).2.1 = b := ⟨_, rfl⟩
  rw [ha, hb] at h2 h3
  rw [ha, hb]
  refine ⟨by omega, ?_, ?_⟩
  · rw [h2]; simp
  · rw [h2, show a.length + 1 = a.length + 1 from rfl, List.drop_append]; simp
theorem cutF_not {x : UInt8} {s : B} (h : (cutF x s).2.2 = false) : findV x s = -1 := by
  unfold findV
  rw [if_neg (by rw [h]; simp)]
def fieldB (s : B) (whole : Bool) : Bool := if (cutF 58 s).2.2 then decide (0 < (cutF 58 s).1.length) && allB 0 (cutF 58 s).1 && allB 2 (cutF 58 s).2.1 else !whole && allB 0 s
def restB (t : B) (whole : Bool) : Bool := if (cutF 32 t).2.2 then decide (0 < (cutF 32 t).1.length) && allB 1 (cutF 32 t).1 && beginsB (cutF 32 t).2.1 whole else !whole && allB 1 t
def requestB (s : B) (whole : Bool) : Bool := if (cutF 32 s).2.2 then decide (0 < (cutF 32 s).1.length) && allB 0 (cutF 32 s).1 && restB (cutF 32 s).2.1 whole else !whole && allB 0 s
end Go.Proofs.YtnlmjlfoeodleaaGreatDoor
/- The document's status line, begun or whole. -/
namespace Go.Proofs.YtnlmjlfoeodleaaGreatDoor
open Go.RowKit

def okD (i : Nat) (c : UInt8) : Bool := digB (c.toNat : Int) && !(decide (i = 9) && (decide (c.toNat = 48) || decide (53 < c.toNat)))
def okB (s : B) : Bool := [9, 10, 11].all fun i => (s[i]?.map (okD i)).getD true
theorem okB_no {s : B} {i : Nat} {c : UInt8} (h1 : 9 ≤ i) (h2 : i < 12) (hc : s[i]? = some c) (h : okD i c = false) : okB s = false := by
  unfold okB
  rw [List.all_eq_false]
  refine ⟨i, by simp; omega, ?_⟩
  rw [hc]
  simp [h]
theorem okB_yes {s : B} (h : ∀ i, 9 ≤ i → i < 12 → ∀ c, s[i]? = some c → okD i c = true) : okB s = true := by
  unfold okB
  rw [List.all_eq_true]
  intro i hi
  have hi2 : 9 ≤ i ∧ i < 12 := by simp at hi; omega
  cases e : s[i]? with
  | none => rfl
  | some c => exact h i hi2.1 hi2.2 c e
def statusB (s : B) (whole : Bool) : Bool := if s.length ≤ 8 then !whole && beginsB s false else if beginsB (s.take 8) true = false ∨ s[8]? ≠ some 32 then false else if okB s = false then false else if s.length < 13 then !whole else decide (s[12]? = some 32) && allB 2 (s.drop 13)
end Go.Proofs.YtnlmjlfoeodleaaGreatDoor
/- The document's head: a line that goes on, its error's number. -/
namespace Go.Proofs.YtnlmjlfoeodleaaGreatDoor
open Go.RowKit

def goesB (resp : Bool) (ln : Nat) (s : B) (wh : Bool) : Bool := if 0 < ln then fieldB s wh else if resp then statusB s wh else requestB s wh
def kindN (ln : Nat) : Nat := if 0 < ln then 21 else 20
structure Seven (w : World) (g : Nat) (c0 c1 c2 c3 c4 c5 c6 : Value) : Prop where
  a0 : w.cell? ⟨g, 0, none⟩ = some c0
  a1 : w.cell? ⟨g, 1, none⟩ = some c1
  a2 : w.cell? ⟨g, 2, none⟩ = some c2
  a3 : w.cell? ⟨g, 3, none⟩ = some c3
  a4 : w.cell? ⟨g, 4, none⟩ = some c4
  a5 : w.cell? ⟨g, 5, none⟩ = some c5
  a6 : w.cell? ⟨g, 6, none⟩ = some c6
  z : ∀ j, w.frozen? ⟨g, j, none⟩ = false
theorem seven {w : World} {g : Nat} {c0 c1 c2 c3 c4 c5 c6 : Value} {T : TypeId} (h : w.heap[g]? = some (.cells #[c0, c1, c2, c3, c4, c5, c6] T (0, 0))) : Seven w g c0 c1 c2 c3 c4 c5 c6 := by
  refine ⟨?_, ?_, ?_, ?_, ?_, ?_, ?_, fun j => by simp [World.frozen?, h]⟩ <;> simp [World.cell?, h]
end Go.Proofs.YtnlmjlfoeodleaaGreatDoor
/- The document's head: one byte more. -/
namespace Go.Proofs.YtnlmjlfoeodleaaGreatDoor
open Go.RowKit

structure HS where
  resp : Bool
  most : Int
  lines : List B
  line : B
  len : Nat
  done : Bool
  err : Nat
def byteH (h : HS) (c : UInt8) : HS :=
  if h.most < (h.len : Int) + 1 then { h with len := h.len + 1, err := 22 }
  else if h.line.getLast? = some 13 then
    if c = 10 then
      if h.line.dropLast = [] ∧ h.lines ≠ [] then { h with len := h.len + 1, line := [], done := true }
      else { h with len := h.len + 1, line := [], lines := h.lines ++ [h.line.dropLast], err := if 65 < h.lines.length + 1 then 22 else h.err }
    else { h with len := h.len + 1, err := kindN h.lines.length }
  else if c = 10 then { h with len := h.len + 1, err := kindN h.lines.length }
  else if c = 13 then
    if goesB h.resp h.lines.length h.line true = true ∨ h.line = [] ∧ h.lines ≠ [] then { h with len := h.len + 1, line := h.line ++ [13] }
    else { h with len := h.len + 1, err := kindN h.lines.length }
  else if goesB h.resp h.lines.length (h.line ++ [c]) false = true then { h with len := h.len + 1, line := h.line ++ [c] }
  else { h with len := h.len + 1, err := kindN h.lines.length }
/-- A head as a value, its row of lines given. -/
def headV (h : HS) (v : Value) : Value := .agg #[.bool h.resp, .int .i64 h.most, v, .string (str h.line), .int .i64 (h.len : Int), .bool h.done, .int .i64 (h.err : Int)]
theorem has_seven {w : World} {g : Nat} {T : TypeId} {fr : Nat × Nat} {x0 x1 x2 x3 x4 x5 x6 : Value} (h : w.heap[g]? = some (.cells #[x0, x1, x2, x3, x4, x5, x6] T fr)) : ∃ cs : Array Value, cs.size = 7 ∧ w.heap[g]? = some (.cells cs T fr) := ⟨_, rfl, h⟩
theorem new_second (w : World) (o1 o2 : Obj) : ((w.alloc o1).alloc o2).heap[w.heap.size + 1]? = some o2 := by
  have := heap_alloc_new (w.alloc o1) o2
  rwa [show (w.alloc o1).heap.size = w.heap.size + 1 by simp] at this
theorem two_at {w W0 : World} {o1 o2 : Obj} (h : W0 = (w.alloc o1).alloc o2) : W0.heap[w.heap.size]? = some o1 ∧ W0.heap[w.heap.size + 1]? = some o2 ∧ Below w.heap.size w W0 := by
  subst h
  refine ⟨?_, new_second w o1 o2, ?_⟩
  · rw [Below.heap_alloc _ _ _ (by simp)]
    exact heap_alloc_new w o1
  · exact (below_new w o1).trans ((below_new _ o2).mono (by simp))
theorem seven_put {w : World} {g : Nat} {T : TypeId} {fr : Nat × Nat} (h : ∃ cs : Array Value, cs.size = 7 ∧ w.heap[g]? = some (.cells cs T fr)) (c0 c1 c2 c3 c4 c5 c6 : Value) :
    (((((((w.setCell ⟨g, 0, none⟩ c0).setCell ⟨g, 1, none⟩ c1).setCell ⟨g, 2, none⟩ c2).setCell ⟨g, 3, none⟩ c3).setCell ⟨g, 4, none⟩ c4).setCell ⟨g, 5, none⟩ c5).setCell ⟨g, 6, none⟩ c6).heap[g]? = some (.cells #[c0, c1, c2, c3, c4, c5, c6] T fr) := by
  obtain ⟨⟨l⟩, hs, h⟩ := h
  rcases l with _ | ⟨x0, _ | ⟨x1, _ | ⟨x2, _ | ⟨x3, _ | ⟨x4, _ | ⟨x5, _ | ⟨x6, _ | ⟨x7, r⟩⟩⟩⟩⟩⟩⟩⟩ <;> simp at hs
  · simp [World.setCell, Array.getElem?_modify, h]
def ByteAns (h : HS) (c : UInt8) (base : Nat) (w : World) (e : Ending) (w' : World) : Prop := ∃ v', e = .returned (headV (byteH h c) v') ∧ OwnS w' base v' (byteH h c).lines ∧ Below w.heap.size w w'
theorem ans_of {h h' : HS} {c : UInt8} {base : Nat} {w w' : World} {v' : Value} {e : Ending} (hv : byteH h c = h') (he : e = .returned (headV h' v')) (ho : OwnS w' base v' h'.lines) (hb : Below w.heap.size w w') : ByteAns h c base w e w' := ⟨v', by rw [hv, he], by rw [hv]; exact ho, hb⟩
theorem conv_one (W : World) (c : UInt8) : (convert 32 9 (.slice (some ⟨W.heap.size, 0, none⟩) 1 1)).run Tryz.prog (W.alloc (.cells #[.int .u8 (c.toNat : Int)] 5 (0, 0))) = .ok (.string (str [c])) (W.alloc (.cells #[.int .u8 (c.toNat : Int)] 5 (0, 0))) := by
  rw [← str_cells]
  refine run_convert_bytes_arg _ 32 5 (by kernel_rfl) (by kernel_rfl) W.heap.size 0 1 1 _ (by simp) ?_ 9 (by kernel_rfl)
  intro i hi
  obtain rfl : i = 0 := by omega
  have := heap_alloc_new W (.cells #[.int .u8 (c.toNat : Int)] 5 (0, 0))
  simp only [World.cell?, this]
  rfl
theorem last_split {l : B} (h : l ≠ []) : ∃ k y, l.length = k + 1 ∧ l[k]? = some y ∧ l.getLast? = some y := by
  refine ⟨l.length - 1, l.getLast h, by have := List.length_pos_iff.2 h; omega, ?_, List.getLast?_eq_some_getLast h⟩
  rw [List.getLast_eq_getElem h, List.getElem?_eq_getElem]
theorem below_two (w : World) (o1 o2 : Obj) : Below w.heap.size w ((w.alloc o1).alloc o2) := (two_at rfl).2.2
end Go.Proofs.YtnlmjlfoeodleaaGreatDoor
