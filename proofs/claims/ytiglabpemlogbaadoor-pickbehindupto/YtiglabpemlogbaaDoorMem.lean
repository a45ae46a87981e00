/- Values in memory; what turns and what stays. -/
import Derived.Test.YtiglabpemlogbaaDoorSpec
import Derived.Test.YtiglabpemlogbaaDoorShelf
import Derived.Laws.Tables
import Derived.Laws.Rows
import Derived.Laws.BytesArg
import Derived.Laws.ResultCell
import Derived.OwnWalk
import Derived.Lib.AppendIntMem
import Derived.Deep.LoopGhost
namespace Go.Proofs.YtiglabpemlogbaaDoor
open Go.RowKit

theorem hid {p : Prop} (h : p) : Hid p := h
theorem lt_of_heap {w : World} {k : Nat} {o : Obj} (h : w.heap[k]? = some o) : k < w.heap.size := (Array.getElem?_eq_some_iff.1 h).1
theorem below_new (w : World) (o : Obj) : Below w.heap.size w (w.alloc o) := (Below.refl _ _).alloc (Nat.le_refl _) _
abbrev str (t : B) : ByteArray := ⟨t.toArray⟩
/-- The seven cells of a value. -/
def vcells (k : Int) (b : Bool) (t : B) (n : Int) (h : Bool) (lv nv : Value) : List Value := [.int .i64 k, .bool b, .string (str t), .int .i64 n, .bool h, lv, nv]
/-- A slice of n elements that lie where P says. -/
def SliceIs (v : Value) (n : Nat) (P : Nat → Nat → Prop) : Prop := ∃ p c, v = .slice p n c ∧ n ≤ c ∧ (0 < n → ∃ g o, p = some ⟨g, o, none⟩ ∧ P g o)
/-- The names at block g from o on. -/
def StrsAt (w : World) (ns : List B) (g o : Nat) : Prop := ∀ j t, ns[j]? = some t → w.cell? ⟨g, o + j, none⟩ = some (.string (str t))
mutual
/-- These seven cells are the value; all that they lead to lies in blocks of F. -/
def ValIs (w : World) (F : Nat → Prop) : JV → List Value → Prop
  | .mk k b t n h ls ns, cs => ∃ lv nv, cs = vcells k b t n h lv nv ∧ SliceIs lv ls.length (fun g o => F g ∧ ValsIs w F ls g o) ∧ SliceIs nv ns.length (fun g o => F g ∧ StrsAt w ns g o)
def ValsIs (w : World) (F : Nat → Prop) : List JV → Nat → Nat → Prop
  | [], _, _ => True
  | x :: xs, g, o => (∃ cs, ValIs w F x cs ∧ ∀ j c, cs[j]? = some c → w.cell? ⟨g, o + j, none⟩ = some c) ∧ ValsIs w F xs g (o + 7)
end
theorem SliceIs.imp {v : Value} {n : Nat} {P Q : Nat → Nat → Prop} (h : SliceIs v n P) (i : ∀ g o, P g o → Q g o) : SliceIs v n Q := by
  obtain ⟨p, c, rfl, hc, h⟩ := h
  exact ⟨p, c, rfl, hc, fun hn => by obtain ⟨g, o, rfl, h2⟩ := h hn; exact ⟨g, o, rfl, i g o h2⟩⟩
theorem StrsAt.keep {w w' : World} {ns : List B} {g o : Nat} (h : StrsAt w ns g o) (e : w'.heap[g]? = w.heap[g]?) : StrsAt w' ns g o := fun j t hj => by
  rw [World.cell?_of_block (w := w) (by exact e)]
  exact h j t hj
mutual
theorem ValIs.keep {w w' : World} {F F' : Nat → Prop} (e : ∀ k, F k → w'.heap[k]? = w.heap[k]?) (i : ∀ k, F k → F' k) : ∀ (t : JV) (cs : List Value), ValIs w F t cs → ValIs w' F' t cs
  | .mk k b t n h ls ns, cs, hv => by
    simp only [ValIs] at hv ⊢
    obtain ⟨lv, nv, rfl, h1, h2⟩ := hv
    exact ⟨lv, nv, rfl, h1.imp fun g o hg => ⟨i g hg.1, ValsIs.keep e i ls g o hg.1 hg.2⟩, h2.imp fun g o hg => ⟨i g hg.1, hg.2.keep (e g hg.1)⟩⟩
theorem ValsIs.keep {w w' : World} {F F' : Nat → Prop} (e : ∀ k, F k → w'.heap[k]? = w.heap[k]?) (i : ∀ k, F k → F' k) : ∀ (ls : List JV) (g o : Nat), F g → ValsIs w F ls g o → ValsIs w' F' ls g o
  | [], _, _, _, _ => trivial
  | x :: xs, g, o, hF, hv => by
    simp only [ValsIs] at hv ⊢
    obtain ⟨⟨cs, h1, h2⟩, h3⟩ := hv
    exact ⟨⟨cs, ValIs.keep e i x cs h1, fun j c hj => by rw [World.cell?_of_block (w := w) (by exact e g hF)]; exact h2 j c hj⟩, ValsIs.keep e i xs g (o + 7) hF h3⟩
end
theorem ValIs.form {w : World} {F : Nat → Prop} {t : JV} {cs : List Value} (h : ValIs w F t cs) : ∃ k b tx n hh p1 n1 q1 p2 n2 q2, cs = [.int .i64 k, .bool b, .string (str tx), .int .i64 n, .bool hh, .slice p1 n1 q1, .slice p2 n2 q2] := by
  cases t with
  | mk k b tx n hh ls ns =>
    simp only [ValIs] at h
    obtain ⟨lv, nv, rfl, ⟨p1, q1, rfl, _⟩, ⟨p2, q2, rfl, _⟩⟩ := h
    exact ⟨k, b, tx, n, hh, p1, _, q1, p2, _, q2, rfl⟩
theorem val_size : (Tryd.prog.info? 25).map (·.size) = some 7 := by kernel_rfl
theorem results_val1 {fn : Func} {p : Tmp} (h : fn.results = #[.cell p 25]) (tmps : Array Value) (w : World) (g : Nat) (t : TypeId) (cs : Array Value) (fr : Nat × Nat)
    (hp : tmps.getD p undef = .pointer (some ⟨g, 0, none⟩)) (hg : w.heap[g]? = some (.cells cs t fr)) (hs : cs.size = 7) : (results fn tmps).run Tryd.prog w = .ok (.agg cs) w := by
  exact results_cell_row h tmps w g t cs fr _ hp hg Tryd.underlying25 rfl (by rw [val_size, hs])
theorem results_val2 {fn : Func} {p u : Tmp} (h : fn.results = #[.cell p 25, .tmp u]) (tmps : Array Value) (w : World) (g : Nat) (t : TypeId) (cs : Array Value) (fr : Nat × Nat)
    (hp : tmps.getD p undef = .pointer (some ⟨g, 0, none⟩)) (hg : w.heap[g]? = some (.cells cs t fr)) (hs : cs.size = 7) : (results fn tmps).run Tryd.prog w = .ok (.tuple #[.agg cs, tmps.getD u undef]) w := by
  have hl := run_loadVar_row (P := Tryd.prog) w g t 25 cs fr _ hg Tryd.underlying25 rfl (by rw [val_size, hs])
  rw [results_cell_tmp h, hp]
  simp [asAddr, Result.andThen, hl]
theorem seven_put {w : World} {g : Nat} {T : TypeId} {fr : Nat × Nat} (h : ∃ cs : Array Value, cs.size = 7 ∧ w.heap[g]? = some (.cells cs T fr)) (c0 c1 c2 c3 c4 c5 c6 : Value) :
    (((((((w.setCell ⟨g, 0, none⟩ c0).setCell ⟨g, 1, none⟩ c1).setCell ⟨g, 2, none⟩ c2).setCell ⟨g, 3, none⟩ c3).setCell ⟨g, 4, none⟩ c4).setCell ⟨g, 5, none⟩ c5).setCell ⟨g, 6, none⟩ c6).heap[g]? = some (.cells #[c0, c1, c2, c3, c4, c5, c6] T fr) := by
  obtain ⟨⟨l⟩, hs, h⟩ := h
  rcases l with _ | ⟨x0, _ | ⟨x1, _ | ⟨x2, _ | ⟨x3, _ | ⟨x4, _ | ⟨x5, _ | ⟨x6, _ | ⟨x7, r⟩⟩⟩⟩⟩⟩⟩⟩ <;> simp at hs
  · simp [World.setCell, Array.getElem?_modify, h]
theorem has_seven {w : World} {g : Nat} {T : TypeId} {fr : Nat × Nat} {x0 x1 x2 x3 x4 x5 x6 : Value} (h : w.heap[g]? = some (.cells #[x0, x1, x2, x3, x4, x5, x6] T fr)) : ∃ cs : Array Value, cs.size = 7 ∧ w.heap[g]? = some (.cells cs T fr) := ⟨_, rfl, h⟩
structure Seven (w : World) (g : Nat) (c0 c1 c2 c3 c4 c5 c6 : Value) : Prop where
  a0 : w.cell? ⟨g, 0, none⟩ = some c0
  a1 : w.cell? ⟨g, 1, none⟩ = some c1
  a2 : w.cell? ⟨g, 2, none⟩ = some c2
  a3 : w.cell? ⟨g, 3, none⟩ = some c3
  a4 : w.cell? ⟨g, 4, none⟩ = some c4
  a5 : w.cell? ⟨g, 5, none⟩ = some c5
  a6 : w.cell? ⟨g, 6, none⟩ = some c6
  fz : ∀ j, w.frozen? ⟨g, j, none⟩ = false
theorem seven {w : World} {g : Nat} {c0 c1 c2 c3 c4 c5 c6 : Value} {T : TypeId} (h : w.heap[g]? = some (.cells #[c0, c1, c2, c3, c4, c5, c6] T (0, 0))) : Seven w g c0 c1 c2 c3 c4 c5 c6 := by
  refine ⟨?_, ?_, ?_, ?_, ?_, ?_, ?_, fun j => by simp [World.frozen?, h]⟩ <;> simp [World.cell?, h]
theorem lt_of_cell {w : World} {k o : Nat} {v : Value} (h : w.cell? ⟨k, o, none⟩ = some v) : k < w.heap.size := by
  unfold World.cell? at h
  cases e : w.heap[k]? with
  | none => simp [e] at h
  | some o => exact lt_of_heap e
/-- These cells are the value; all that they lead to lies in memory. -/
def ValOn (w : World) (t : JV) (cs : List Value) : Prop := ∃ F : Nat → Prop, (∀ k, F k → k < w.heap.size) ∧ ValIs w F t cs
/-- The parts of a list. -/
def PartsOn (w : World) (ls : List JV) (p : Option Addr) : Prop := ∀ i t, ls[i]? = some t → ∃ g o cs, p = some ⟨g, o, none⟩ ∧ ValOn w t cs ∧ ∀ j c, cs[j]? = some c → w.cell? ⟨g, o + i * 7 + j, none⟩ = some c
/-- The names of an object. -/
def NamesOn (w : World) (ns : List B) (p : Option Addr) : Prop := ∀ j t, ns[j]? = some t → ∃ g o, p = some ⟨g, o, none⟩ ∧ w.cell? ⟨g, o + j, none⟩ = some (.string (str t))
theorem ValOn.below {w w' : World} {t : JV} {cs : List Value} (h : ValOn w t cs) (hb : Below w.heap.size w w') : ValOn w' t cs := by
  obtain ⟨F, h1, h2⟩ := h
  exact ⟨F, fun k hk => Nat.lt_of_lt_of_le (h1 k hk) hb.size, ValIs.keep (fun k hk => hb.block k (h1 k hk)) (fun _ h => h) _ _ h2⟩
theorem PartsOn.below {w w' : World} {ls : List JV} {p : Option Addr} (h : PartsOn w ls p) (hb : Below w.heap.size w w') : PartsOn w' ls p := by
  intro i t hi
  obtain ⟨g, o, cs, h1, h2, h3⟩ := h i t hi
  refine ⟨g, o, cs, h1, h2.below hb, fun j c hj => ?_⟩
  have := h3 j c hj
  rw [hb.cell (by exact lt_of_cell this)]
  exact this
theorem NamesOn.below {w w' : World} {ns : List B} {p : Option Addr} (h : NamesOn w ns p) (hb : Below w.heap.size w w') : NamesOn w' ns p := by
  intro j t hj
  obtain ⟨g, o, h1, h2⟩ := h j t hj
  refine ⟨g, o, h1, ?_⟩
  rw [hb.cell (by exact lt_of_cell h2)]
  exact h2
theorem vals_get {w : World} {F : Nat → Prop} {g : Nat} : ∀ (ls : List JV) (o : Nat), ValsIs w F ls g o → ∀ i t, ls[i]? = some t → ∃ cs, ValIs w F t cs ∧ ∀ j c, cs[j]? = some c → w.cell? ⟨g, o + 7 * i + j, none⟩ = some c
  | [], o, _, i, t, hi => by simp at hi
  | x :: xs, o, h, i, t, hi => by
    simp only [ValsIs] at h
    obtain ⟨⟨cs, h1, h2⟩, h3⟩ := h
    cases i with
    | zero =>
      simp only [List.getElem?_cons_zero, Option.some.injEq] at hi
      subst hi
      exact ⟨cs, h1, fun j c hj => by simpa using h2 j c hj⟩
    | succ i =>
      obtain ⟨cs', a1, a2⟩ := vals_get xs (o + 7) h3 i t (by simpa using hi)
      refine ⟨cs', a1, fun j c hj => ?_⟩
      rw [show o + 7 * (i + 1) + j = o + 7 + 7 * i + j by omega]
      exact a2 j c hj
theorem ValOn.open {w : World} {k : Int} {b : Bool} {t : B} {n : Int} {hh : Bool} {ls : List JV} {ns : List B} {cs : List Value} (h : ValOn w (.mk k b t n hh ls ns) cs) :
    ∃ p1 c1 p2 c2, cs = [.int .i64 k, .bool b, .string (str t), .int .i64 n, .bool hh, .slice p1 ls.length c1, .slice p2 ns.length c2] ∧ PartsOn w ls p1 ∧ NamesOn w ns p2 := by
  obtain ⟨F, h0, h⟩ := h
  simp only [ValIs] at h
  obtain ⟨lv, nv, rfl, ⟨p1, c1, rfl, _, h1⟩, ⟨p2, c2, rfl, _, h2⟩⟩ := h
  refine ⟨p1, c1, p2, c2, rfl, fun i t hi => ?_, fun j t hj => ?_⟩
  · have hlt : i < ls.length := (List.getElem?_eq_some_iff.1 hi).1
    obtain ⟨g, o, e, hF, hv⟩ := h1 (by omega)
    obtain ⟨cs, a1, a2⟩ := vals_get ls o hv i t hi
    exact ⟨g, o, cs, e, ⟨F, h0, a1⟩, fun j c hj => by rw [show o + i * 7 + j = o + 7 * i + j by omega]; exact a2 j c hj⟩
  · have hlt : j < ns.length := (List.getElem?_eq_some_iff.1 hj).1
    obtain ⟨g, o, e, hF, hv⟩ := h2 (by omega)
    exact ⟨g, o, e, hv j t hj⟩
theorem ValOn.cap {w : World} {t : JV} {cs : List Value} (h : ValOn w t cs) : ∀ p n c, cs[6]? = some (.slice p n c) → n ≤ c := by
  cases t with
  | mk k b tx m hh ls ns =>
    obtain ⟨F, h0, h⟩ := h
    simp only [ValIs] at h
    obtain ⟨lv, nv, rfl, _, ⟨p2, c2, rfl, hc, _⟩⟩ := h
    intro p n c e
    simp only [vcells, List.getElem?_cons_succ, List.getElem?_cons_zero, Option.some.injEq, Value.slice.injEq] at e
    omega
/-- Seven cells in a row. -/
structure Row7 (w : World) (g o : Nat) (c0 c1 c2 c3 c4 c5 c6 : Value) : Prop where
  a0 : w.cell? ⟨g, o, none⟩ = some c0
  a1 : w.cell? ⟨g, o + 1, none⟩ = some c1
  a2 : w.cell? ⟨g, o + 2, none⟩ = some c2
  a3 : w.cell? ⟨g, o + 3, none⟩ = some c3
  a4 : w.cell? ⟨g, o + 4, none⟩ = some c4
  a5 : w.cell? ⟨g, o + 5, none⟩ = some c5
  a6 : w.cell? ⟨g, o + 6, none⟩ = some c6
theorem row7 {w : World} {g o : Nat} {c0 c1 c2 c3 c4 c5 c6 : Value} (h : ∀ j c, [c0, c1, c2, c3, c4, c5, c6][j]? = some c → w.cell? ⟨g, o + j, none⟩ = some c) : Row7 w g o c0 c1 c2 c3 c4 c5 c6 :=
  ⟨h 0 c0 rfl, h 1 c1 rfl, h 2 c2 rfl, h 3 c3 rfl, h 4 c4 rfl, h 5 c5 rfl, h 6 c6 rfl⟩
theorem Row7.below {w w' : World} {g o : Nat} {c0 c1 c2 c3 c4 c5 c6 : Value} (h : Row7 w g o c0 c1 c2 c3 c4 c5 c6) (hb : Below w.heap.size w w') : Row7 w' g o c0 c1 c2 c3 c4 c5 c6 :=
  have e : ∀ j, w'.cell? ⟨g, j, none⟩ = w.cell? ⟨g, j, none⟩ := fun _ => hb.cell (by exact lt_of_cell h.a0)
  ⟨(e _).trans h.a0, (e _).trans h.a1, (e _).trans h.a2, (e _).trans h.a3, (e _).trans h.a4, (e _).trans h.a5, (e _).trans h.a6⟩
theorem ValOn.form {w : World} {t : JV} {cs : List Value} (h : ValOn w t cs) : ∃ k b tx n hh p1 n1 q1 p2 n2 q2, cs = [.int .i64 k, .bool b, .string (str tx), .int .i64 n, .bool hh, .slice p1 n1 q1, .slice p2 n2 q2] := by
  obtain ⟨F, _, h⟩ := h
  exact h.form
/-- How many parts and names a value may have: as many as an int tells. -/
def maxI : Nat := 1048576
theorem maxI_le {n : Nat} (h : n ≤ maxI) : n ≤ 9223372036854775807 := by unfold maxI at h; omega
mutual
def Fits : JV → Prop
  | .mk _ _ t _ _ ls ns => t.length ≤ maxI ∧ ls.length ≤ maxI ∧ ns.length ≤ maxI ∧ (∀ z ∈ ns, z.length ≤ maxI) ∧ FitsL ls
def FitsL : List JV → Prop
  | [] => True
  | x :: xs => Fits x ∧ FitsL xs
end
theorem fitsL_iff : ∀ ls : List JV, FitsL ls ↔ ∀ x ∈ ls, Fits x
  | [] => by simp [FitsL]
  | x :: xs => by simp [FitsL, fitsL_iff xs]
theorem str_inj {a b : B} (h : str a = str b) : a = b := by
  have := congrArg (fun x : ByteArray => x.data.toList) h
  simpa using this
theorem map_str_inj : ∀ {a b : List B}, a.map str = b.map str → a = b
  | [], [], _ => rfl
  | [], _ :: _, h => by simp at h
  | _ :: _, [], h => by simp at h
  | x :: xs, y :: ys, h => by
    simp only [List.map_cons, List.cons.injEq] at h
    rw [str_inj h.1, map_str_inj h.2]
theorem seven_other {U : World} {g k : Nat} (hk : k ≠ g) (c0 c1 c2 c3 c4 c5 c6 : Value) : (((((((U.setCell ⟨g, 0, none⟩ c0).setCell ⟨g, 1, none⟩ c1).setCell ⟨g, 2, none⟩ c2).setCell ⟨g, 3, none⟩ c3).setCell ⟨g, 4, none⟩ c4).setCell ⟨g, 5, none⟩ c5).setCell ⟨g, 6, none⟩ c6).heap[k]? = U.heap[k]? := by
  iterate 7 rw [Below.heap_setCell _ _ _ _ (by exact hk)]
theorem os_set (w : World) (a : Addr) (c : Value) : (w.setCell a c).os = w.os := rfl
theorem tape_set (w : World) (a : Addr) (c : Value) : (w.setCell a c).tape = w.tape := rfl
theorem output_set (w : World) (a : Addr) (c : Value) : (w.setCell a c).output = w.output := rfl
theorem size_set (w : World) (a : Addr) (c : Value) : (w.setCell a c).heap.size = w.heap.size := by simp [World.setCell]
/-- A value is handed out in a cell of its own: of what lay in memory nothing turns. -/
structure Out7 (U Wf : World) (r : Nat) : Prop where
  other : ∀ k, k ≠ r → Wf.heap[k]? = U.heap[k]?
  size : Wf.heap.size = U.heap.size
  os : Wf.os = U.os
  tape : Wf.tape = U.tape
  output : Wf.output = U.output
theorem out7 (U : World) (g : Nat) (c0 c1 c2 c3 c4 c5 c6 : Value) : Out7 U (((((((U.setCell ⟨g, 0, none⟩ c0).setCell ⟨g, 1, none⟩ c1).setCell ⟨g, 2, none⟩ c2).setCell ⟨g, 3, none⟩ c3).setCell ⟨g, 4, none⟩ c4).setCell ⟨g, 5, none⟩ c5).setCell ⟨g, 6, none⟩ c6) g :=
  ⟨fun _ hk => seven_other hk _ _ _ _ _ _ _, by simp only [size_set], by simp only [os_set], by simp only [tape_set], by simp only [output_set]⟩
theorem below_or {w w' : World} {e : TypeId} (h : w' = w ∨ ∃ t, w' = Lib.bytesWorld w e t) : Below w.heap.size w w' := by
  rcases h with rfl | ⟨t, rfl⟩
  · exact Below.refl _ _
  · exact Lib.bytesWorld_below _ _ _
theorem flat_val (w : World) (F : Nat → Prop) (k : Int) (b : Bool) (t : B) (n : Int) (h : Bool) : ValIs w F (.mk k b t n h [] []) [.int .i64 k, .bool b, .string (str t), .int .i64 n, .bool h, .slice none 0 0, .slice none 0 0] := by
  simp only [ValIs]
  exact ⟨_, _, rfl, ⟨none, 0, rfl, Nat.le_refl _, fun h => absurd h (by simp)⟩, ⟨none, 0, rfl, Nat.le_refl _, fun h => absurd h (by simp)⟩⟩
theorem ValOn.close {w : World} {k : Int} {b : Bool} {t : B} {n : Int} {hh : Bool} : ValOn w (.mk k b t n hh [] []) [.int .i64 k, .bool b, .string (str t), .int .i64 n, .bool hh, .slice none 0 0, .slice none 0 0] :=
  ⟨fun _ => False, fun _ h => h.elim, flat_val _ _ _ _ _ _ _⟩
abbrev C7 (q1 : Int) (q2 : Bool) (q3 : B) (q4 : Int) (q5 : Bool) (q6 : Option Addr) (q7 q8 : Nat) (q9 : Option Addr) (q10 q11 : Nat) : Obj := .cells #[.int .i64 q1, .bool q2, .string (str q3), .int .i64 q4, .bool q5, .slice q6 q7 q8, .slice q9 q10 q11] 25 (0, 0)
theorem keep7 {w1 w2 : World} {g : Nat} {a0 a1 a2 a3 a4 a5 a6 : Value} {T : TypeId} (h : w1.heap[g]? = some (.cells #[a0, a1, a2, a3, a4, a5, a6] T (0, 0))) (hb : Below w1.heap.size w1 w2) : w2.heap[g]? = some (.cells #[a0, a1, a2, a3, a4, a5, a6] T (0, 0)) := (hb.block g (lt_of_heap h)).trans h
theorem below_drew {B : Nat} {a w : World} (h : Below B a w) : ∀ q, Below B a (w.drewN q)
  | 0 => h
  | q + 1 => (below_drew h q).drew
theorem drop_get {α : Type} {l : List α} {i : Nat} (h : i < l.length) : l.drop i = l[i] :: l.drop (i + 1) := by simp
theorem below_out {w W w' : World} (h1 : Below w.heap.size w W) (h2 : Below W.heap.size W w') : Below w.heap.size w w' := h1.trans (h2.mono h1.size)
theorem new_drew (w : World) (o : Obj) : Below w.heap.size w (w.alloc o).drew := ⟨rfl, rfl, rfl, (below_new w o).size, fun k hk => (below_new w o).block k hk⟩
/-! ### Values below N -/
def ValB (w : World) (N : Nat) (t : JV) (cs : List Value) : Prop := ∃ F : Nat → Prop, (∀ k, F k → k < N) ∧ ValIs w F t cs
theorem ValB.below {w w' : World} {N : Nat} {t : JV} {cs : List Value} (h : ValB w N t cs) (hb : Below N w w') : ValB w' N t cs := by
  obtain ⟨F, h1, h2⟩ := h
  exact ⟨F, h1, ValIs.keep (fun k hk => hb.block k (h1 k hk)) (fun _ h => h) _ _ h2⟩
theorem ValB.on {w : World} {N : Nat} {t : JV} {cs : List Value} (h : ValB w N t cs) (hN : N ≤ w.heap.size) : ValOn w t cs := by
  obtain ⟨F, h1, h2⟩ := h
  exact ⟨F, fun k hk => Nat.lt_of_lt_of_le (h1 k hk) hN, h2⟩
def PartsB (w : World) (N : Nat) (ls : List JV) (p : Option Addr) : Prop := ∀ i t, ls[i]? = some t → ∃ g o cs, p = some ⟨g, o, none⟩ ∧ g < N ∧ ValB w N t cs ∧ ∀ j c, cs[j]? = some c → w.cell? ⟨g, o + i * 7 + j, none⟩ = some c
def NamesB (w : World) (N : Nat) (ns : List B) (p : Option Addr) : Prop := ∀ j t, ns[j]? = some t → ∃ g o, p = some ⟨g, o, none⟩ ∧ g < N ∧ w.cell? ⟨g, o + j, none⟩ = some (.string (str t))
theorem cell_block {w w' : World} {g o : Nat} (e : w'.heap[g]? = w.heap[g]?) : w'.cell? ⟨g, o, none⟩ = w.cell? ⟨g, o, none⟩ := World.cell?_of_block (by exact e)
theorem PartsB.below {w w' : World} {N : Nat} {ls : List JV} {p : Option Addr} (h : PartsB w N ls p) (hb : Below N w w') : PartsB w' N ls p := by
  intro i t hi
  obtain ⟨g, o, cs, h1, hg, h2, h3⟩ := h i t hi
  exact ⟨g, o, cs, h1, hg, h2.below hb, fun j c hj => by rw [cell_block (hb.block g hg)]; exact h3 j c hj⟩
theorem NamesB.below {w w' : World} {N : Nat} {ns : List B} {p : Option Addr} (h : NamesB w N ns p) (hb : Below N w w') : NamesB w' N ns p := by
  intro j t hj
  obtain ⟨g, o, h1, hg, h2⟩ := h j t hj
  exact ⟨g, o, h1, hg, by rw [cell_block (hb.block g hg)]; exact h2⟩
theorem ValB.open {w : World} {N : Nat} {k : Int} {b : Bool} {t : B} {n : Int} {hh : Bool} {ls : List JV} {ns : List B} {cs : List Value} (h : ValB w N (.mk k b t n hh ls ns) cs) :
    ∃ p1 c1 p2 c2, cs = [.int .i64 k, .bool b, .string (str t), .int .i64 n, .bool hh, .slice p1 ls.length c1, .slice p2 ns.length c2] ∧ PartsB w N ls p1 ∧ NamesB w N ns p2 := by
  obtain ⟨F, h0, h⟩ := h
  simp only [ValIs] at h
  obtain ⟨lv, nv, rfl, ⟨p1, c1, rfl, _, h1⟩, ⟨p2, c2, rfl, _, h2⟩⟩ := h
  refine ⟨p1, c1, p2, c2, rfl, fun i t hi => ?_, fun j t hj => ?_⟩
  · have hlt : i < ls.length := (List.getElem?_eq_some_iff.1 hi).1
    obtain ⟨g, o, e, hF, hv⟩ := h1 (by omega)
    obtain ⟨cs, a1, a2⟩ := vals_get ls o hv i t hi
    exact ⟨g, o, cs, e, h0 g hF, ⟨F, h0, a1⟩, fun j c hj => by rw [show o + i * 7 + j = o + 7 * i + j by omega]; exact a2 j c hj⟩
  · have hlt : j < ns.length := (List.getElem?_eq_some_iff.1 hj).1
    obtain ⟨g, o, e, hF, hv⟩ := h2 (by omega)
    exact ⟨g, o, e, h0 g hF, hv j t hj⟩
theorem str_size (t : B) : (str t).size = t.length := by simp [ByteArray.size]
/-- The library's tables and errors lie where they were laid. -/
structure Env (w : World) : Prop where
  most : ∃ m : Int, w.cell? ⟨1, 0, none⟩ = some (.int .i64 m)
  syn : ∃ te pe, w.cell? ⟨4, 0, none⟩ = some (.iface te pe)
  rng : ∃ te pe, w.cell? ⟨5, 0, none⟩ = some (.iface te pe)
  pow : Lib.TabIs Tryd.prog w "internal/strconv.uint64pow10" .u64 Lib.pow10Tab
  typ : w.cell? ⟨0, 0, none⟩ = some (.iface 73 (.agg #[.pointer (some ⟨9, 27, none⟩)]))
theorem cell_keep {w w' : World} (hb : Below w.heap.size w w') {k o : Nat} {v : Value} (h : w.cell? ⟨k, o, none⟩ = some v) : w'.cell? ⟨k, o, none⟩ = some v := (hb.cell (p := ⟨k, o, none⟩) (lt_of_cell h)).trans h
theorem Env.below {w w' : World} (h : Env w) (hb : Below w.heap.size w w') : Env w' := by
  obtain ⟨⟨m, h1⟩, ⟨a, b, h2⟩, ⟨c, d, h3⟩, h4, h5⟩ := h
  exact ⟨⟨m, cell_keep hb h1⟩, ⟨a, b, cell_keep hb h2⟩, ⟨c, d, cell_keep hb h3⟩, Lib.tabBelow_of_tabIs h4 _ hb, cell_keep hb h5⟩
/-- An error of the project's own, by its number. -/
def errOf (k : Nat) : Value := if k = 0 then .nilIface else .iface 43 (.int .i64 (k : Int))
theorem errOf_zero : errOf 0 = .nilIface := rfl
theorem errOf_pos {k : Nat} (h : k ≠ 0) : errOf k = .iface 43 (.int .i64 (k : Int)) := by unfold errOf; rw [if_neg h]
theorem zero_on (w : World) : ValOn w JV.zero [.int .i64 0, .bool false, .string ⟨#[]⟩, .int .i64 0, .bool false, .slice none 0 0, .slice none 0 0] := ValOn.close (t := [])
/-- What is told of a value at a path, and the error. -/
def ToldV (N : Nat) (r : JV) (k : Nat) (w : World) (e : Ending) (w' : World) : Prop := ∃ cs : List Value, e = .returned (.tuple #[.agg cs.toArray, errOf k]) ∧ ValB w' N r cs ∧ Below w.heap.size w w'
def ToldR (N : Nat) (r : JV) (k : Nat) (w : World) (e : Ending) (w' : World) : Prop := ∃ cs : List Value, e = .returned (.tuple #[.agg cs.toArray, .int .i64 (k : Int)]) ∧ ValB w' N r cs ∧ Below w.heap.size w w'
theorem below_seven {w W : World} {g : Nat} (h : Below w.heap.size w W) (hg : w.heap.size ≤ g) (c0 c1 c2 c3 c4 c5 c6 : Value) : Below w.heap.size w (((((((W.setCell ⟨g, 0, none⟩ c0).setCell ⟨g, 1, none⟩ c1).setCell ⟨g, 2, none⟩ c2).setCell ⟨g, 3, none⟩ c3).setCell ⟨g, 4, none⟩ c4).setCell ⟨g, 5, none⟩ c5).setCell ⟨g, 6, none⟩ c6) := by
  iterate 7 refine Below.setCell ?_ hg _
  exact h
theorem below_sevenN {w W : World} {N g : Nat} (h : Below N w W) (hg : N ≤ g) (c0 c1 c2 c3 c4 c5 c6 : Value) : Below N w (((((((W.setCell ⟨g, 0, none⟩ c0).setCell ⟨g, 1, none⟩ c1).setCell ⟨g, 2, none⟩ c2).setCell ⟨g, 3, none⟩ c3).setCell ⟨g, 4, none⟩ c4).setCell ⟨g, 5, none⟩ c5).setCell ⟨g, 6, none⟩ c6) := by
  iterate 7 refine Below.setCell ?_ hg _
  exact h
theorem zero_b (w : World) (N : Nat) : ValB w N JV.zero [.int .i64 0, .bool false, .string ⟨#[]⟩, .int .i64 0, .bool false, .slice none 0 0, .slice none 0 0] := ⟨fun _ => False, fun _ h => h.elim, flat_val _ _ _ _ _ _ _⟩
theorem ValB.form {w : World} {N : Nat} {t : JV} {cs : List Value} (h : ValB w N t cs) : ∃ k b tx n hh p1 n1 q1 p2 n2 q2, cs = [.int .i64 k, .bool b, .string (str tx), .int .i64 n, .bool hh, .slice p1 n1 q1, .slice p2 n2 q2] := by
  obtain ⟨F, _, h⟩ := h
  exact h.form
theorem ValB.mono {w : World} {N M : Nat} {t : JV} {cs : List Value} (h : ValB w N t cs) (hm : N ≤ M) : ValB w M t cs := by
  obtain ⟨F, h1, h2⟩ := h
  exact ⟨F, fun k hk => Nat.lt_of_lt_of_le (h1 k hk) hm, h2⟩
theorem fits_parts {t : JV} (h : Fits t) : ∀ x ∈ t.parts, Fits x := by
  cases t
  simp only [Fits, fitsL_iff] at h
  exact h.2.2.2.2
theorem fits_goto : ∀ (ss : List B) (t x : JV), Fits t → goto t ss = some x → Fits x
  | [], t, x, h, e => by
    simp only [goto, Option.some.injEq] at e
    rw [← e]
    exact h
  | s :: r, t, x, h, e => by
    simp only [goto] at e
    split at e
    · cases e
    · split at e
      · cases e
      · rename_i y hy
        exact fits_goto r y x (fits_parts h y (List.mem_of_getElem? hy)) e
theorem fits_zero : Fits JV.zero := by
  simp only [JV.zero, Fits, FitsL]
  simp
theorem fits_kind (t : JV) (ss : List B) {k : Int} (h : Fits t) : Fits (ofKind k (goto t ss)).1 := by
  cases e : goto t ss with
  | none => exact fits_zero
  | some x =>
    simp only [ofKind]
    split
    · exact fits_goto ss t x h e
    · exact fits_zero
theorem two_at (w : World) (o1 o2 : Obj) : ((w.alloc o1).alloc o2).heap[w.heap.size]? = some o1 ∧ ((w.alloc o1).alloc o2).heap[w.heap.size + 1]? = some o2 ∧ Below w.heap.size w ((w.alloc o1).alloc o2) := by
  refine ⟨?_, ?_, ((Below.refl _ _).alloc (Nat.le_refl _) o1).alloc (by simp) o2⟩
  · rw [Below.heap_alloc _ _ _ (by simp)]
    exact heap_alloc_new w o1
  · have := heap_alloc_new (w.alloc o1) o2
    simpa using this
end Go.Proofs.YtiglabpemlogbaaDoor
