/- The document's reading: a place in a text in memory, what is handed out. -/
import Derived.Test.YtkoeihliaandeaaGreatDoorRefN
namespace Go.Proofs.YtkoeihliaandeaaGreatDoor
open Go.RowKit

structure Three3 (w : World) (g : Nat) (c0 c1 c2 : Value) : Prop where
  a0 : w.cell? ⟨g, 0, none⟩ = some c0
  a1 : w.cell? ⟨g, 1, none⟩ = some c1
  a2 : w.cell? ⟨g, 2, none⟩ = some c2
  fz : ∀ j, w.frozen? ⟨g, j, none⟩ = false
theorem three {w : World} {g : Nat} {c0 c1 c2 : Value} {T : TypeId} (h : w.heap[g]? = some (.cells #[c0, c1, c2] T (0, 0))) : Three3 w g c0 c1 c2 := by
  refine ⟨?_, ?_, ?_, fun j => by simp [World.frozen?, h]⟩ <;> simp [World.cell?, h]
theorem has_three {w : World} {g : Nat} {T : TypeId} {fr : Nat × Nat} {x0 x1 x2 : Value} (h : w.heap[g]? = some (.cells #[x0, x1, x2] T fr)) : ∃ cs : Array Value, cs.size = 3 ∧ w.heap[g]? = some (.cells cs T fr) := ⟨_, rfl, h⟩
theorem three_put {w : World} {g : Nat} {T : TypeId} {fr : Nat × Nat} (h : ∃ cs : Array Value, cs.size = 3 ∧ w.heap[g]? = some (.cells cs T fr)) (c0 c1 c2 : Value) :
    (((w.setCell ⟨g, 0, none⟩ c0).setCell ⟨g, 1, none⟩ c1).setCell ⟨g, 2, none⟩ c2).heap[g]? = some (.cells #[c0, c1, c2] T fr) := by
  obtain ⟨⟨l⟩, hs, h⟩ := h
  rcases l with _ | ⟨x0, _ | ⟨x1, _ | ⟨x2, _ | ⟨x3, r⟩⟩⟩⟩ <;> simp at hs
  · simp [World.setCell, Array.getElem?_modify, h]
theorem three_other {U : World} {g k : Nat} (hk : k ≠ g) (c0 c1 c2 : Value) : (((U.setCell ⟨g, 0, none⟩ c0).setCell ⟨g, 1, none⟩ c1).setCell ⟨g, 2, none⟩ c2).heap[k]? = U.heap[k]? := by
  iterate 3 rw [Below.heap_setCell _ _ _ _ (by exact hk)]
/-- A reading and a value handed out in two blocks. -/
theorem results_rdval {fn : Func} {p u : Tmp} (h : fn.results = #[.cell p 49, .cell u 25]) (tmps : Array Value) (w : World) (g k : Nat) (t t2 : TypeId) (cs ds : Array Value) (fr fr2 : Nat × Nat)
    (hp : tmps.getD p undef = .pointer (some ⟨g, 0, none⟩)) (hu : tmps.getD u undef = .pointer (some ⟨k, 0, none⟩)) (hg : w.heap[g]? = some (.cells cs t fr)) (hk : w.heap[k]? = some (.cells ds t2 fr2)) (hs : cs.size = 3) (hd : ds.size = 7) : (results fn tmps).run Tryz.prog w = .ok (.tuple #[.agg cs, .agg ds]) w := by
  have hl := run_loadVar_row (P := Tryz.prog) w g t 49 cs fr _ hg Tryz.underlying49 rfl (by rw [rd_size, hs])
  have hm := run_loadVar_row (P := Tryz.prog) w k t2 25 ds fr2 _ hk Tryz.underlying25 rfl (by rw [val_size, hd])
  have hp' : tmps[p]?.getD undef = .pointer (some ⟨g, 0, none⟩) := by simpa using hp
  have hu' : tmps[u]?.getD undef = .pointer (some ⟨k, 0, none⟩) := by simpa using hu
  simp only [results, h]
  simp [Sem.run_bind, Result.andThen, asAddr, hp', hu', hl, hm]
/-- A reading and a value of one slot handed out. -/
theorem results_rdtmp {fn : Func} {p u : Tmp} (h : fn.results = #[.cell p 49, .tmp u]) (tmps : Array Value) (w : World) (g : Nat) (t : TypeId) (cs : Array Value) (fr : Nat × Nat)
    (hp : tmps.getD p undef = .pointer (some ⟨g, 0, none⟩)) (hg : w.heap[g]? = some (.cells cs t fr)) (hs : cs.size = 3) : (results fn tmps).run Tryz.prog w = .ok (.tuple #[.agg cs, tmps.getD u undef]) w := by
  have hl := run_loadVar_row (P := Tryz.prog) w g t 49 cs fr _ hg Tryz.underlying49 rfl (by rw [rd_size, hs])
  rw [results_cell_tmp h, hp]
  simp [asAddr, Result.andThen, hl]
theorem out_rv {U : World} {g h : Nat} {T T2 : TypeId} {fr fr2 : Nat × Nat} (hg : ∃ cs : Array Value, cs.size = 3 ∧ U.heap[g]? = some (.cells cs T fr)) (hh : ∃ cs : Array Value, cs.size = 7 ∧ U.heap[h]? = some (.cells cs T2 fr2)) (hne : g ≠ h) (a0 a1 a2 c0 c1 c2 c3 c4 c5 c6 : Value) :
    ((((((((((U.setCell ⟨g, 0, none⟩ a0).setCell ⟨g, 1, none⟩ a1).setCell ⟨g, 2, none⟩ a2).setCell ⟨h, 0, none⟩ c0).setCell ⟨h, 1, none⟩ c1).setCell ⟨h, 2, none⟩ c2).setCell ⟨h, 3, none⟩ c3).setCell ⟨h, 4, none⟩ c4).setCell ⟨h, 5, none⟩ c5).setCell ⟨h, 6, none⟩ c6).heap[g]? = some (.cells #[a0, a1, a2] T fr)
    ∧ ((((((((((U.setCell ⟨g, 0, none⟩ a0).setCell ⟨g, 1, none⟩ a1).setCell ⟨g, 2, none⟩ a2).setCell ⟨h, 0, none⟩ c0).setCell ⟨h, 1, none⟩ c1).setCell ⟨h, 2, none⟩ c2).setCell ⟨h, 3, none⟩ c3).setCell ⟨h, 4, none⟩ c4).setCell ⟨h, 5, none⟩ c5).setCell ⟨h, 6, none⟩ c6).heap[h]? = some (.cells #[c0, c1, c2, c3, c4, c5, c6] T2 fr2) := by
  refine ⟨?_, ?_⟩
  · rw [seven_other hne]
    exact three_put hg _ _ _
  · refine seven_put ?_ _ _ _ _ _ _ _
    obtain ⟨cs, h1, h2⟩ := hh
    exact ⟨cs, h1, by rw [three_other (Ne.symm hne)]; exact h2⟩
/-- A reading in its own block, and the blocks of what is handed out. -/
structure RNW (w W : World) (s : ByteArray) (p : Int) : Prop where
  r : W.heap[w.heap.size]? = some (.cells #[.string s, .int .i64 p, .int .i64 0] 49 (0, 0))
  o1 : W.heap[w.heap.size + 1]? = some (.cells #[.string ⟨#[]⟩, .int .i64 0, .int .i64 0] 49 (0, 0))
  o2 : W.heap[w.heap.size + 2]? = some (.cells #[.int .i64 0, .bool false, .string ⟨#[]⟩, .int .i64 0, .bool false, .slice none 0 0, .slice none 0 0] 25 (0, 0))
  low : Below w.heap.size w W
theorem three_at {w W0 : World} {o1 o2 o3 : Obj} (h : W0 = ((w.alloc o1).alloc o2).alloc o3) : W0.heap[w.heap.size]? = some o1 ∧ W0.heap[w.heap.size + 1]? = some o2 ∧ W0.heap[w.heap.size + 2]? = some o3 ∧ Below w.heap.size w W0 := by
  subst h
  have e1 := heap_alloc_new w o1
  have e2 := new_second w o1 o2
  have e3 := new_second (w.alloc o1) o2 o3
  have z : (w.alloc o1).heap.size = w.heap.size + 1 := by simp
  have z2 : ((w.alloc o1).alloc o2).heap.size = w.heap.size + 2 := by simp
  rw [z] at e3
  refine ⟨?_, ?_, e3, ?_⟩
  · rw [Below.heap_alloc _ _ _ (by rw [z2]; omega), Below.heap_alloc _ _ _ (by rw [z]; omega)]
    exact e1
  · rw [Below.heap_alloc _ _ _ (by rw [z2]; omega)]
    exact e2
  · exact (two_box w o1 o2).trans ((below_new _ o3).mono (by rw [z2]; omega))
theorem RNW.below {w W V : World} {s : ByteArray} {p : Int} (h : RNW w W s p) (hb : Below W.heap.size W V) : RNW w V s p :=
  ⟨(hb.block _ (lt_of_heap h.r)).trans h.r, (hb.block _ (lt_of_heap h.o1)).trans h.o1, (hb.block _ (lt_of_heap h.o2)).trans h.o2, h.low.trans (hb.mono h.low.size)⟩
theorem RNW.move {w W : World} {s : ByteArray} {p : Int} (h : RNW w W s p) (q z : Int) (hz : z = q) : RNW w (W.setCell ⟨w.heap.size, 1, none⟩ (.int .i64 z)) s q := by
  subst hz
  refine ⟨?_, ?_, ?_, h.low.setCell (Nat.le_refl _) _⟩
  · simp [World.setCell, Array.getElem?_modify, h.r]
  · rw [Below.heap_setCell _ _ _ _ (Nat.ne_of_gt (Nat.lt_succ_self _))]
    exact h.o1
  · rw [Below.heap_setCell _ _ _ _ (show w.heap.size + 2 ≠ w.heap.size by omega)]
    exact h.o2
theorem RNW.out {w W : World} {s : ByteArray} {p : Int} (h : RNW w W s p) (a0 a1 a2 c0 c1 c2 c3 c4 c5 c6 : Value) :
    Below w.heap.size w ((((((((((W.setCell ⟨w.heap.size + 1, 0, none⟩ a0).setCell ⟨w.heap.size + 1, 1, none⟩ a1).setCell ⟨w.heap.size + 1, 2, none⟩ a2).setCell ⟨w.heap.size + 2, 0, none⟩ c0).setCell ⟨w.heap.size + 2, 1, none⟩ c1).setCell ⟨w.heap.size + 2, 2, none⟩ c2).setCell ⟨w.heap.size + 2, 3, none⟩ c3).setCell ⟨w.heap.size + 2, 4, none⟩ c4).setCell ⟨w.heap.size + 2, 5, none⟩ c5).setCell ⟨w.heap.size + 2, 6, none⟩ c6) := by
  iterate 7 refine Below.setCell ?_ (show w.heap.size ≤ w.heap.size + 2 by omega) _
  iterate 3 refine Below.setCell ?_ (show w.heap.size ≤ w.heap.size + 1 by omega) _
  exact h.low
/-- How the reading of a number ends. -/
def ToldNr (s : ByteArray) (p : Nat) (r : Res Unit) (w : World) (e : Ending) (w' : World) : Prop := match r with
  | .ok _ u => ∃ P : Nat, p < P ∧ P - p ≤ 64 ∧ P ≤ s.size ∧ s.data.toList.drop P = u ∧ e = .returned (.tuple #[.agg #[.string s, .int .i64 (P : Int), .int .i64 0], numCells (s.extract p P) (numN ((s.data.toList.drop p).take (P - p)))]) ∧ Below w.heap.size w w'
  | .err k u => ∃ P : Nat, p ≤ P ∧ P ≤ s.size ∧ s.data.toList.drop P = u ∧ e = .returned (.tuple #[.agg #[.string s, .int .i64 (P : Int), .int .i64 (k : Int)], .agg #[.int .i64 0, .bool false, .string ⟨#[]⟩, .int .i64 0, .bool false, .slice none 0 0, .slice none 0 0]]) ∧ Below w.heap.size w w'
/-- The state behind a byte as the text keeps it. -/
def tov (q X : Nat) : Int := match nstepN q X with
  | none => -1
  | some k => (k : Int)
theorem tov_none {q X : Nat} (h : nstepN q X = none) : tov q X = -1 := by unfold tov; rw [h]
theorem tov_some {q X k : Nat} (h : nstepN q X = some k) : tov q X = (k : Int) := by unfold tov; rw [h]
theorem nstep_le {q X k : Nat} (h : nstepN q X = some k) : k ≤ 8 := by
  unfold nstepN at h
  (repeat' split at h) <;> first | (injection h with h; omega) | cases h
end Go.Proofs.YtkoeihliaandeaaGreatDoor
