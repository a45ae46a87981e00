/- A request that goes on, by the document. -/
import Derived.Test.YtnlmjlfoeodleaaGreatDoorOQRef
namespace Go.Proofs.YtnlmjlfoeodleaaGreatDoor
open Go.RowKit

set_option maxRecDepth 20000 in
set_option maxHeartbeats 4000000 in
theorem dsized (p : Option Addr) (n c e : Nat) (w : World) : Calls Tryz.prog 56 #[.slice p n c, .int .i64 (e : Int)] w fun r w' => r = .returned (.int .i64 (greatE n e : Int)) ∧ w' = w := by
  by_cases h1 : 64 < n
  · have HT := hid (show greatE n e = 21 from by unfold greatE; rw [if_pos h1])
    rw [HT.out]
    have h2 : (n : Int) > 64 := by omega
    go_enter Tryz.func56, Tryz.ntmps56
    go_wp2
    go_ret
    exact ⟨rfl, rfl⟩
  · have h2 : ¬ (n : Int) > 64 := by omega
    by_cases h22 : e = 22
    · subst h22
      have HT := hid (show greatE n 22 = 22 from by unfold greatE; rw [if_neg h1, if_pos rfl])
      rw [HT.out]
      go_enter Tryz.func56, Tryz.ntmps56
      go_wp2
      go_ret
      exact ⟨rfl, rfl⟩
    · have HT := hid (show greatE n e = 0 from by unfold greatE; rw [if_neg h1, if_neg h22])
      rw [HT.out]
      have h23 : ((e : Int) == 22) = false := by simp; omega
      have h24 : ¬ (e : Int) = 22 := by omega
      go_enter Tryz.func56, Tryz.ntmps56
      go_wp2
      go_ret
      exact ⟨rfl, rfl⟩
theorem fat_some {W : World} {q : Option Addr} {F : List (B × B)} (h : FAt W q F) (hF : F ≠ []) : q ≠ none := by
  intro e
  rw [e] at h
  exact hF (fat_nilW h)
theorem own_argsO {W : World} {b n d : Nat} {q : Option Addr} {fs : List (B × B)} (h : OwnF W b (.slice q n d) fs) : q = none → d = 0 := by
  rcases h.2 with ⟨h1, _⟩ | ⟨g, cap, cur, h1, _, _, h4, _⟩
  · cases h1
    exact fun _ => rfl
  · cases h1
    exact fun e => by cases e
structure RtD (w W : World) (A : Array Value) (q : Option Addr) (g9 : Nat) (F : List (B × B)) : Prop where
  low : Below w.heap.size w W
  rz : W.heap[w.heap.size + 1]? = some (.cells #[.string ⟨#[]⟩, .string ⟨#[]⟩, .int .i64 0, .slice none 0 0] 54 (0, 0))
  nw : W.heap[g9]? = some (.cells A 54 (0, 0))
  row : FAt W q F
theorem RtD.next {w W W' : World} {A : Array Value} {q : Option Addr} {g9 : Nat} {F : List (B × B)} (h : RtD w W A q g9 F) (hb : Below W.heap.size W W') : RtD w W' A q g9 F := ⟨below_out h.low hb, (hb.block _ (lt_of_heap h.rz)).trans h.rz, (hb.block _ (lt_of_heap h.nw)).trans h.nw, h.row.next hb⟩
/-- What the document's Request answers. -/
def DAns (m t : B) (F : List (B × B)) (w : World) (e : Ending) (w' : World) : Prop :=
  (greatE F.length (reqE m t 1 F) ≠ 0 ∧ e = .returned (.tuple #[.agg #[.string ⟨#[]⟩, .string ⟨#[]⟩, .int .i64 0, .slice none 0 0], .int .i64 (greatE F.length (reqE m t 1 F) : Int)]) ∧ Below w.heap.size w w') ∨
  (greatE F.length (reqE m t 1 F) = 0 ∧ ∃ q d, e = .returned (.tuple #[.agg #[.string (str m), .string (str t), .int .i64 1, .slice q F.length d], .int .i64 0]) ∧ FAt w' q F ∧ Below w.heap.size w w')
end Go.Proofs.YtnlmjlfoeodleaaGreatDoor
/- The law of requests that go on. -/
namespace Go.Proofs.YtnlmjlfoeodleaaGreatDoor
open Go.RowKit

set_option maxRecDepth 20000 in
set_option maxHeartbeats 4000000 in
theorem lnum (k : Nat) (w : World) : Calls Tryz.prog 24 #[errOf k] w fun e w' => e = .returned (.int .i64 (k : Int)) ∧ w' = w := by
  by_cases h : k = 0
  · subst h
    rw [show errOf 0 = .nilIface from rfl]
    go_enter Tryz.func24, Tryz.ntmps24
    go_wp2
    go_ret
    exact ⟨rfl, rfl⟩
  · rw [errOf_pos h]
    have ha := fun W => assertE (.int .i64 (k : Int)) W
    go_enter Tryz.func24, Tryz.ntmps24
    go_wp2
    go_ret
    exact ⟨rfl, rfl⟩
/-- What the law carries along: what was handed in, and its copy with fields of its own. -/
structure LQs (w W : World) (A X : Array Value) (q : Option Addr) (n d : Nat) (fs : List (B × B)) : Prop where
  low : Below w.heap.size w W
  bx : W.heap[w.heap.size]? = some (.cells A 54 (0, 0))
  xb : W.heap[w.heap.size + 1]? = some (.cells X 54 (0, 0))
  own : OwnF W (w.heap.size + 2) (.slice q n d) fs
theorem LQs.next {w W W' : World} {A X : Array Value} {q : Option Addr} {n d : Nat} {fs : List (B × B)} (h : LQs w W A X q n d fs) (hb : Below W.heap.size W W') : LQs w W' A X q n d fs := ⟨below_out h.low hb, (hb.block _ (lt_of_heap h.bx)).trans h.bx, (hb.block _ (lt_of_heap h.xb)).trans h.xb, h.own.keep hb⟩
theorem one3 {W : World} {g : Nat} {x0 x1 x2 x3 : Value} {T : TypeId} {fr : Nat × Nat} (h : W.heap[g]? = some (.cells #[x0, x1, x2, x3] T fr)) (v : Value) : (W.setCell ⟨g, 3, none⟩ v).heap[g]? = some (.cells #[x0, x1, x2, v] T fr) := by
  simp [World.setCell, Array.getElem?_modify, h]
theorem oth3 {W : World} {g j : Nat} (v : Value) (h : j ≠ g) : (W.setCell ⟨g, 3, none⟩ v).heap[j]? = W.heap[j]? := by
  simp [World.setCell, Array.getElem?_modify, Ne.symm h]
theorem LQs.start {w w1 : World} {x0 x1 x2 x3 : Value} {q : Option Addr} {n d : Nat} {fs : List (B × B)} (hb : Below ((w.alloc (.cells #[x0, x1, x2, x3] 54 (0, 0))).alloc (.cells #[x0, x1, x2, x3] 54 (0, 0))).heap.size ((w.alloc (.cells #[x0, x1, x2, x3] 54 (0, 0))).alloc (.cells #[x0, x1, x2, x3] 54 (0, 0))) w1) (ho : OwnF w1 ((w.alloc (.cells #[x0, x1, x2, x3] 54 (0, 0))).alloc (.cells #[x0, x1, x2, x3] 54 (0, 0))).heap.size (.slice q n d) fs) : w1.heap[w.heap.size + 1]? = some (.cells #[x0, x1, x2, x3] 54 (0, 0)) ∧ LQs w (w1.setCell ⟨w.heap.size + 1, 3, none⟩ (.slice q n d)) #[x0, x1, x2, x3] #[x0, x1, x2, .slice q n d] q n d fs := by
  have h1 := below_new w (.cells #[x0, x1, x2, x3] 54 (0, 0))
  have h2 := below_new (w.alloc (.cells #[x0, x1, x2, x3] 54 (0, 0))) (.cells #[x0, x1, x2, x3] 54 (0, 0))
  have z1 : (w.alloc (.cells #[x0, x1, x2, x3] 54 (0, 0))).heap.size = w.heap.size + 1 := by simp
  have z2 : ((w.alloc (.cells #[x0, x1, x2, x3] 54 (0, 0))).alloc (.cells #[x0, x1, x2, x3] 54 (0, 0))).heap.size = w.heap.size + 2 := by simp
  have e1 : w1.heap[w.heap.size + 1]? = some (.cells #[x0, x1, x2, x3] 54 (0, 0)) := by
    rw [hb.block _ (by rw [z2]; omega)]
    have h9 := heap_alloc_new (w.alloc (.cells #[x0, x1, x2, x3] 54 (0, 0))) (.cells #[x0, x1, x2, x3] 54 (0, 0))
    rw [z1] at h9
    exact h9
  have e0 : w1.heap[w.heap.size]? = some (.cells #[x0, x1, x2, x3] 54 (0, 0)) := by
    rw [hb.block _ (by rw [z2]; omega), h2.block _ (by rw [z1]; omega)]
    exact heap_alloc_new w _
  refine ⟨e1, Below.setCell (below_out (below_out h1 h2) hb) (Nat.le_succ _) _, ?_, one3 e1 _, ?_⟩
  · rw [oth3 _ (by omega)]
    exact e0
  · rw [z2] at ho
    refine ⟨ho.1, ?_⟩
    rcases ho.2 with h' | ⟨g, cap, cur, a1, a2, a3, a4⟩
    · exact .inl h'
    · exact .inr ⟨g, cap, cur, a1, a2, by rw [oth3 _ (by omega)]; exact a3, a4⟩
end Go.Proofs.YtnlmjlfoeodleaaGreatDoor
