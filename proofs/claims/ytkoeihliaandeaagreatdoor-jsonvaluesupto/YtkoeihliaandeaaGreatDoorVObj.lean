/- A value that is being put together: its parts and its names. -/
import Derived.Test.YtkoeihliaandeaaGreatDoorName
import Derived.Maps.AppendAt
namespace Go.Proofs.YtkoeihliaandeaaGreatDoor
open Go.RowKit

/-- The values of a row, one behind the other. -/
def Rows (w : World) (F : Nat → Prop) (ls : List JV) (xs : List Value) : Prop := xs.length = 7 * ls.length ∧ ∀ i t, ls[i]? = some t → ValIs w F t ((xs.drop (7 * i)).take 7)
/-- Block v is a value of kind k with these parts and names, whose rows lie from base on. -/
structure VObj (w : World) (v base : Nat) (k : Int) (ls : List JV) (ns : List B) (lv nv : Value) (xs : List Value) (F : Nat → Prop) : Prop where
  row : w.heap[v]? = some (.cells #[.int .i64 k, .bool false, .string ⟨#[]⟩, .int .i64 0, .bool false, lv, nv] 25 (0, 0))
  list : w.ownsRow base 25 7 lv ls.length xs
  names : w.ownsRow base 9 1 nv ns.length (ns.map fun t => .string (str t))
  vals : Rows w F ls xs
  foot : ∀ j, F j → base ≤ j ∧ j < w.heap.size ∧ lv.ownBlock ≠ some j ∧ nv.ownBlock ≠ some j
  lt : v < base
  le : base ≤ w.heap.size
theorem VObj.keep {w w' : World} {v base : Nat} {k : Int} {ls : List JV} {ns : List B} {lv nv : Value} {xs : List Value} {F : Nat → Prop} {o : Option Nat} (h : VObj w v base k ls ns lv nv xs F) (hg : w.grownBy w' o)
    (hv : some v ≠ o) (hl : lv.ownBlock = none ∨ lv.ownBlock ≠ o) (hn : nv.ownBlock = none ∨ nv.ownBlock ≠ o) (hf : ∀ j, F j → some j ≠ o) : VObj w' v base k ls ns lv nv xs F := by
  have hvlt : v < w.heap.size := Nat.lt_of_lt_of_le h.lt h.le
  refine ⟨(hg.block v hvlt hv).trans h.row, h.list.kept hg hl, h.names.kept hg hn, ⟨h.vals.1, fun i t hi => ?_⟩, fun j hj => ?_, h.lt, Nat.le_trans h.le hg.size⟩
  · exact ValIs.keep (fun j hj => hg.block j (h.foot j hj).2.1 (hf j hj)) (fun _ x => x) t _ (h.vals.2 i t hi)
  · obtain ⟨a, b, c, d⟩ := h.foot j hj
    exact ⟨a, Nat.lt_of_lt_of_le b hg.size, c, d⟩
/-- The reader moves on, or new memory is laid: nothing of it turns. -/
theorem VObj.turn {w w' : World} {v base b : Nat} {k : Int} {ls : List JV} {ns : List B} {lv nv : Value} {xs : List Value} {F : Nat → Prop} (h : VObj w v base k ls ns lv nv xs F) (ht : Turn b w w') (hb : b < base) (hne : b ≠ v) : VObj w' v base k ls ns lv nv xs F := by
  have key : ∀ (u : Value) (n m : Nat) (e : TypeId) (ys : List Value), w.ownsRow base e m u n ys → u.ownBlock = none ∨ u.ownBlock ≠ some b := by
    intro u n m e ys hu
    rcases ho : u.ownBlock with _ | g
    · exact .inl rfl
    · right
      rcases hu.2 with ⟨rfl, _⟩ | ⟨g', cap, cur, rfl, hg', _⟩
      · simp [Value.ownBlock] at ho
      · simp [Value.ownBlock] at ho
        subst ho
        simp
        omega
  exact h.keep ht.toGrown (by simpa using hne.symm) (key _ _ _ _ _ h.list) (key _ _ _ _ _ h.names) (fun j hj => by have := (h.foot j hj).1; simp; omega)
end Go.Proofs.YtkoeihliaandeaaGreatDoor
namespace Go.Proofs.YtkoeihliaandeaaGreatDoor
open Go.RowKit

theorem wp_append_own_at {P : Program} {w : World} {o : Oper} {a : Act} {K : Act → World → Prop} {Q : Exit → Act → World → Prop} (s x : Operand) (t : TypeId)
    (ho : o.op = .call { callee := .builtin .append, args := #[s, x], argTypes := #[t, t] })
    (base : Nat) (e : TypeId) (i : TypeInfo) (z : Value) (size bytes : Nat) (ht : P.underlying t = some (.slice e)) (hi : P.info? e = some i) (hz : i.zero = some z)
    (hsize : i.size = size) (hby : i.bytes = bytes) (hzs : z.cells.size = size) (hsz : 0 < size)
    (v : Value) (n : Nat) (xs : List Value) (hs : a.eval s = v) (hown : w.ownsRow base e size v n xs)
    (ad : Addr) (m c : Nat) (news : List Value) (hx : a.eval x = .slice (some ad) m c) (hl : news.length = m * size) (hnews : ∀ j u, news[j]? = some u → w.cell? (ad.add j) = some u) (h1 : ∀ u ∈ news, u.oneCell' = true)
    (h63 : n + m ≤ maxLen) (hbytes : (n + m) * bytes ≤ 140737488355328) (hbase : base ≤ w.heap.size)
    (h : ∀ v' w', w'.ownsRow base e size v' (n + m) (xs ++ news) → w.grownBy w' v.ownBlock → (v'.ownBlock = v.ownBlock ∨ v'.ownBlock = some w.heap.size) → K (a.put o.dst v') w') : o.wp P a w K Q := by
  obtain ⟨v', w', hr, h2, h3, _, h5⟩ := run_append_own_at (P := P) w base t o.type e i z size bytes ht hi hz hsize hby hzs hsz v n xs hown ad m c news hl hnews h1 h63 hbytes hbase
  unfold Oper.wp execOp
  simp only [ho, resolve, invoke, builtin, Sem.run_bind, Sem.run_pure, Result.andThen_ok, List.map_toArray, List.map_cons, List.map_nil, hs, hx, hr]
  exact h v' w' h2 h3 h5
def zero7 : List Value := [.int .i64 0, .bool false, .string ⟨#[]⟩, .int .i64 0, .bool false, .slice none 0 0, .slice none 0 0]
/-- Seven cells set behind those of a row. -/
theorem set7 {L xs r : List Value} (hL : L = xs ++ (zero7 ++ r)) (c0 c1 c2 c3 c4 c5 c6 : Value) :
    ((((((L.set xs.length c0).set (xs.length + 1) c1).set (xs.length + 2) c2).set (xs.length + 3) c3).set (xs.length + 4) c4).set (xs.length + 5) c5).set (xs.length + 6) c6 = xs ++ ([c0, c1, c2, c3, c4, c5, c6] ++ r) := by
  subst hL
  simp [zero7, List.set_append_right]
/-- The row with seven cells set. -/
def put7 (cur : Array Value) (o : Nat) (c0 c1 c2 c3 c4 c5 c6 : Value) : Array Value :=
  ((((((cur.setIfInBounds o c0).setIfInBounds (o + 1) c1).setIfInBounds (o + 2) c2).setIfInBounds (o + 3) c3).setIfInBounds (o + 4) c4).setIfInBounds (o + 5) c5).setIfInBounds (o + 6) c6
theorem put7_size (cur : Array Value) (o : Nat) (c0 c1 c2 c3 c4 c5 c6 : Value) : (put7 cur o c0 c1 c2 c3 c4 c5 c6).size = cur.size := by simp [put7]
theorem put7_take {cur : Array Value} {n : Nat} {xs : List Value} (hx : xs.length = n * 7) (h : cur.toList.take ((n + 1) * 7) = xs ++ zero7) (c0 c1 c2 c3 c4 c5 c6 : Value) :
    (put7 cur (n * 7) c0 c1 c2 c3 c4 c5 c6).toList.take ((n + 1) * 7) = xs ++ [c0, c1, c2, c3, c4, c5, c6] := by
  have hL : cur.toList = xs ++ (zero7 ++ cur.toList.drop ((n + 1) * 7)) := by
    rw [← List.append_assoc, ← h, List.take_append_drop]
  have := set7 hL c0 c1 c2 c3 c4 c5 c6
  unfold put7
  simp only [Array.toList_setIfInBounds]
  rw [← hx, this, ← List.append_assoc]
  apply List.take_left'
  simp [hx]
  omega
structure Put (U Wf : World) (g v : Nat) (cur' : Array Value) (kd : Int) (lv' nv : Value) : Prop where
  hv : Wf.heap[v]? = some (.cells #[.int .i64 kd, .bool false, .string ⟨#[]⟩, .int .i64 0, .bool false, lv', nv] 25 (0, 0))
  hg : Wf.heap[g]? = some (.cells cur' 25 (0, 0))
  other : ∀ k, k ≠ v → k ≠ g → Wf.heap[k]? = U.heap[k]?
  size : Wf.heap.size = U.heap.size
  os : Wf.os = U.os
  tape : Wf.tape = U.tape
  output : Wf.output = U.output
theorem os_set (w : World) (a : Addr) (c : Value) : (w.setCell a c).os = w.os := rfl
theorem tape_set (w : World) (a : Addr) (c : Value) : (w.setCell a c).tape = w.tape := rfl
theorem output_set (w : World) (a : Addr) (c : Value) : (w.setCell a c).output = w.output := rfl
theorem size_set (w : World) (a : Addr) (c : Value) : (w.setCell a c).heap.size = w.heap.size := by simp [World.setCell]
theorem heap7 {U : World} {g o : Nat} {cur : Array Value} {T : TypeId} {fr : Nat × Nat} (h : U.heap[g]? = some (.cells cur T fr)) (c0 c1 c2 c3 c4 c5 c6 : Value) :
    (((((((U.setCell ⟨g, o, none⟩ c0).setCell ⟨g, o + 1, none⟩ c1).setCell ⟨g, o + 2, none⟩ c2).setCell ⟨g, o + 3, none⟩ c3).setCell ⟨g, o + 4, none⟩ c4).setCell ⟨g, o + 5, none⟩ c5).setCell ⟨g, o + 6, none⟩ c6).heap[g]? = some (.cells (put7 cur o c0 c1 c2 c3 c4 c5 c6) T fr) := by
  simp [World.setCell, Array.getElem?_modify, h, put7]
theorem other7 {U : World} {g o k : Nat} (hk : k ≠ g) (c0 c1 c2 c3 c4 c5 c6 : Value) : (((((((U.setCell ⟨g, o, none⟩ c0).setCell ⟨g, o + 1, none⟩ c1).setCell ⟨g, o + 2, none⟩ c2).setCell ⟨g, o + 3, none⟩ c3).setCell ⟨g, o + 4, none⟩ c4).setCell ⟨g, o + 5, none⟩ c5).setCell ⟨g, o + 6, none⟩ c6).heap[k]? = U.heap[k]? := by
  iterate 7 rw [Below.heap_setCell _ _ _ _ (by exact hk)]
theorem heap5 {U : World} {v : Nat} {a0 a1 a2 a3 a4 a5 a6 : Value} {T : TypeId} {fr : Nat × Nat} (h : U.heap[v]? = some (.cells #[a0, a1, a2, a3, a4, a5, a6] T fr)) (c : Value) : (U.setCell ⟨v, 5, none⟩ c).heap[v]? = some (.cells #[a0, a1, a2, a3, a4, c, a6] T fr) := by
  simp [World.setCell, Array.getElem?_modify, h]
theorem put_A {U : World} {g v o : Nat} {cur : Array Value} {kd : Int} {lv lv' nv : Value} (hg : U.heap[g]? = some (.cells cur 25 (0, 0))) (hv : U.heap[v]? = some (.cells #[.int .i64 kd, .bool false, .string ⟨#[]⟩, .int .i64 0, .bool false, lv, nv] 25 (0, 0))) (hne : v ≠ g) (c0 c1 c2 c3 c4 c5 c6 : Value) :
    Put U ((((((((U.setCell ⟨g, o, none⟩ c0).setCell ⟨g, o + 1, none⟩ c1).setCell ⟨g, o + 2, none⟩ c2).setCell ⟨g, o + 3, none⟩ c3).setCell ⟨g, o + 4, none⟩ c4).setCell ⟨g, o + 5, none⟩ c5).setCell ⟨g, o + 6, none⟩ c6).setCell ⟨v, 5, none⟩ lv') g v (put7 cur o c0 c1 c2 c3 c4 c5 c6) kd lv' nv := by
  refine ⟨heap5 ((other7 hne _ _ _ _ _ _ _).trans hv) _, ?_, fun k h1 h2 => ?_, by simp only [size_set], by simp only [os_set], by simp only [tape_set], by simp only [output_set]⟩
  · rw [Below.heap_setCell _ _ _ _ (by exact hne.symm)]
    exact heap7 hg _ _ _ _ _ _ _
  · rw [Below.heap_setCell _ _ _ _ (by exact h1)]
    exact other7 h2 _ _ _ _ _ _ _
theorem put_B {U : World} {g v o : Nat} {cur : Array Value} {kd : Int} {lv lv' nv : Value} (hg : U.heap[g]? = some (.cells cur 25 (0, 0))) (hv : U.heap[v]? = some (.cells #[.int .i64 kd, .bool false, .string ⟨#[]⟩, .int .i64 0, .bool false, lv, nv] 25 (0, 0))) (hne : v ≠ g) (c0 c1 c2 c3 c4 c5 c6 : Value) :
    Put U ((((((((U.setCell ⟨v, 5, none⟩ lv').setCell ⟨g, o, none⟩ c0).setCell ⟨g, o + 1, none⟩ c1).setCell ⟨g, o + 2, none⟩ c2).setCell ⟨g, o + 3, none⟩ c3).setCell ⟨g, o + 4, none⟩ c4).setCell ⟨g, o + 5, none⟩ c5).setCell ⟨g, o + 6, none⟩ c6) g v (put7 cur o c0 c1 c2 c3 c4 c5 c6) kd lv' nv := by
  refine ⟨(other7 hne _ _ _ _ _ _ _).trans (heap5 hv _), heap7 ((Below.heap_setCell _ _ _ _ (by exact hne.symm)).trans hg) _ _ _ _ _ _ _, fun k h1 h2 => ?_, by simp only [size_set], by simp only [os_set], by simp only [tape_set], by simp only [output_set]⟩
  rw [other7 h2]
  exact Below.heap_setCell _ _ _ _ (by exact h1)
theorem VObj.push {V U Wf : World} {v base g n cap : Nat} {kd : Int} {ls : List JV} {ns : List B} {p5 : Option Addr} {c5 : Nat} {nv : Value} {xs cs : List Value} {F F1 : Nat → Prop} {t : JV} {cur cur' : Array Value}
    (hO : VObj V v base kd ls ns (.slice p5 n c5) nv xs F) (hn : ls.length = n) (hg : V.grownBy U (Value.slice p5 n c5).ownBlock) (hloc : some g = (Value.slice p5 n c5).ownBlock ∨ g = V.heap.size)
    (hbg : base ≤ g) (hcap : n + 1 ≤ cap) (hmax : cap ≤ maxLen) (hsz : cur.size = cap * 7) (hc' : cur'.size = cur.size) (htake : cur'.toList.take ((n + 1) * 7) = xs ++ cs) (hcs : cs.length = 7)
    (ht : ValIs V F1 t cs) (hF1 : ∀ k, F1 k → base ≤ k ∧ k < V.heap.size ∧ (Value.slice p5 n c5).ownBlock ≠ some k ∧ nv.ownBlock ≠ some k) (hP : Put U Wf g v cur' kd (.slice (some ⟨g, 0, none⟩) (n + 1) cap) nv) :
    VObj Wf v base kd (ls ++ [t]) ns (.slice (some ⟨g, 0, none⟩) (n + 1) cap) nv (xs ++ cs) (fun k => F k ∨ F1 k) := by
  have hxs : xs.length = n * 7 := by rw [hO.list.1, hn]
  have hlt := hO.lt
  have foot : ∀ j, (F j ∨ F1 j) → base ≤ j ∧ j < V.heap.size ∧ (Value.slice p5 n c5).ownBlock ≠ some j ∧ nv.ownBlock ≠ some j := by
    rintro j (hj | hj)
    · exact hO.foot j hj
    · exact hF1 j hj
  have key : ∀ j, base ≤ j → j < V.heap.size → (Value.slice p5 n c5).ownBlock ≠ some j → j ≠ g ∧ Wf.heap[j]? = V.heap[j]? := by
    intro j h1 h2 h3
    have hjg : j ≠ g := by
      rintro rfl
      rcases hloc with h | h
      · exact h3 h.symm
      · omega
    exact ⟨hjg, (hP.other j (by omega) hjg).trans (hg.block j h2 (fun e => h3 e.symm))⟩
  refine ⟨hP.hv, ?_, ?_, ⟨by simp [hxs, hcs, hn]; omega, ?_⟩, ?_, hlt, ?_⟩
  · rw [List.length_append, hn]
    refine ⟨by simp [hxs, hcs]; omega, .inr ⟨g, cap, cur', rfl, hbg, hP.hg, hcap, hmax, by rw [hc', hsz], htake⟩⟩
  · refine ⟨hO.names.1, ?_⟩
    rcases hO.names.2 with ⟨h1, h2⟩ | ⟨g2, cap2, cur2, rfl, h1, h2, h3, h4, h5, h6⟩
    · exact .inl ⟨h1, h2⟩
    · right
      refine ⟨g2, cap2, cur2, rfl, h1, ?_, h3, h4, h5, h6⟩
      refine (key g2 h1 (lt_of_heap h2) ?_).2.trans h2
      intro e
      rcases hO.list.2 with ⟨h7, _⟩ | ⟨g3, cap3, cur3, h7, _, h8, _⟩
      · rw [h7] at e; simp [Value.ownBlock] at e
      · rw [h7] at e
        simp [Value.ownBlock] at e
        subst e
        rw [h8] at h2
        simp at h2
  · intro i x hi
    have keep := fun (y : JV) (zs : List Value) (G : Nat → Prop) (hG : ∀ k, G k → F k ∨ F1 k) (hy : ValIs V G y zs) => ValIs.keep (w' := Wf) (F' := fun k => F k ∨ F1 k) (fun j hj => (key j (foot j (hG j hj)).1 (foot j (hG j hj)).2.1 (foot j (hG j hj)).2.2.1).2) hG y zs hy
    rcases Nat.lt_or_ge i ls.length with hlt2 | hge
    · rw [List.getElem?_append_left hlt2] at hi
      have h1 := hO.vals.2 i x hi
      have e : ((xs ++ cs).drop (7 * i)).take 7 = (xs.drop (7 * i)).take 7 := by
        rw [List.drop_append_of_le_length (by omega), List.take_append_of_le_length (by simp; omega)]
      rw [e]
      exact keep x _ F (fun k hk => .inl hk) h1
    · have hi2 : i = ls.length := by
        have := (List.getElem?_eq_some_iff.1 hi).1
        simp at this
        omega
      subst hi2
      simp at hi
      subst hi
      have e : ((xs ++ cs).drop (7 * ls.length)).take 7 = cs := by
        rw [show 7 * ls.length = xs.length by omega, List.drop_left, List.take_of_length_le (by omega)]
      rw [e]
      exact keep t cs F1 (fun k hk => .inr hk) ht
  · intro j hj
    obtain ⟨h1, h2, h3, h4⟩ := foot j hj
    refine ⟨h1, ?_, ?_, h4⟩
    · rw [hP.size]; exact Nat.lt_of_lt_of_le h2 hg.size
    · intro e
      simp [Value.ownBlock] at e
      exact (key j h1 h2 h3).1 e.symm
  · rw [hP.size]
    exact Nat.le_trans hO.le hg.size
end Go.Proofs.YtkoeihliaandeaaGreatDoor
