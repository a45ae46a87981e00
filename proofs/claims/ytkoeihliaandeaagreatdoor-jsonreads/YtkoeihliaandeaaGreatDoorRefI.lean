/- The document's reading: a value. -/
import Derived.Test.YtkoeihliaandeaaGreatDoorRefH
import Derived.Test.YtkoeihliaandeaaGreatDoorRefM
namespace Go.Proofs.YtkoeihliaandeaaGreatDoor
open Go.RowKit

/-- A reading, the blocks of what is handed out, and a value in block g. -/
structure VA (w W : World) (s : ByteArray) (p k : Int) (g : Nat) (c0 c1 c2 c3 c4 c5 c6 : Value) : Prop where
  r : W.heap[w.heap.size]? = some (.cells #[.string s, .int .i64 p, .int .i64 k] 49 (0, 0))
  o1 : W.heap[w.heap.size + 1]? = some (.cells #[.string ⟨#[]⟩, .int .i64 0, .int .i64 0] 49 (0, 0))
  o2 : W.heap[w.heap.size + 2]? = some (.cells #[.int .i64 0, .bool false, .string ⟨#[]⟩, .int .i64 0, .bool false, .slice none 0 0, .slice none 0 0] 25 (0, 0))
  v : W.heap[g]? = some (.cells #[c0, c1, c2, c3, c4, c5, c6] 25 (0, 0))
  hg : w.heap.size + 3 ≤ g
  low : Below w.heap.size w W
theorem VA.below {w W V : World} {s : ByteArray} {p k : Int} {g : Nat} {c0 c1 c2 c3 c4 c5 c6 : Value} (h : VA w W s p k g c0 c1 c2 c3 c4 c5 c6) (hb : Below W.heap.size W V) : VA w V s p k g c0 c1 c2 c3 c4 c5 c6 :=
  ⟨(hb.block _ (lt_of_heap h.r)).trans h.r, (hb.block _ (lt_of_heap h.o1)).trans h.o1, (hb.block _ (lt_of_heap h.o2)).trans h.o2, (hb.block _ (lt_of_heap h.v)).trans h.v, h.hg, h.low.trans (hb.mono h.low.size)⟩
theorem VA.put {w W : World} {s : ByteArray} {p k : Int} {g : Nat} {c0 c1 c2 c3 c4 c5 c6 : Value} (h : VA w W s p k g c0 c1 c2 c3 c4 c5 c6) (s' : ByteArray) (q j : Int) : VA w (((W.setCell ⟨w.heap.size, 0, none⟩ (.string s')).setCell ⟨w.heap.size, 1, none⟩ (.int .i64 q)).setCell ⟨w.heap.size, 2, none⟩ (.int .i64 j)) s' q j g c0 c1 c2 c3 c4 c5 c6 := by
  have hg := h.hg
  refine ⟨three_put (has_three h.r) _ _ _, (three_other (by omega) _ _ _).trans h.o1, (three_other (by omega) _ _ _).trans h.o2, (three_other (by omega) _ _ _).trans h.v, hg, ?_⟩
  iterate 3 refine Below.setCell ?_ (show w.heap.size ≤ w.heap.size from Nat.le_refl _) _
  exact h.low
theorem VA.move {w W : World} {s : ByteArray} {p k : Int} {g : Nat} {c0 c1 c2 c3 c4 c5 c6 : Value} (h : VA w W s p k g c0 c1 c2 c3 c4 c5 c6) (q : Int) : VA w (W.setCell ⟨w.heap.size, 1, none⟩ (.int .i64 q)) s q k g c0 c1 c2 c3 c4 c5 c6 := by
  have hg := h.hg
  refine ⟨?_, ?_, ?_, ?_, hg, h.low.setCell (show w.heap.size ≤ w.heap.size from Nat.le_refl _) _⟩
  · simp [World.setCell, Array.getElem?_modify, h.r]
  · rw [Below.heap_setCell _ _ _ _ (show w.heap.size + 1 ≠ w.heap.size by omega)]
    exact h.o1
  · rw [Below.heap_setCell _ _ _ _ (show w.heap.size + 2 ≠ w.heap.size by omega)]
    exact h.o2
  · rw [Below.heap_setCell _ _ _ _ (show g ≠ w.heap.size by omega)]
    exact h.v
theorem VA.putv {w W : World} {s : ByteArray} {p k : Int} {g : Nat} {c0 c1 c2 c3 c4 c5 c6 : Value} (h : VA w W s p k g c0 c1 c2 c3 c4 c5 c6) (d0 d1 d2 d3 d4 d5 d6 : Value) : VA w (((((((W.setCell ⟨g, 0, none⟩ d0).setCell ⟨g, 1, none⟩ d1).setCell ⟨g, 2, none⟩ d2).setCell ⟨g, 3, none⟩ d3).setCell ⟨g, 4, none⟩ d4).setCell ⟨g, 5, none⟩ d5).setCell ⟨g, 6, none⟩ d6) s p k g d0 d1 d2 d3 d4 d5 d6 := by
  have hg := h.hg
  refine ⟨(seven_other (by omega) _ _ _ _ _ _ _).trans h.r, (seven_other (by omega) _ _ _ _ _ _ _).trans h.o1, (seven_other (by omega) _ _ _ _ _ _ _).trans h.o2, seven_put (has_seven h.v) _ _ _ _ _ _ _, hg, ?_⟩
  iterate 7 refine Below.setCell ?_ (show w.heap.size ≤ g by omega) _
  exact h.low
theorem VA.set0 {w W : World} {s : ByteArray} {p k : Int} {g : Nat} {c0 c1 c2 c3 c4 c5 c6 : Value} (h : VA w W s p k g c0 c1 c2 c3 c4 c5 c6) (d : Value) : VA w (W.setCell ⟨g, 0, none⟩ d) s p k g d c1 c2 c3 c4 c5 c6 := by
  have hg := h.hg
  refine ⟨?_, ?_, ?_, ?_, hg, h.low.setCell (show w.heap.size ≤ g by omega) _⟩
  · rw [Below.heap_setCell _ _ _ _ (show w.heap.size ≠ g by omega)]; exact h.r
  · rw [Below.heap_setCell _ _ _ _ (show w.heap.size + 1 ≠ g by omega)]; exact h.o1
  · rw [Below.heap_setCell _ _ _ _ (show w.heap.size + 2 ≠ g by omega)]; exact h.o2
  · simp [World.setCell, Array.getElem?_modify, h.v]
theorem VA.set2 {w W : World} {s : ByteArray} {p k : Int} {g : Nat} {c0 c1 c2 c3 c4 c5 c6 : Value} (h : VA w W s p k g c0 c1 c2 c3 c4 c5 c6) (d : Value) : VA w (W.setCell ⟨g, 2, none⟩ d) s p k g c0 c1 d c3 c4 c5 c6 := by
  have hg := h.hg
  refine ⟨?_, ?_, ?_, ?_, hg, h.low.setCell (show w.heap.size ≤ g by omega) _⟩
  · rw [Below.heap_setCell _ _ _ _ (show w.heap.size ≠ g by omega)]; exact h.r
  · rw [Below.heap_setCell _ _ _ _ (show w.heap.size + 1 ≠ g by omega)]; exact h.o1
  · rw [Below.heap_setCell _ _ _ _ (show w.heap.size + 2 ≠ g by omega)]; exact h.o2
  · simp [World.setCell, Array.getElem?_modify, h.v]
theorem VA.outB {w W : World} {s : ByteArray} {p k : Int} {g : Nat} {c0 c1 c2 c3 c4 c5 c6 : Value} (h : VA w W s p k g c0 c1 c2 c3 c4 c5 c6) (a0 a1 a2 d0 d1 d2 d3 d4 d5 d6 : Value) :
    Below w.heap.size w ((((((((((W.setCell ⟨w.heap.size + 1, 0, none⟩ a0).setCell ⟨w.heap.size + 1, 1, none⟩ a1).setCell ⟨w.heap.size + 1, 2, none⟩ a2).setCell ⟨w.heap.size + 2, 0, none⟩ d0).setCell ⟨w.heap.size + 2, 1, none⟩ d1).setCell ⟨w.heap.size + 2, 2, none⟩ d2).setCell ⟨w.heap.size + 2, 3, none⟩ d3).setCell ⟨w.heap.size + 2, 4, none⟩ d4).setCell ⟨w.heap.size + 2, 5, none⟩ d5).setCell ⟨w.heap.size + 2, 6, none⟩ d6) := by
  iterate 7 refine Below.setCell ?_ (show w.heap.size ≤ w.heap.size + 2 by omega) _
  iterate 3 refine Below.setCell ?_ (show w.heap.size ≤ w.heap.size + 1 by omega) _
  exact h.low
theorem val_out {w W : World} {F : Nat → Prop} {t : JV} {cs : List Value} (hv : ValIs W F t cs) (hF : ∀ j, F j → w.heap.size + 3 ≤ j ∧ j < W.heap.size) (a0 a1 a2 d0 d1 d2 d3 d4 d5 d6 : Value) :
    ValIs ((((((((((W.setCell ⟨w.heap.size + 1, 0, none⟩ a0).setCell ⟨w.heap.size + 1, 1, none⟩ a1).setCell ⟨w.heap.size + 1, 2, none⟩ a2).setCell ⟨w.heap.size + 2, 0, none⟩ d0).setCell ⟨w.heap.size + 2, 1, none⟩ d1).setCell ⟨w.heap.size + 2, 2, none⟩ d2).setCell ⟨w.heap.size + 2, 3, none⟩ d3).setCell ⟨w.heap.size + 2, 4, none⟩ d4).setCell ⟨w.heap.size + 2, 5, none⟩ d5).setCell ⟨w.heap.size + 2, 6, none⟩ d6)
      (fun j => w.heap.size ≤ j ∧ j < ((((((((((W.setCell ⟨w.heap.size + 1, 0, none⟩ a0).setCell ⟨w.heap.size + 1, 1, none⟩ a1).setCell ⟨w.heap.size + 1, 2, none⟩ a2).setCell ⟨w.heap.size + 2, 0, none⟩ d0).setCell ⟨w.heap.size + 2, 1, none⟩ d1).setCell ⟨w.heap.size + 2, 2, none⟩ d2).setCell ⟨w.heap.size + 2, 3, none⟩ d3).setCell ⟨w.heap.size + 2, 4, none⟩ d4).setCell ⟨w.heap.size + 2, 5, none⟩ d5).setCell ⟨w.heap.size + 2, 6, none⟩ d6).heap.size) t cs := by
  rw [out_size]
  exact ValIs.keep (fun j hj => by have := (hF j hj).1; exact out_keep (by omega) (by omega) _ _ _ _ _ _ _ _ _ _) (fun j hj => by have := hF j hj; exact ⟨by omega, this.2⟩) _ _ hv
/-- A reading stored, then a value: what lay in memory besides is as it was. -/
theorem rv_keep {U : World} {b g k : Nat} (h1 : k ≠ b) (h2 : k ≠ g) (a0 a1 a2 d0 d1 d2 d3 d4 d5 d6 : Value) : ((((((((((U.setCell ⟨b, 0, none⟩ a0).setCell ⟨b, 1, none⟩ a1).setCell ⟨b, 2, none⟩ a2).setCell ⟨g, 0, none⟩ d0).setCell ⟨g, 1, none⟩ d1).setCell ⟨g, 2, none⟩ d2).setCell ⟨g, 3, none⟩ d3).setCell ⟨g, 4, none⟩ d4).setCell ⟨g, 5, none⟩ d5).setCell ⟨g, 6, none⟩ d6).heap[k]? = U.heap[k]? := by
  rw [seven_other h2, three_other h1]
theorem rv_size (U : World) (b g : Nat) (a0 a1 a2 d0 d1 d2 d3 d4 d5 d6 : Value) : ((((((((((U.setCell ⟨b, 0, none⟩ a0).setCell ⟨b, 1, none⟩ a1).setCell ⟨b, 2, none⟩ a2).setCell ⟨g, 0, none⟩ d0).setCell ⟨g, 1, none⟩ d1).setCell ⟨g, 2, none⟩ d2).setCell ⟨g, 3, none⟩ d3).setCell ⟨g, 4, none⟩ d4).setCell ⟨g, 5, none⟩ d5).setCell ⟨g, 6, none⟩ d6).heap.size = U.heap.size := by
  simp only [size_set]
theorem VA.start {w w1 W : World} {s : ByteArray} {p q : Int} (hb : Below (((w.alloc (.cells #[.string s, .int .i64 p, .int .i64 0] 49 (0, 0))).alloc (.cells #[.string ⟨#[]⟩, .int .i64 0, .int .i64 0] 49 (0, 0))).alloc (.cells #[.int .i64 0, .bool false, .string ⟨#[]⟩, .int .i64 0, .bool false, .slice none 0 0, .slice none 0 0] 25 (0, 0))).heap.size (((w.alloc (.cells #[.string s, .int .i64 p, .int .i64 0] 49 (0, 0))).alloc (.cells #[.string ⟨#[]⟩, .int .i64 0, .int .i64 0] 49 (0, 0))).alloc (.cells #[.int .i64 0, .bool false, .string ⟨#[]⟩, .int .i64 0, .bool false, .slice none 0 0, .slice none 0 0] 25 (0, 0))) w1)
    (hW : W = (((w1.setCell ⟨w.heap.size, 0, none⟩ (.string s)).setCell ⟨w.heap.size, 1, none⟩ (.int .i64 q)).setCell ⟨w.heap.size, 2, none⟩ (.int .i64 0)).alloc (.cells #[.int .i64 0, .bool false, .string ⟨#[]⟩, .int .i64 0, .bool false, .slice none 0 0, .slice none 0 0] 25 (0, 0))) : VA w W s q 0 w1.heap.size (.int .i64 0) (.bool false) (.string ⟨#[]⟩) (.int .i64 0) (.bool false) (.slice none 0 0) (.slice none 0 0) := by
  obtain ⟨a1, a2, a3, a4, a5⟩ := three_new w (.cells #[.string s, .int .i64 p, .int .i64 0] 49 (0, 0)) (.cells #[.string ⟨#[]⟩, .int .i64 0, .int .i64 0] 49 (0, 0)) (.cells #[.int .i64 0, .bool false, .string ⟨#[]⟩, .int .i64 0, .bool false, .slice none 0 0, .slice none 0 0] 25 (0, 0))
  have hsz := hb.size
  have b3 := (hb.block _ (by omega)).trans a3
  have b4 := (hb.block _ (by omega)).trans a4
  have b5 := (hb.block _ (by omega)).trans a5
  have hl := a1.trans (hb.mono (by omega))
  subst hW
  have nb := below_new (((w1.setCell ⟨w.heap.size, 0, none⟩ (.string s)).setCell ⟨w.heap.size, 1, none⟩ (.int .i64 q)).setCell ⟨w.heap.size, 2, none⟩ (.int .i64 0)) (.cells #[.int .i64 0, .bool false, .string ⟨#[]⟩, .int .i64 0, .bool false, .slice none 0 0, .slice none 0 0] 25 (0, 0))
  have hn := heap_alloc_new (((w1.setCell ⟨w.heap.size, 0, none⟩ (.string s)).setCell ⟨w.heap.size, 1, none⟩ (.int .i64 q)).setCell ⟨w.heap.size, 2, none⟩ (.int .i64 0)) (.cells #[.int .i64 0, .bool false, .string ⟨#[]⟩, .int .i64 0, .bool false, .slice none 0 0, .slice none 0 0] 25 (0, 0))
  have es : (((w1.setCell ⟨w.heap.size, 0, none⟩ (.string s)).setCell ⟨w.heap.size, 1, none⟩ (.int .i64 q)).setCell ⟨w.heap.size, 2, none⟩ (.int .i64 0)).heap.size = w1.heap.size := by simp only [size_set]
  have r1 := three_put (has_three b3) (.string s) (.int .i64 q) (.int .i64 0)
  have r2 := (three_other (show w.heap.size + 1 ≠ w.heap.size by omega) (.string s) (.int .i64 q) (.int .i64 0)).trans b4
  have r3 := (three_other (show w.heap.size + 1 + 1 ≠ w.heap.size by omega) (.string s) (.int .i64 q) (.int .i64 0)).trans b5
  rw [es] at hn
  refine ⟨(nb.block _ (lt_of_heap r1)).trans r1, (nb.block _ (lt_of_heap r2)).trans r2, (nb.block _ (lt_of_heap r3)).trans r3, hn, by omega, ?_⟩
  refine Below.trans ?_ (nb.mono (by rw [es]; omega))
  iterate 3 refine Below.setCell ?_ (show w.heap.size ≤ w.heap.size from Nat.le_refl _) _
  exact hl
structure StV (w U : World) (s : ByteArray) (P : Int) (g : Nat) (c0 c1 c2 c3 c4 c5 c6 : Value) : Prop where
  r : U.heap[w.heap.size]? = some (.cells #[.string s, .int .i64 P, .int .i64 0] 49 (0, 0))
  v : U.heap[g]? = some (.cells #[c0, c1, c2, c3, c4, c5, c6] 25 (0, 0))
  hg : w.heap.size + 3 ≤ g
theorem VA.st {w U : World} {s : ByteArray} {P : Int} {g : Nat} {c0 c1 c2 c3 c4 c5 c6 : Value} (h : VA w U s P 0 g c0 c1 c2 c3 c4 c5 c6) : StV w U s P g c0 c1 c2 c3 c4 c5 c6 := ⟨h.r, h.v, h.hg⟩
theorem StV.out1 {w U : World} {s : ByteArray} {P : Int} {g : Nat} {c0 c1 c2 c3 c4 c5 c6 : Value} (h : StV w U s P g c0 c1 c2 c3 c4 c5 c6) (a0 a1 a2 : Value) : StV w (((U.setCell ⟨w.heap.size + 1, 0, none⟩ a0).setCell ⟨w.heap.size + 1, 1, none⟩ a1).setCell ⟨w.heap.size + 1, 2, none⟩ a2) s P g c0 c1 c2 c3 c4 c5 c6 := by
  have hg := h.hg
  exact ⟨(three_other (by omega) _ _ _).trans h.r, (three_other (by omega) _ _ _).trans h.v, hg⟩
theorem StV.out2 {w U : World} {s : ByteArray} {P : Int} {g : Nat} {c0 c1 c2 c3 c4 c5 c6 : Value} (h : StV w U s P g c0 c1 c2 c3 c4 c5 c6) (a0 a1 a2 d0 d1 d2 d3 d4 d5 d6 : Value) : StV w ((((((((((U.setCell ⟨w.heap.size + 1, 0, none⟩ a0).setCell ⟨w.heap.size + 1, 1, none⟩ a1).setCell ⟨w.heap.size + 1, 2, none⟩ a2).setCell ⟨w.heap.size + 2, 0, none⟩ d0).setCell ⟨w.heap.size + 2, 1, none⟩ d1).setCell ⟨w.heap.size + 2, 2, none⟩ d2).setCell ⟨w.heap.size + 2, 3, none⟩ d3).setCell ⟨w.heap.size + 2, 4, none⟩ d4).setCell ⟨w.heap.size + 2, 5, none⟩ d5).setCell ⟨w.heap.size + 2, 6, none⟩ d6) s P g c0 c1 c2 c3 c4 c5 c6 := by
  have hg := h.hg
  exact ⟨(out_keep (by omega) (by omega) _ _ _ _ _ _ _ _ _ _).trans h.r, (out_keep (by omega) (by omega) _ _ _ _ _ _ _ _ _ _).trans h.v, hg⟩
theorem vw_list {f : B → Res JV} {l : B} (h : nx l = 91) : valWith (some f) l = nestR 5 (nestedS (listStep f) [93] ([], []) (l.drop 1)) := by
  unfold valWith
  rw [h, if_neg (by decide), if_neg (by decide), if_neg (by decide), if_neg (by decide), if_pos rfl]
  simp only
  cases nestedS (listStep f) [93] ([], []) (l.drop 1) <;> rfl
theorem vw_obj {f : B → Res JV} {l : B} (h : nx l = 123) : valWith (some f) l = nestR 6 (nestedS (objStep f) [125] ([], []) (l.drop 1)) := by
  unfold valWith
  rw [h, if_neg (by decide), if_neg (by decide), if_neg (by decide), if_neg (by decide), if_neg (by decide), if_pos rfl]
  simp only
  cases nestedS (objStep f) [125] ([], []) (l.drop 1) <;> rfl
theorem vw_deep {l : B} (h : nx l = 91 ∨ nx l = 123) : valWith none l = .err 5 l := by
  unfold valWith
  rcases h with h | h
  · rw [h, if_neg (by decide), if_neg (by decide), if_neg (by decide), if_neg (by decide), if_pos rfl]
  · rw [h, if_neg (by decide), if_neg (by decide), if_neg (by decide), if_neg (by decide), if_neg (by decide), if_pos rfl]
theorem vw_text {inner : Option (B → Res JV)} {l : B} (h : nx l = 34) : valWith inner l = match textQ l with
    | .err k u => .err k u
    | .ok bs u => .ok (.mk 4 false bs 0 false [] []) u := by
  unfold valWith textQ
  rw [h, if_neg (by decide), if_neg (by decide), if_neg (by decide), if_pos rfl, if_pos rfl]
  cases text l <;> rfl
theorem vw_null {inner : Option (B → Res JV)} {l : B} (h : nx l = 110) : valWith inner l = wordS [110, 117, 108, 108] (.mk 1 false [] 0 false [] []) l := by
  unfold valWith
  rw [if_pos h]
theorem vw_true {inner : Option (B → Res JV)} {l : B} (h : nx l = 116) : valWith inner l = wordS [116, 114, 117, 101] (.mk 2 true [] 0 false [] []) l := by
  unfold valWith
  rw [h, if_neg (by decide), if_pos rfl]
theorem vw_false {inner : Option (B → Res JV)} {l : B} (h : nx l = 102) : valWith inner l = wordS [102, 97, 108, 115, 101] (.mk 2 false [] 0 false [] []) l := by
  unfold valWith
  rw [h, if_neg (by decide), if_neg (by decide), if_pos rfl]
theorem vw_num {inner : Option (B → Res JV)} {l : B} (h1 : nx l ≠ 110) (h2 : nx l ≠ 116) (h3 : nx l ≠ 102) (h4 : nx l ≠ 34) (h5 : nx l ≠ 91) (h6 : nx l ≠ 123) : valWith inner l = match number l with
    | .err k u => .err k u
    | .ok _ u => .ok (numV (l.take (l.length - u.length))) u := by
  unfold valWith
  rw [if_neg h1, if_neg h2, if_neg h3, if_neg h4, if_neg h5, if_neg h6]
  cases number l <;> rfl
theorem val_ways {s : ByteArray} {P k : Nat} {K : Int} {x : JV} {r : Res JV} (hK : (k : Int) = K) (h : (k = 0 ∧ r = .ok x (s.data.toList.drop P)) ∨ (k ≠ 0 ∧ x = .zero ∧ r = .err k (s.data.toList.drop P))) :
    ((K != 0) = true ∧ Hid (k ≠ 0 ∧ r = .err k (s.data.toList.drop P))) ∨ (K = 0 ∧ Hid (r = .ok x (s.data.toList.drop P))) := by
  rcases h with ⟨h0, hr⟩ | ⟨h0, _, hr⟩
  · exact .inr ⟨by omega, hr⟩
  · refine .inl ⟨?_, h0, hr⟩
    simp only [bne_iff_ne, ne_eq]
    omega
set_option maxRecDepth 20000 in
set_option maxHeartbeats 8000000 in
theorem rvalue_any {s : ByteArray} {inner : Option (B → Res JV)} {d : Nat} (hs : s.size ≤ 1048576) (hd : d ≤ 32) (hin : (d = 32 ∧ inner = none) ∨ (d ≠ 32 ∧ ∃ f, inner = some f ∧ ShortV f ∧ RValOk s f (d + 1))) : RValOk s (valWith inner) d := by
  intro w p hp
  obtain ⟨l, hl⟩ : ∃ l, blanks (s.data.toList.drop p) = l := ⟨_, rfl⟩
  have HLl := hid hl
  rw [hl]
  obtain ⟨T, hT⟩ : ∃ T, valWith inner l = T := ⟨_, rfl⟩
  rw [hT]
  have HT := hid hT
  have HZ := hid hp
  have HS := hid hs
  have HS4 := hid (show s.size ≤ 140737488355328 by omega)
  obtain ⟨X, hX⟩ : ∃ X : Nat, (nx l).toNat = X := ⟨_, rfl⟩
  have HX := hid hX
  obtain ⟨W0, hW0⟩ : ∃ W0, W0 = ((w.alloc (.cells #[.string s, .int .i64 (p : Int), .int .i64 0] 49 (0, 0))).alloc (.cells #[.string ⟨#[]⟩, .int .i64 0, .int .i64 0] 49 (0, 0))).alloc (.cells #[.int .i64 0, .bool false, .string ⟨#[]⟩, .int .i64 0, .bool false, .slice none 0 0, .slice none 0 0] 25 (0, 0)) := ⟨_, rfl⟩
  have HW0 := hid hW0
  clear hl hT hW0
  by_cases h91 : X = 91
  · have hnx : nx l = 91 := UInt8.toNat_inj.1 (hX.trans h91)
    subst h91
    rcases hin with ⟨rfl, rfl⟩ | ⟨hd32, f, rfl, hsf, hvf⟩
    · have HN := hid (show T = .err 5 l from by rw [← HT.out]; exact vw_deep (by rw [hnx]; decide))
      clear hX hnx
      go_enter Tryz.func19, Tryz.ntmps19
      go_wp2_with (first
        | (rw [← HW0.out]; go_at_call 32; have hcall := rblanks_any s p 0 HZ.out HS4.out W0; (with_reducible refine hcall.mono ?_); clear hcall; rintro e w1 ⟨P1, _, hP1, hd1, rfl, hb⟩; have HD1 := hid (show s.data.toList.drop P1 = l from by rw [hd1]; exact HLl.out); obtain ⟨W2, hW2⟩ : ∃ W2, W2 = (((w1.setCell ⟨w.heap.size, 0, none⟩ (.string s)).setCell ⟨w.heap.size, 1, none⟩ (.int .i64 (P1 : Int))).setCell ⟨w.heap.size, 2, none⟩ (.int .i64 0)).alloc (.cells #[.int .i64 0, .bool false, .string ⟨#[]⟩, .int .i64 0, .bool false, .slice none 0 0, .slice none 0 0] 25 (0, 0)) := ⟨_, rfl⟩; have HW2 := hid hW2; have HV2 := hid (VA.start (p := (p : Int)) (q := (P1 : Int)) (by rw [← HW0.out]; exact hb) hW2); have HR1 := hid (three_new w (.cells #[.string s, .int .i64 (p : Int), .int .i64 0] 49 (0, 0)) (.cells #[.string ⟨#[]⟩, .int .i64 0, .int .i64 0] 49 (0, 0)) (.cells #[.int .i64 0, .bool false, .string ⟨#[]⟩, .int .i64 0, .bool false, .slice none 0 0, .slice none 0 0] 25 (0, 0))); have HR2 := hid ((hb.block w.heap.size (by rw [HW0.out]; have := HR1.out.2.1; omega)).trans (show W0.heap[w.heap.size]? = some (.cells #[.string s, .int .i64 (p : Int), .int .i64 0] 49 (0, 0)) from by rw [HW0.out]; exact HR1.out.2.2.1)); obtain ⟨a0, a1, a2, az⟩ := three HR2.out; have az0 := az 0; have az1 := az 1; have az2 := az 2; have hr2 := HV2.out.r; rw [HW2.out] at hr2; obtain ⟨t0, t1, t2, _⟩ := three hr2; clear az hb hd1 hW2 hr2)
        | (rw [← HW2.out]; go_at_call 33; have hcall := rnext_any s P1 0 hP1 W2; rw [HD1.out, HX.out] at hcall; (with_reducible refine hcall.mono ?_); clear hcall; rintro e w3 ⟨rfl, hb⟩; have HV3 := hid (HV2.out.below hb); clear hb; obtain ⟨b0, b1, b2, bz⟩ := three HV3.out.r; have bz0 := bz 0; have bz1 := bz 1; have bz2 := bz 2; clear bz; obtain ⟨v0, v1, v2, v3, v4, v5, v6, vz⟩ := seven HV3.out.v; have vz0 := vz 0; have vz1 := vz 1; have vz2 := vz 2; have vz3 := vz 3; have vz4 := vz 4; have vz5 := vz 5; have vz6 := vz 6; clear vz; obtain ⟨y0, y1, y2, yz⟩ := three HV3.out.o1; have yz0 := yz 0; have yz1 := yz 1; have yz2 := yz 2; clear yz; obtain ⟨q0, q1, q2, q3, q4, q5, q6, qz⟩ := seven HV3.out.o2; have qz0 := qz 0; have qz1 := qz 1; have qz2 := qz 2; have qz3 := qz 3; have qz4 := qz 4; have qz5 := qz 5; have qz6 := qz 6; clear qz))
      have HBD := hid (show Below w3.heap.size w3 w3.drew from below_drew (Below.refl _ _) 1)
      have HVd := hid (HV3.out.below HBD.out)
      refine wp_region_noPanic ?_
      refine any_begin 7 (by kernel_rfl) (by kernel_rfl) ?_
      refine late_begin (fun U => StV w U s (P1 : Int) w1.heap.size (.int .i64 0) (.bool false) (.string ⟨#[]⟩) (.int .i64 0) (.bool false) (.slice none 0 0) (.slice none 0 0)) (fun _ => false) HVd.out.st (fun hS => ?_)
      clear HBD
      generalize w3.drew = V at hS HVd ⊢
      refine late_take (i := 0) (some 27) rfl rfl (by kernel_rfl) (by kernel_rfl) (by kernel_rfl) (by kernel_rfl) (by kernel_rfl) (fun _ _ _ h => h) (by rfl) (v := ?v0p91) ?hy0p91 hS ?rest0p91
      case hy0p91 => intro w0 hSw; obtain ⟨k0, k1, k2, _⟩ := three hSw.r; obtain ⟨m0, m1, m2, m3, m4, m5, m6, _⟩ := seven hSw.v; go_simp; try with_reducible rfl
      simp only [Act.put, List.setIfInBounds_toArray, List.set_cons_zero, List.set_cons_succ]
      refine late_take (i := 1) (some 28) rfl rfl (by kernel_rfl) (by kernel_rfl) (by kernel_rfl) (by kernel_rfl) (by kernel_rfl) (fun _ _ _ h => h) (by rfl) (v := ?v1p91) ?hy1p91 hS ?rest1p91
      case hy1p91 => intro w0 hSw; obtain ⟨k0, k1, k2, _⟩ := three hSw.r; obtain ⟨m0, m1, m2, m3, m4, m5, m6, _⟩ := seven hSw.v; go_simp; try with_reducible rfl
      simp only [Act.put, List.setIfInBounds_toArray, List.set_cons_zero, List.set_cons_succ]
      refine late_take (i := 2) (some 29) rfl rfl (by kernel_rfl) (by kernel_rfl) (by kernel_rfl) (by kernel_rfl) (by kernel_rfl) (fun _ _ _ h => h) (by rfl) (v := ?v2p91) ?hy2p91 hS ?rest2p91
      case hy2p91 => intro w0 hSw; obtain ⟨k0, k1, k2, _⟩ := three hSw.r; obtain ⟨m0, m1, m2, m3, m4, m5, m6, _⟩ := seven hSw.v; go_simp; try with_reducible rfl
      simp only [Act.put, List.setIfInBounds_toArray, List.set_cons_zero, List.set_cons_succ]
      refine late_take (i := 4) (some 31) rfl rfl (by kernel_rfl) (by kernel_rfl) (by kernel_rfl) (by kernel_rfl) (by kernel_rfl) (fun _ _ _ h => h) (by rfl) (v := ?v4p91) ?hy4p91 hS ?rest4p91
      case hy4p91 => intro w0 hSw; obtain ⟨k0, k1, k2, _⟩ := three hSw.r; obtain ⟨m0, m1, m2, m3, m4, m5, m6, _⟩ := seven hSw.v; go_simp; try with_reducible rfl
      simp only [Act.put, List.setIfInBounds_toArray, List.set_cons_zero, List.set_cons_succ]
      refine wpAnyD_one (i := 3) (by kernel_rfl) rfl (fun K hK => ?_)
      go_simp
      go_at_call 20
      refine (rfail_any s (P1 : Int) (P1 : Int) 5 V).mono ?_
      rintro e w9 ⟨rfl, hb9⟩
      have HV9 := hid (HVd.out.below hb9)
      clear hb9
      have hS2 := HV9.out.st
      refine hK _ _ ⟨fun _ => hS2, ?_⟩
      clear hK K
      replace hS := hS2
      clear hS2
      obtain ⟨y0, y1, y2, yz⟩ := three HV9.out.o1; have yz0 := yz 0; have yz1 := yz 1; have yz2 := yz 2; clear yz
      obtain ⟨q0, q1, q2, q3, q4, q5, q6, qz⟩ := seven HV9.out.o2; have qz0 := qz 0; have qz1 := qz 1; have qz2 := qz 2; have qz3 := qz 3; have qz4 := qz 4; have qz5 := qz 5; have qz6 := qz 6; clear qz
      refine wpAnyD_one (i := 5) (by kernel_rfl) rfl (fun K hK => ?_)
      go_simp
      refine hK _ _ ⟨fun _ => hS.out1 _ _ _, ?_⟩
      clear hK K
      refine wpAnyD_one (i := 6) (by kernel_rfl) rfl (fun K hK => ?_)
      go_simp
      refine hK _ _ ⟨fun _ => hS.out2 _ _ _ _ _ _ _ _ _ _, ?_⟩
      clear hK K
      refine late_done (by kernel_rfl) ?_ _
      refine NoPanic.normal ?_
      clear hS
      go_wp2
      (try simp only [Exit.inBlock, Exit.then])
      refine bodyPost_ret (results_rdval rfl _ _ _ _ 49 25 _ _ (0, 0) (0, 0) rfl rfl (out_rv (has_three HV9.out.o1) (has_seven HV9.out.o2) (Nat.ne_of_lt (Nat.lt_succ_self _)) _ _ _ _ _ _ _ _ _ _).1 (out_rv (has_three HV9.out.o1) (has_seven HV9.out.o2) (Nat.ne_of_lt (Nat.lt_succ_self _)) _ _ _ _ _ _ _ _ _ _).2 rfl rfl) rfl ?_
      rw [HN.out]
      exact ⟨P1, 5, .zero, _, hP1, rfl, zero_val _ _, HV9.out.outB _ _ _ _ _ _ _ _ _ _, .inr ⟨by omega, rfl, by rw [HD1.out]; rfl⟩⟩
    · have h32 : ((d : Int) == 32) = false := by simp only [beq_eq_false_iff_ne, ne_eq]; omega
      have HSF := hid hsf
      have HVF := hid hvf
      have HTp := hid (show T = nestR 5 (nestedS (listStep f) [93] ([], []) (l.drop 1)) from by
        rw [← HT.out]
        exact vw_list hnx)
      have HPl := hid (show ∀ P1, s.data.toList.drop P1 = l → P1 ≤ s.size → P1 + 1 ≤ s.size from fun P1 h1 h2 => (drop_nx (s := s) (P := P1) (by rw [h1, hnx]; decide)).1)
      have HDn := hid (show ∀ P1, s.data.toList.drop P1 = l → l.drop 1 = s.data.toList.drop (P1 + 1) from fun P1 h1 => by rw [← h1, drop_one])
      clear hX hnx hsf hvf
      go_enter Tryz.func19, Tryz.ntmps19
      go_wp2_with (first
        | (rw [← HW0.out]; go_at_call 32; have hcall := rblanks_any s p 0 HZ.out HS4.out W0; (with_reducible refine hcall.mono ?_); clear hcall; rintro e w1 ⟨P1, _, hP1, hd1, rfl, hb⟩; have HD1 := hid (show s.data.toList.drop P1 = l from by rw [hd1]; exact HLl.out); obtain ⟨W2, hW2⟩ : ∃ W2, W2 = (((w1.setCell ⟨w.heap.size, 0, none⟩ (.string s)).setCell ⟨w.heap.size, 1, none⟩ (.int .i64 (P1 : Int))).setCell ⟨w.heap.size, 2, none⟩ (.int .i64 0)).alloc (.cells #[.int .i64 0, .bool false, .string ⟨#[]⟩, .int .i64 0, .bool false, .slice none 0 0, .slice none 0 0] 25 (0, 0)) := ⟨_, rfl⟩; have HW2 := hid hW2; have HV2 := hid (VA.start (p := (p : Int)) (q := (P1 : Int)) (by rw [← HW0.out]; exact hb) hW2); have HR1 := hid (three_new w (.cells #[.string s, .int .i64 (p : Int), .int .i64 0] 49 (0, 0)) (.cells #[.string ⟨#[]⟩, .int .i64 0, .int .i64 0] 49 (0, 0)) (.cells #[.int .i64 0, .bool false, .string ⟨#[]⟩, .int .i64 0, .bool false, .slice none 0 0, .slice none 0 0] 25 (0, 0))); have HR2 := hid ((hb.block w.heap.size (by rw [HW0.out]; have := HR1.out.2.1; omega)).trans (show W0.heap[w.heap.size]? = some (.cells #[.string s, .int .i64 (p : Int), .int .i64 0] 49 (0, 0)) from by rw [HW0.out]; exact HR1.out.2.2.1)); obtain ⟨a0, a1, a2, az⟩ := three HR2.out; have az0 := az 0; have az1 := az 1; have az2 := az 2; have hr2 := HV2.out.r; rw [HW2.out] at hr2; obtain ⟨t0, t1, t2, _⟩ := three hr2; clear az hb hd1 hW2 hr2)
        | (rw [← HW2.out]; go_at_call 33; have hcall := rnext_any s P1 0 hP1 W2; rw [HD1.out, HX.out] at hcall; (with_reducible refine hcall.mono ?_); clear hcall; rintro e w3 ⟨rfl, hb⟩; have HV3 := hid (HV2.out.below hb); clear hb; obtain ⟨b0, b1, b2, bz⟩ := three HV3.out.r; have bz0 := bz 0; have bz1 := bz 1; have bz2 := bz 2; clear bz; obtain ⟨v0, v1, v2, v3, v4, v5, v6, vz⟩ := seven HV3.out.v; have vz0 := vz 0; have vz1 := vz 1; have vz2 := vz 2; have vz3 := vz 3; have vz4 := vz 4; have vz5 := vz 5; have vz6 := vz 6; clear vz; obtain ⟨y0, y1, y2, yz⟩ := three HV3.out.o1; have yz0 := yz 0; have yz1 := yz 1; have yz2 := yz 2; clear yz; obtain ⟨q0, q1, q2, q3, q4, q5, q6, qz⟩ := seven HV3.out.o2; have qz0 := qz 0; have qz1 := qz 1; have qz2 := qz 2; have qz3 := qz 3; have qz4 := qz 4; have qz5 := qz 5; have qz6 := qz 6; clear qz)
        | (go_at_call 34; have hcall := rparts_list s (P1 + 1) ((P1 : Int) + 1) (by push_cast; rfl) (d + 1) ((d : Int) + 1) (by push_cast; rfl) (HPl.out P1 HD1.out hP1) HS.out HSF.out HVF.out (w3.setCell ⟨w.heap.size, 1, none⟩ (.int .i64 ((P1 : Int) + 1))); (with_reducible refine hcall.mono ?_); clear hcall; rintro e w4 ⟨P2, k2, x2, cs, hP2, rfl, hv2, hb, hcase⟩; obtain ⟨e1, e2, e3, e4, e5, e6, e7, e8, e9, e10, e11, rfl⟩ := hv2.form; obtain ⟨K, hK⟩ : ∃ K : Int, (k2 : Int) = K := ⟨_, rfl⟩; rw [hK]; have HK := hid hK; have HV4 := hid ((HV3.out.move ((P1 : Int) + 1)).below hb); have HV5 := hid (HV4.out.put s (P2 : Int) K); have HV6 := hid (HV5.out.putv (.int .i64 e1) (.bool e2) (.string (str e3)) (.int .i64 e4) (.bool e5) (.slice e6 e7 e8) (.slice e9 e10 e11)); have HVal := hid (And.intro hv2 (And.intro hb.size (lt_of_heap (HV3.out.move ((P1 : Int) + 1)).v))); clear hb hv2; obtain ⟨c0, c1, c2, cz⟩ := three HV4.out.r; have cz0 := cz 0; have cz1 := cz 1; have cz2 := cz 2; clear cz; obtain ⟨f0, f1, f2, f3, f4, f5, f6, fz⟩ := seven HV5.out.v; have fz0 := fz 0; have fz1 := fz 1; have fz2 := fz 2; have fz3 := fz 3; have fz4 := fz 4; have fz5 := fz 5; have fz6 := fz 6; clear fz; obtain ⟨j0, j1, j2, jz⟩ := three HV6.out.r; have jz0 := jz 0; have jz1 := jz 1; have jz2 := jz 2; clear jz; obtain ⟨m0, m1, m2, m3, m4, m5, m6, mz⟩ := seven HV6.out.v; have mz0 := mz 0; have mz1 := mz 1; have mz2 := mz 2; have mz3 := mz 3; have mz4 := mz 4; have mz5 := mz 5; have mz6 := mz 6; clear mz; obtain ⟨ya0, ya1, ya2, yaz⟩ := three HV6.out.o1; have yaz0 := yaz 0; have yaz1 := yaz 1; have yaz2 := yaz 2; clear yaz; obtain ⟨qa0, qa1, qa2, qa3, qa4, qa5, qa6, qaz⟩ := seven HV6.out.o2; have qaz0 := qaz 0; have qaz1 := qaz 1; have qaz2 := qaz 2; have qaz3 := qaz 3; have qaz4 := qaz 4; have qaz5 := qaz 5; have qaz6 := qaz 6; clear qaz; rcases val_ways hK hcase with ⟨hkn, HCa⟩ | ⟨rfl, HCb⟩ <;> clear hcase hK))
      · have HN := hid (show T = .err k2 (s.data.toList.drop P2) from by rw [HTp.out, HDn.out P1 HD1.out]; exact HCa.out.2)
        (try simp only [Exit.inBlock, Exit.then])
        refine bodyPost_ret (results_rdval rfl _ _ _ _ 49 25 _ _ (0, 0) (0, 0) rfl rfl (out_rv (has_three HV6.out.o1) (has_seven HV6.out.o2) (Nat.ne_of_lt (Nat.lt_succ_self _)) _ _ _ _ _ _ _ _ _ _).1 (out_rv (has_three HV6.out.o1) (has_seven HV6.out.o2) (Nat.ne_of_lt (Nat.lt_succ_self _)) _ _ _ _ _ _ _ _ _ _).2 rfl rfl) rfl ?_
        rw [HN.out]
        exact ⟨P2, k2, .zero, _, hP2, by rw [HK.out], zero_val _ _, HV6.out.outB _ _ _ _ _ _ _ _ _ _, .inr ⟨HCa.out.1, rfl, rfl⟩⟩
      · have HN := hid (show T = .ok x2 (s.data.toList.drop P2) from by rw [HTp.out, HDn.out P1 HD1.out]; exact HCb.out)
        have HBD := hid (show Below ((((((((((w4.setCell ⟨w.heap.size, 0, none⟩ (.string s)).setCell ⟨w.heap.size, 1, none⟩ (.int .i64 (P2 : Int))).setCell ⟨w.heap.size, 2, none⟩ (.int .i64 0)).setCell ⟨w1.heap.size, 0, none⟩ (.int .i64 e1)).setCell ⟨w1.heap.size, 1, none⟩ (.bool e2)).setCell ⟨w1.heap.size, 2, none⟩ (.string (str e3))).setCell ⟨w1.heap.size, 3, none⟩ (.int .i64 e4)).setCell ⟨w1.heap.size, 4, none⟩ (.bool e5)).setCell ⟨w1.heap.size, 5, none⟩ (.slice e6 e7 e8)).setCell ⟨w1.heap.size, 6, none⟩ (.slice e9 e10 e11)).heap.size ((((((((((w4.setCell ⟨w.heap.size, 0, none⟩ (.string s)).setCell ⟨w.heap.size, 1, none⟩ (.int .i64 (P2 : Int))).setCell ⟨w.heap.size, 2, none⟩ (.int .i64 0)).setCell ⟨w1.heap.size, 0, none⟩ (.int .i64 e1)).setCell ⟨w1.heap.size, 1, none⟩ (.bool e2)).setCell ⟨w1.heap.size, 2, none⟩ (.string (str e3))).setCell ⟨w1.heap.size, 3, none⟩ (.int .i64 e4)).setCell ⟨w1.heap.size, 4, none⟩ (.bool e5)).setCell ⟨w1.heap.size, 5, none⟩ (.slice e6 e7 e8)).setCell ⟨w1.heap.size, 6, none⟩ (.slice e9 e10 e11)) ((((((((((w4.setCell ⟨w.heap.size, 0, none⟩ (.string s)).setCell ⟨w.heap.size, 1, none⟩ (.int .i64 (P2 : Int))).setCell ⟨w.heap.size, 2, none⟩ (.int .i64 0)).setCell ⟨w1.heap.size, 0, none⟩ (.int .i64 e1)).setCell ⟨w1.heap.size, 1, none⟩ (.bool e2)).setCell ⟨w1.heap.size, 2, none⟩ (.string (str e3))).setCell ⟨w1.heap.size, 3, none⟩ (.int .i64 e4)).setCell ⟨w1.heap.size, 4, none⟩ (.bool e5)).setCell ⟨w1.heap.size, 5, none⟩ (.slice e6 e7 e8)).setCell ⟨w1.heap.size, 6, none⟩ (.slice e9 e10 e11)).drew from below_drew (Below.refl _ _) 1)
        have HVd := hid (HV6.out.below HBD.out)
        refine wp_region_noPanic ?_
        refine any_begin 5 (by kernel_rfl) (by kernel_rfl) ?_
        refine late_begin (fun U => StV w U s (P2 : Int) w1.heap.size (.int .i64 e1) (.bool e2) (.string (str e3)) (.int .i64 e4) (.bool e5) (.slice e6 e7 e8) (.slice e9 e10 e11)) (fun _ => false) HVd.out.st (fun hS => ?_)
        have HBs := hid HBD.out.size
        have HBk := hid (fun k (hk : k < ((((((((((w4.setCell ⟨w.heap.size, 0, none⟩ (.string s)).setCell ⟨w.heap.size, 1, none⟩ (.int .i64 (P2 : Int))).setCell ⟨w.heap.size, 2, none⟩ (.int .i64 0)).setCell ⟨w1.heap.size, 0, none⟩ (.int .i64 e1)).setCell ⟨w1.heap.size, 1, none⟩ (.bool e2)).setCell ⟨w1.heap.size, 2, none⟩ (.string (str e3))).setCell ⟨w1.heap.size, 3, none⟩ (.int .i64 e4)).setCell ⟨w1.heap.size, 4, none⟩ (.bool e5)).setCell ⟨w1.heap.size, 5, none⟩ (.slice e6 e7 e8)).setCell ⟨w1.heap.size, 6, none⟩ (.slice e9 e10 e11)).heap.size) => HBD.out.block k hk)
        clear HBD
        generalize ((((((((((w4.setCell ⟨w.heap.size, 0, none⟩ (.string s)).setCell ⟨w.heap.size, 1, none⟩ (.int .i64 (P2 : Int))).setCell ⟨w.heap.size, 2, none⟩ (.int .i64 0)).setCell ⟨w1.heap.size, 0, none⟩ (.int .i64 e1)).setCell ⟨w1.heap.size, 1, none⟩ (.bool e2)).setCell ⟨w1.heap.size, 2, none⟩ (.string (str e3))).setCell ⟨w1.heap.size, 3, none⟩ (.int .i64 e4)).setCell ⟨w1.heap.size, 4, none⟩ (.bool e5)).setCell ⟨w1.heap.size, 5, none⟩ (.slice e6 e7 e8)).setCell ⟨w1.heap.size, 6, none⟩ (.slice e9 e10 e11)).drew = V at hS HVd HBs HBk ⊢
        refine late_take (i := 0) (some 85) rfl rfl (by kernel_rfl) (by kernel_rfl) (by kernel_rfl) (by kernel_rfl) (by kernel_rfl) (fun _ _ _ h => h) (by rfl) (v := ?v0t91) ?hy0t91 hS ?rest0t91
        case hy0t91 => intro w0 hSw; obtain ⟨k0, k1, k2, _⟩ := three hSw.r; obtain ⟨m0, m1, m2, m3, m4, m5, m6, _⟩ := seven hSw.v; go_simp; try with_reducible rfl
        simp only [Act.put, List.setIfInBounds_toArray, List.set_cons_zero, List.set_cons_succ]
        refine late_take (i := 2) (some 87) rfl rfl (by kernel_rfl) (by kernel_rfl) (by kernel_rfl) (by kernel_rfl) (by kernel_rfl) (fun _ _ _ h => h) (by rfl) (v := ?v2t91) ?hy2t91 hS ?rest2t91
        case hy2t91 => intro w0 hSw; obtain ⟨k0, k1, k2, _⟩ := three hSw.r; obtain ⟨m0, m1, m2, m3, m4, m5, m6, _⟩ := seven hSw.v; go_simp; try with_reducible rfl
        simp only [Act.put, List.setIfInBounds_toArray, List.set_cons_zero, List.set_cons_succ]
        refine wpAnyD_one (i := 1) (by kernel_rfl) rfl (fun K hK => ?_)
        go_simp
        go_at_call 32
        refine (rblanks_any s _ 0 hP2 HS4.out V).mono ?_
        rintro e w9 ⟨P9, _, hP9, hd9, rfl, hb9⟩
        have HV9 := hid (HVd.out.below hb9)
        have HB9 := hid (And.intro hb9.size (fun k (hk : k < V.heap.size) => hb9.block k hk))
        have HD9 := hid hd9
        clear hb9 hd9
        have hS2 := HV9.out.st
        refine hK _ _ ⟨fun _ => hS2, ?_⟩
        clear hK K
        replace hS := hS2
        clear hS2
        obtain ⟨y0, y1, y2, yz⟩ := three HV9.out.o1; have yz0 := yz 0; have yz1 := yz 1; have yz2 := yz 2; clear yz
        obtain ⟨q0, q1, q2, q3, q4, q5, q6, qz⟩ := seven HV9.out.o2; have qz0 := qz 0; have qz1 := qz 1; have qz2 := qz 2; have qz3 := qz 3; have qz4 := qz 4; have qz5 := qz 5; have qz6 := qz 6; clear qz
        refine wpAnyD_one (i := 3) (by kernel_rfl) rfl (fun K hK => ?_)
        go_simp
        refine hK _ _ ⟨fun _ => hS.out1 _ _ _, ?_⟩
        clear hK K
        refine wpAnyD_one (i := 4) (by kernel_rfl) rfl (fun K hK => ?_)
        go_simp
        refine hK _ _ ⟨fun _ => hS.out2 _ _ _ _ _ _ _ _ _ _, ?_⟩
        clear hK K
        refine late_done (by kernel_rfl) ?_ _
        refine NoPanic.normal ?_
        clear hS
        go_wp2
        (try simp only [Exit.inBlock, Exit.then])
        refine bodyPost_ret (results_rdval rfl _ _ _ _ 49 25 _ _ (0, 0) (0, 0) rfl rfl (out_rv (has_three HV9.out.o1) (has_seven HV9.out.o2) (Nat.ne_of_lt (Nat.lt_succ_self _)) _ _ _ _ _ _ _ _ _ _).1 (out_rv (has_three HV9.out.o1) (has_seven HV9.out.o2) (Nat.ne_of_lt (Nat.lt_succ_self _)) _ _ _ _ _ _ _ _ _ _).2 rfl rfl) rfl ?_
        rw [HN.out]
        refine ⟨P9, 0, x2, _, hP9, rfl, val_out (F := fun j => (w3.setCell ⟨w.heap.size, 1, none⟩ (.int .i64 ((P1 : Int) + 1))).heap.size ≤ j ∧ j < w4.heap.size) (ValIs.keep (fun j hj => ?_) (fun j hj => hj) _ _ HVal.out.1) (fun j hj => ?_) _ _ _ _ _ _ _ _ _ _, HV9.out.outB _ _ _ _ _ _ _ _ _ _, .inl ⟨rfl, by rw [HD9.out]; rfl⟩⟩
        · have h1 := HVal.out.2.2
          have h2 := HV3.out.hg
          have h3 := rv_size w4 w.heap.size w1.heap.size (.string s) (.int .i64 (P2 : Int)) (.int .i64 0) (.int .i64 e1) (.bool e2) (.string (str e3)) (.int .i64 e4) (.bool e5) (.slice e6 e7 e8) (.slice e9 e10 e11)
          have h4 := HBs.out
          rw [HB9.out.2 j (by omega), HBk.out j (by omega)]
          exact rv_keep (by omega) (by omega) _ _ _ _ _ _ _ _ _ _
        · have h1 := HVal.out.2.2
          have h2 := HV3.out.hg
          have h3 := rv_size w4 w.heap.size w1.heap.size (.string s) (.int .i64 (P2 : Int)) (.int .i64 0) (.int .i64 e1) (.bool e2) (.string (str e3)) (.int .i64 e4) (.bool e5) (.slice e6 e7 e8) (.slice e9 e10 e11)
          have h4 := HBs.out
          have h5 := HB9.out.1
          exact ⟨by omega, by omega⟩
  have n91 : ((X : Int) == 91) = false := by simp only [beq_eq_false_iff_ne, ne_eq]; omega
  by_cases h123 : X = 123
  · have hnx : nx l = 123 := UInt8.toNat_inj.1 (hX.trans h123)
    subst h123
    rcases hin with ⟨rfl, rfl⟩ | ⟨hd32, f, rfl, hsf, hvf⟩
    · have HN := hid (show T = .err 5 l from by rw [← HT.out]; exact vw_deep (by rw [hnx]; decide))
      clear hX hnx
      go_enter Tryz.func19, Tryz.ntmps19
      go_wp2_with (first
        | (rw [← HW0.out]; go_at_call 32; have hcall := rblanks_any s p 0 HZ.out HS4.out W0; (with_reducible refine hcall.mono ?_); clear hcall; rintro e w1 ⟨P1, _, hP1, hd1, rfl, hb⟩; have HD1 := hid (show s.data.toList.drop P1 = l from by rw [hd1]; exact HLl.out); obtain ⟨W2, hW2⟩ : ∃ W2, W2 = (((w1.setCell ⟨w.heap.size, 0, none⟩ (.string s)).setCell ⟨w.heap.size, 1, none⟩ (.int .i64 (P1 : Int))).setCell ⟨w.heap.size, 2, none⟩ (.int .i64 0)).alloc (.cells #[.int .i64 0, .bool false, .string ⟨#[]⟩, .int .i64 0, .bool false, .slice none 0 0, .slice none 0 0] 25 (0, 0)) := ⟨_, rfl⟩; have HW2 := hid hW2; have HV2 := hid (VA.start (p := (p : Int)) (q := (P1 : Int)) (by rw [← HW0.out]; exact hb) hW2); have HR1 := hid (three_new w (.cells #[.string s, .int .i64 (p : Int), .int .i64 0] 49 (0, 0)) (.cells #[.string ⟨#[]⟩, .int .i64 0, .int .i64 0] 49 (0, 0)) (.cells #[.int .i64 0, .bool false, .string ⟨#[]⟩, .int .i64 0, .bool false, .slice none 0 0, .slice none 0 0] 25 (0, 0))); have HR2 := hid ((hb.block w.heap.size (by rw [HW0.out]; have := HR1.out.2.1; omega)).trans (show W0.heap[w.heap.size]? = some (.cells #[.string s, .int .i64 (p : Int), .int .i64 0] 49 (0, 0)) from by rw [HW0.out]; exact HR1.out.2.2.1)); obtain ⟨a0, a1, a2, az⟩ := three HR2.out; have az0 := az 0; have az1 := az 1; have az2 := az 2; have hr2 := HV2.out.r; rw [HW2.out] at hr2; obtain ⟨t0, t1, t2, _⟩ := three hr2; clear az hb hd1 hW2 hr2)
        | (rw [← HW2.out]; go_at_call 33; have hcall := rnext_any s P1 0 hP1 W2; rw [HD1.out, HX.out] at hcall; (with_reducible refine hcall.mono ?_); clear hcall; rintro e w3 ⟨rfl, hb⟩; have HV3 := hid (HV2.out.below hb); clear hb; obtain ⟨b0, b1, b2, bz⟩ := three HV3.out.r; have bz0 := bz 0; have bz1 := bz 1; have bz2 := bz 2; clear bz; obtain ⟨v0, v1, v2, v3, v4, v5, v6, vz⟩ := seven HV3.out.v; have vz0 := vz 0; have vz1 := vz 1; have vz2 := vz 2; have vz3 := vz 3; have vz4 := vz 4; have vz5 := vz 5; have vz6 := vz 6; clear vz; obtain ⟨y0, y1, y2, yz⟩ := three HV3.out.o1; have yz0 := yz 0; have yz1 := yz 1; have yz2 := yz 2; clear yz; obtain ⟨q0, q1, q2, q3, q4, q5, q6, qz⟩ := seven HV3.out.o2; have qz0 := qz 0; have qz1 := qz 1; have qz2 := qz 2; have qz3 := qz 3; have qz4 := qz 4; have qz5 := qz 5; have qz6 := qz 6; clear qz))
      have HBD := hid (show Below w3.heap.size w3 w3.drew from below_drew (Below.refl _ _) 1)
      have HVd := hid (HV3.out.below HBD.out)
      refine wp_region_noPanic ?_
      refine any_begin 7 (by kernel_rfl) (by kernel_rfl) ?_
      refine late_begin (fun U => StV w U s (P1 : Int) w1.heap.size (.int .i64 0) (.bool false) (.string ⟨#[]⟩) (.int .i64 0) (.bool false) (.slice none 0 0) (.slice none 0 0)) (fun _ => false) HVd.out.st (fun hS => ?_)
      clear HBD
      generalize w3.drew = V at hS HVd ⊢
      refine late_take (i := 0) (some 27) rfl rfl (by kernel_rfl) (by kernel_rfl) (by kernel_rfl) (by kernel_rfl) (by kernel_rfl) (fun _ _ _ h => h) (by rfl) (v := ?v0p123) ?hy0p123 hS ?rest0p123
      case hy0p123 => intro w0 hSw; obtain ⟨k0, k1, k2, _⟩ := three hSw.r; obtain ⟨m0, m1, m2, m3, m4, m5, m6, _⟩ := seven hSw.v; go_simp; try with_reducible rfl
      simp only [Act.put, List.setIfInBounds_toArray, List.set_cons_zero, List.set_cons_succ]
      refine late_take (i := 1) (some 28) rfl rfl (by kernel_rfl) (by kernel_rfl) (by kernel_rfl) (by kernel_rfl) (by kernel_rfl) (fun _ _ _ h => h) (by rfl) (v := ?v1p123) ?hy1p123 hS ?rest1p123
      case hy1p123 => intro w0 hSw; obtain ⟨k0, k1, k2, _⟩ := three hSw.r; obtain ⟨m0, m1, m2, m3, m4, m5, m6, _⟩ := seven hSw.v; go_simp; try with_reducible rfl
      simp only [Act.put, List.setIfInBounds_toArray, List.set_cons_zero, List.set_cons_succ]
      refine late_take (i := 2) (some 29) rfl rfl (by kernel_rfl) (by kernel_rfl) (by kernel_rfl) (by kernel_rfl) (by kernel_rfl) (fun _ _ _ h => h) (by rfl) (v := ?v2p123) ?hy2p123 hS ?rest2p123
      case hy2p123 => intro w0 hSw; obtain ⟨k0, k1, k2, _⟩ := three hSw.r; obtain ⟨m0, m1, m2, m3, m4, m5, m6, _⟩ := seven hSw.v; go_simp; try with_reducible rfl
      simp only [Act.put, List.setIfInBounds_toArray, List.set_cons_zero, List.set_cons_succ]
      refine late_take (i := 4) (some 31) rfl rfl (by kernel_rfl) (by kernel_rfl) (by kernel_rfl) (by kernel_rfl) (by kernel_rfl) (fun _ _ _ h => h) (by rfl) (v := ?v4p123) ?hy4p123 hS ?rest4p123
      case hy4p123 => intro w0 hSw; obtain ⟨k0, k1, k2, _⟩ := three hSw.r; obtain ⟨m0, m1, m2, m3, m4, m5, m6, _⟩ := seven hSw.v; go_simp; try with_reducible rfl
      simp only [Act.put, List.setIfInBounds_toArray, List.set_cons_zero, List.set_cons_succ]
      refine wpAnyD_one (i := 3) (by kernel_rfl) rfl (fun K hK => ?_)
      go_simp
      go_at_call 20
      refine (rfail_any s (P1 : Int) (P1 : Int) 5 V).mono ?_
      rintro e w9 ⟨rfl, hb9⟩
      have HV9 := hid (HVd.out.below hb9)
      clear hb9
      have hS2 := HV9.out.st
      refine hK _ _ ⟨fun _ => hS2, ?_⟩
      clear hK K
      replace hS := hS2
      clear hS2
      obtain ⟨y0, y1, y2, yz⟩ := three HV9.out.o1; have yz0 := yz 0; have yz1 := yz 1; have yz2 := yz 2; clear yz
      obtain ⟨q0, q1, q2, q3, q4, q5, q6, qz⟩ := seven HV9.out.o2; have qz0 := qz 0; have qz1 := qz 1; have qz2 := qz 2; have qz3 := qz 3; have qz4 := qz 4; have qz5 := qz 5; have qz6 := qz 6; clear qz
      refine wpAnyD_one (i := 5) (by kernel_rfl) rfl (fun K hK => ?_)
      go_simp
      refine hK _ _ ⟨fun _ => hS.out1 _ _ _, ?_⟩
      clear hK K
      refine wpAnyD_one (i := 6) (by kernel_rfl) rfl (fun K hK => ?_)
      go_simp
      refine hK _ _ ⟨fun _ => hS.out2 _ _ _ _ _ _ _ _ _ _, ?_⟩
      clear hK K
      refine late_done (by kernel_rfl) ?_ _
      refine NoPanic.normal ?_
      clear hS
      go_wp2
      (try simp only [Exit.inBlock, Exit.then])
      refine bodyPost_ret (results_rdval rfl _ _ _ _ 49 25 _ _ (0, 0) (0, 0) rfl rfl (out_rv (has_three HV9.out.o1) (has_seven HV9.out.o2) (Nat.ne_of_lt (Nat.lt_succ_self _)) _ _ _ _ _ _ _ _ _ _).1 (out_rv (has_three HV9.out.o1) (has_seven HV9.out.o2) (Nat.ne_of_lt (Nat.lt_succ_self _)) _ _ _ _ _ _ _ _ _ _).2 rfl rfl) rfl ?_
      rw [HN.out]
      exact ⟨P1, 5, .zero, _, hP1, rfl, zero_val _ _, HV9.out.outB _ _ _ _ _ _ _ _ _ _, .inr ⟨by omega, rfl, by rw [HD1.out]; rfl⟩⟩
    · have h32 : ((d : Int) == 32) = false := by simp only [beq_eq_false_iff_ne, ne_eq]; omega
      have HSF := hid hsf
      have HVF := hid hvf
      have HTp := hid (show T = nestR 6 (nestedS (objStep f) [125] ([], []) (l.drop 1)) from by
        rw [← HT.out]
        exact vw_obj hnx)
      have HPl := hid (show ∀ P1, s.data.toList.drop P1 = l → P1 ≤ s.size → P1 + 1 ≤ s.size from fun P1 h1 h2 => (drop_nx (s := s) (P := P1) (by rw [h1, hnx]; decide)).1)
      have HDn := hid (show ∀ P1, s.data.toList.drop P1 = l → l.drop 1 = s.data.toList.drop (P1 + 1) from fun P1 h1 => by rw [← h1, drop_one])
      clear hX hnx hsf hvf
      go_enter Tryz.func19, Tryz.ntmps19
      go_wp2_with (first
        | (rw [← HW0.out]; go_at_call 32; have hcall := rblanks_any s p 0 HZ.out HS4.out W0; (with_reducible refine hcall.mono ?_); clear hcall; rintro e w1 ⟨P1, _, hP1, hd1, rfl, hb⟩; have HD1 := hid (show s.data.toList.drop P1 = l from by rw [hd1]; exact HLl.out); obtain ⟨W2, hW2⟩ : ∃ W2, W2 = (((w1.setCell ⟨w.heap.size, 0, none⟩ (.string s)).setCell ⟨w.heap.size, 1, none⟩ (.int .i64 (P1 : Int))).setCell ⟨w.heap.size, 2, none⟩ (.int .i64 0)).alloc (.cells #[.int .i64 0, .bool false, .string ⟨#[]⟩, .int .i64 0, .bool false, .slice none 0 0, .slice none 0 0] 25 (0, 0)) := ⟨_, rfl⟩; have HW2 := hid hW2; have HV2 := hid (VA.start (p := (p : Int)) (q := (P1 : Int)) (by rw [← HW0.out]; exact hb) hW2); have HR1 := hid (three_new w (.cells #[.string s, .int .i64 (p : Int), .int .i64 0] 49 (0, 0)) (.cells #[.string ⟨#[]⟩, .int .i64 0, .int .i64 0] 49 (0, 0)) (.cells #[.int .i64 0, .bool false, .string ⟨#[]⟩, .int .i64 0, .bool false, .slice none 0 0, .slice none 0 0] 25 (0, 0))); have HR2 := hid ((hb.block w.heap.size (by rw [HW0.out]; have := HR1.out.2.1; omega)).trans (show W0.heap[w.heap.size]? = some (.cells #[.string s, .int .i64 (p : Int), .int .i64 0] 49 (0, 0)) from by rw [HW0.out]; exact HR1.out.2.2.1)); obtain ⟨a0, a1, a2, az⟩ := three HR2.out; have az0 := az 0; have az1 := az 1; have az2 := az 2; have hr2 := HV2.out.r; rw [HW2.out] at hr2; obtain ⟨t0, t1, t2, _⟩ := three hr2; clear az hb hd1 hW2 hr2)
        | (rw [← HW2.out]; go_at_call 33; have hcall := rnext_any s P1 0 hP1 W2; rw [HD1.out, HX.out] at hcall; (with_reducible refine hcall.mono ?_); clear hcall; rintro e w3 ⟨rfl, hb⟩; have HV3 := hid (HV2.out.below hb); clear hb; obtain ⟨b0, b1, b2, bz⟩ := three HV3.out.r; have bz0 := bz 0; have bz1 := bz 1; have bz2 := bz 2; clear bz; obtain ⟨v0, v1, v2, v3, v4, v5, v6, vz⟩ := seven HV3.out.v; have vz0 := vz 0; have vz1 := vz 1; have vz2 := vz 2; have vz3 := vz 3; have vz4 := vz 4; have vz5 := vz 5; have vz6 := vz 6; clear vz; obtain ⟨y0, y1, y2, yz⟩ := three HV3.out.o1; have yz0 := yz 0; have yz1 := yz 1; have yz2 := yz 2; clear yz; obtain ⟨q0, q1, q2, q3, q4, q5, q6, qz⟩ := seven HV3.out.o2; have qz0 := qz 0; have qz1 := qz 1; have qz2 := qz 2; have qz3 := qz 3; have qz4 := qz 4; have qz5 := qz 5; have qz6 := qz 6; clear qz)
        | (go_at_call 34; have hcall := rparts_obj s (P1 + 1) ((P1 : Int) + 1) (by push_cast; rfl) (d + 1) ((d : Int) + 1) (by push_cast; rfl) (HPl.out P1 HD1.out hP1) HS.out HSF.out HVF.out (w3.setCell ⟨w.heap.size, 1, none⟩ (.int .i64 ((P1 : Int) + 1))); (with_reducible refine hcall.mono ?_); clear hcall; rintro e w4 ⟨P2, k2, x2, cs, hP2, rfl, hv2, hb, hcase⟩; obtain ⟨e1, e2, e3, e4, e5, e6, e7, e8, e9, e10, e11, rfl⟩ := hv2.form; obtain ⟨K, hK⟩ : ∃ K : Int, (k2 : Int) = K := ⟨_, rfl⟩; rw [hK]; have HK := hid hK; have HV4 := hid ((HV3.out.move ((P1 : Int) + 1)).below hb); have HV5 := hid (HV4.out.put s (P2 : Int) K); have HV6 := hid (HV5.out.putv (.int .i64 e1) (.bool e2) (.string (str e3)) (.int .i64 e4) (.bool e5) (.slice e6 e7 e8) (.slice e9 e10 e11)); have HVal := hid (And.intro hv2 (And.intro hb.size (lt_of_heap (HV3.out.move ((P1 : Int) + 1)).v))); clear hb hv2; obtain ⟨c0, c1, c2, cz⟩ := three HV4.out.r; have cz0 := cz 0; have cz1 := cz 1; have cz2 := cz 2; clear cz; obtain ⟨f0, f1, f2, f3, f4, f5, f6, fz⟩ := seven HV5.out.v; have fz0 := fz 0; have fz1 := fz 1; have fz2 := fz 2; have fz3 := fz 3; have fz4 := fz 4; have fz5 := fz 5; have fz6 := fz 6; clear fz; obtain ⟨j0, j1, j2, jz⟩ := three HV6.out.r; have jz0 := jz 0; have jz1 := jz 1; have jz2 := jz 2; clear jz; obtain ⟨m0, m1, m2, m3, m4, m5, m6, mz⟩ := seven HV6.out.v; have mz0 := mz 0; have mz1 := mz 1; have mz2 := mz 2; have mz3 := mz 3; have mz4 := mz 4; have mz5 := mz 5; have mz6 := mz 6; clear mz; obtain ⟨ya0, ya1, ya2, yaz⟩ := three HV6.out.o1; have yaz0 := yaz 0; have yaz1 := yaz 1; have yaz2 := yaz 2; clear yaz; obtain ⟨qa0, qa1, qa2, qa3, qa4, qa5, qa6, qaz⟩ := seven HV6.out.o2; have qaz0 := qaz 0; have qaz1 := qaz 1; have qaz2 := qaz 2; have qaz3 := qaz 3; have qaz4 := qaz 4; have qaz5 := qaz 5; have qaz6 := qaz 6; clear qaz; rcases val_ways hK hcase with ⟨hkn, HCa⟩ | ⟨rfl, HCb⟩ <;> clear hcase hK))
      · have HN := hid (show T = .err k2 (s.data.toList.drop P2) from by rw [HTp.out, HDn.out P1 HD1.out]; exact HCa.out.2)
        (try simp only [Exit.inBlock, Exit.then])
        refine bodyPost_ret (results_rdval rfl _ _ _ _ 49 25 _ _ (0, 0) (0, 0) rfl rfl (out_rv (has_three HV6.out.o1) (has_seven HV6.out.o2) (Nat.ne_of_lt (Nat.lt_succ_self _)) _ _ _ _ _ _ _ _ _ _).1 (out_rv (has_three HV6.out.o1) (has_seven HV6.out.o2) (Nat.ne_of_lt (Nat.lt_succ_self _)) _ _ _ _ _ _ _ _ _ _).2 rfl rfl) rfl ?_
        rw [HN.out]
        exact ⟨P2, k2, .zero, _, hP2, by rw [HK.out], zero_val _ _, HV6.out.outB _ _ _ _ _ _ _ _ _ _, .inr ⟨HCa.out.1, rfl, rfl⟩⟩
      · have HN := hid (show T = .ok x2 (s.data.toList.drop P2) from by rw [HTp.out, HDn.out P1 HD1.out]; exact HCb.out)
        have HBD := hid (show Below ((((((((((w4.setCell ⟨w.heap.size, 0, none⟩ (.string s)).setCell ⟨w.heap.size, 1, none⟩ (.int .i64 (P2 : Int))).setCell ⟨w.heap.size, 2, none⟩ (.int .i64 0)).setCell ⟨w1.heap.size, 0, none⟩ (.int .i64 e1)).setCell ⟨w1.heap.size, 1, none⟩ (.bool e2)).setCell ⟨w1.heap.size, 2, none⟩ (.string (str e3))).setCell ⟨w1.heap.size, 3, none⟩ (.int .i64 e4)).setCell ⟨w1.heap.size, 4, none⟩ (.bool e5)).setCell ⟨w1.heap.size, 5, none⟩ (.slice e6 e7 e8)).setCell ⟨w1.heap.size, 6, none⟩ (.slice e9 e10 e11)).heap.size ((((((((((w4.setCell ⟨w.heap.size, 0, none⟩ (.string s)).setCell ⟨w.heap.size, 1, none⟩ (.int .i64 (P2 : Int))).setCell ⟨w.heap.size, 2, none⟩ (.int .i64 0)).setCell ⟨w1.heap.size, 0, none⟩ (.int .i64 e1)).setCell ⟨w1.heap.size, 1, none⟩ (.bool e2)).setCell ⟨w1.heap.size, 2, none⟩ (.string (str e3))).setCell ⟨w1.heap.size, 3, none⟩ (.int .i64 e4)).setCell ⟨w1.heap.size, 4, none⟩ (.bool e5)).setCell ⟨w1.heap.size, 5, none⟩ (.slice e6 e7 e8)).setCell ⟨w1.heap.size, 6, none⟩ (.slice e9 e10 e11)) ((((((((((w4.setCell ⟨w.heap.size, 0, none⟩ (.string s)).setCell ⟨w.heap.size, 1, none⟩ (.int .i64 (P2 : Int))).setCell ⟨w.heap.size, 2, none⟩ (.int .i64 0)).setCell ⟨w1.heap.size, 0, none⟩ (.int .i64 e1)).setCell ⟨w1.heap.size, 1, none⟩ (.bool e2)).setCell ⟨w1.heap.size, 2, none⟩ (.string (str e3))).setCell ⟨w1.heap.size, 3, none⟩ (.int .i64 e4)).setCell ⟨w1.heap.size, 4, none⟩ (.bool e5)).setCell ⟨w1.heap.size, 5, none⟩ (.slice e6 e7 e8)).setCell ⟨w1.heap.size, 6, none⟩ (.slice e9 e10 e11)).drew from below_drew (Below.refl _ _) 1)
        have HVd := hid (HV6.out.below HBD.out)
        refine wp_region_noPanic ?_
        refine any_begin 5 (by kernel_rfl) (by kernel_rfl) ?_
        refine late_begin (fun U => StV w U s (P2 : Int) w1.heap.size (.int .i64 e1) (.bool e2) (.string (str e3)) (.int .i64 e4) (.bool e5) (.slice e6 e7 e8) (.slice e9 e10 e11)) (fun _ => false) HVd.out.st (fun hS => ?_)
        have HBs := hid HBD.out.size
        have HBk := hid (fun k (hk : k < ((((((((((w4.setCell ⟨w.heap.size, 0, none⟩ (.string s)).setCell ⟨w.heap.size, 1, none⟩ (.int .i64 (P2 : Int))).setCell ⟨w.heap.size, 2, none⟩ (.int .i64 0)).setCell ⟨w1.heap.size, 0, none⟩ (.int .i64 e1)).setCell ⟨w1.heap.size, 1, none⟩ (.bool e2)).setCell ⟨w1.heap.size, 2, none⟩ (.string (str e3))).setCell ⟨w1.heap.size, 3, none⟩ (.int .i64 e4)).setCell ⟨w1.heap.size, 4, none⟩ (.bool e5)).setCell ⟨w1.heap.size, 5, none⟩ (.slice e6 e7 e8)).setCell ⟨w1.heap.size, 6, none⟩ (.slice e9 e10 e11)).heap.size) => HBD.out.block k hk)
        clear HBD
        generalize ((((((((((w4.setCell ⟨w.heap.size, 0, none⟩ (.string s)).setCell ⟨w.heap.size, 1, none⟩ (.int .i64 (P2 : Int))).setCell ⟨w.heap.size, 2, none⟩ (.int .i64 0)).setCell ⟨w1.heap.size, 0, none⟩ (.int .i64 e1)).setCell ⟨w1.heap.size, 1, none⟩ (.bool e2)).setCell ⟨w1.heap.size, 2, none⟩ (.string (str e3))).setCell ⟨w1.heap.size, 3, none⟩ (.int .i64 e4)).setCell ⟨w1.heap.size, 4, none⟩ (.bool e5)).setCell ⟨w1.heap.size, 5, none⟩ (.slice e6 e7 e8)).setCell ⟨w1.heap.size, 6, none⟩ (.slice e9 e10 e11)).drew = V at hS HVd HBs HBk ⊢
        refine late_take (i := 0) (some 85) rfl rfl (by kernel_rfl) (by kernel_rfl) (by kernel_rfl) (by kernel_rfl) (by kernel_rfl) (fun _ _ _ h => h) (by rfl) (v := ?v0t123) ?hy0t123 hS ?rest0t123
        case hy0t123 => intro w0 hSw; obtain ⟨k0, k1, k2, _⟩ := three hSw.r; obtain ⟨m0, m1, m2, m3, m4, m5, m6, _⟩ := seven hSw.v; go_simp; try with_reducible rfl
        simp only [Act.put, List.setIfInBounds_toArray, List.set_cons_zero, List.set_cons_succ]
        refine late_take (i := 2) (some 87) rfl rfl (by kernel_rfl) (by kernel_rfl) (by kernel_rfl) (by kernel_rfl) (by kernel_rfl) (fun _ _ _ h => h) (by rfl) (v := ?v2t123) ?hy2t123 hS ?rest2t123
        case hy2t123 => intro w0 hSw; obtain ⟨k0, k1, k2, _⟩ := three hSw.r; obtain ⟨m0, m1, m2, m3, m4, m5, m6, _⟩ := seven hSw.v; go_simp; try with_reducible rfl
        simp only [Act.put, List.setIfInBounds_toArray, List.set_cons_zero, List.set_cons_succ]
        refine wpAnyD_one (i := 1) (by kernel_rfl) rfl (fun K hK => ?_)
        go_simp
        go_at_call 32
        refine (rblanks_any s _ 0 hP2 HS4.out V).mono ?_
        rintro e w9 ⟨P9, _, hP9, hd9, rfl, hb9⟩
        have HV9 := hid (HVd.out.below hb9)
        have HB9 := hid (And.intro hb9.size (fun k (hk : k < V.heap.size) => hb9.block k hk))
        have HD9 := hid hd9
        clear hb9 hd9
        have hS2 := HV9.out.st
        refine hK _ _ ⟨fun _ => hS2, ?_⟩
        clear hK K
        replace hS := hS2
        clear hS2
        obtain ⟨y0, y1, y2, yz⟩ := three HV9.out.o1; have yz0 := yz 0; have yz1 := yz 1; have yz2 := yz 2; clear yz
        obtain ⟨q0, q1, q2, q3, q4, q5, q6, qz⟩ := seven HV9.out.o2; have qz0 := qz 0; have qz1 := qz 1; have qz2 := qz 2; have qz3 := qz 3; have qz4 := qz 4; have qz5 := qz 5; have qz6 := qz 6; clear qz
        refine wpAnyD_one (i := 3) (by kernel_rfl) rfl (fun K hK => ?_)
        go_simp
        refine hK _ _ ⟨fun _ => hS.out1 _ _ _, ?_⟩
        clear hK K
        refine wpAnyD_one (i := 4) (by kernel_rfl) rfl (fun K hK => ?_)
        go_simp
        refine hK _ _ ⟨fun _ => hS.out2 _ _ _ _ _ _ _ _ _ _, ?_⟩
        clear hK K
        refine late_done (by kernel_rfl) ?_ _
        refine NoPanic.normal ?_
        clear hS
        go_wp2
        (try simp only [Exit.inBlock, Exit.then])
        refine bodyPost_ret (results_rdval rfl _ _ _ _ 49 25 _ _ (0, 0) (0, 0) rfl rfl (out_rv (has_three HV9.out.o1) (has_seven HV9.out.o2) (Nat.ne_of_lt (Nat.lt_succ_self _)) _ _ _ _ _ _ _ _ _ _).1 (out_rv (has_three HV9.out.o1) (has_seven HV9.out.o2) (Nat.ne_of_lt (Nat.lt_succ_self _)) _ _ _ _ _ _ _ _ _ _).2 rfl rfl) rfl ?_
        rw [HN.out]
        refine ⟨P9, 0, x2, _, hP9, rfl, val_out (F := fun j => (w3.setCell ⟨w.heap.size, 1, none⟩ (.int .i64 ((P1 : Int) + 1))).heap.size ≤ j ∧ j < w4.heap.size) (ValIs.keep (fun j hj => ?_) (fun j hj => hj) _ _ HVal.out.1) (fun j hj => ?_) _ _ _ _ _ _ _ _ _ _, HV9.out.outB _ _ _ _ _ _ _ _ _ _, .inl ⟨rfl, by rw [HD9.out]; rfl⟩⟩
        · have h1 := HVal.out.2.2
          have h2 := HV3.out.hg
          have h3 := rv_size w4 w.heap.size w1.heap.size (.string s) (.int .i64 (P2 : Int)) (.int .i64 0) (.int .i64 e1) (.bool e2) (.string (str e3)) (.int .i64 e4) (.bool e5) (.slice e6 e7 e8) (.slice e9 e10 e11)
          have h4 := HBs.out
          rw [HB9.out.2 j (by omega), HBk.out j (by omega)]
          exact rv_keep (by omega) (by omega) _ _ _ _ _ _ _ _ _ _
        · have h1 := HVal.out.2.2
          have h2 := HV3.out.hg
          have h3 := rv_size w4 w.heap.size w1.heap.size (.string s) (.int .i64 (P2 : Int)) (.int .i64 0) (.int .i64 e1) (.bool e2) (.string (str e3)) (.int .i64 e4) (.bool e5) (.slice e6 e7 e8) (.slice e9 e10 e11)
          have h4 := HBs.out
          have h5 := HB9.out.1
          exact ⟨by omega, by omega⟩
  have n123 : ((X : Int) == 123) = false := by simp only [beq_eq_false_iff_ne, ne_eq]; omega
  by_cases h34 : X = 34
  · have hnx : nx l = 34 := UInt8.toNat_inj.1 (hX.trans h34)
    subst h34
    have hvt := vw_text (inner := inner) hnx
    rw [HT.out] at hvt
    cases htx : textQ l with
    | err k u =>
      have hk := textQ_err htx
      have q1 : ((k : Int) != 0) = true := by simp only [bne_iff_ne, ne_eq]; omega
      have HTx := hid htx
      have HN := hid (show T = .err k u from by rw [hvt, htx])
      clear hX hnx hvt htx hin
      go_enter Tryz.func19, Tryz.ntmps19
      go_wp2_with (first
        | (rw [← HW0.out]; go_at_call 32; have hcall := rblanks_any s p 0 HZ.out HS4.out W0; (with_reducible refine hcall.mono ?_); clear hcall; rintro e w1 ⟨P1, _, hP1, hd1, rfl, hb⟩; have HD1 := hid (show s.data.toList.drop P1 = l from by rw [hd1]; exact HLl.out); obtain ⟨W2, hW2⟩ : ∃ W2, W2 = (((w1.setCell ⟨w.heap.size, 0, none⟩ (.string s)).setCell ⟨w.heap.size, 1, none⟩ (.int .i64 (P1 : Int))).setCell ⟨w.heap.size, 2, none⟩ (.int .i64 0)).alloc (.cells #[.int .i64 0, .bool false, .string ⟨#[]⟩, .int .i64 0, .bool false, .slice none 0 0, .slice none 0 0] 25 (0, 0)) := ⟨_, rfl⟩; have HW2 := hid hW2; have HV2 := hid (VA.start (p := (p : Int)) (q := (P1 : Int)) (by rw [← HW0.out]; exact hb) hW2); have HR1 := hid (three_new w (.cells #[.string s, .int .i64 (p : Int), .int .i64 0] 49 (0, 0)) (.cells #[.string ⟨#[]⟩, .int .i64 0, .int .i64 0] 49 (0, 0)) (.cells #[.int .i64 0, .bool false, .string ⟨#[]⟩, .int .i64 0, .bool false, .slice none 0 0, .slice none 0 0] 25 (0, 0))); have HR2 := hid ((hb.block w.heap.size (by rw [HW0.out]; have := HR1.out.2.1; omega)).trans (show W0.heap[w.heap.size]? = some (.cells #[.string s, .int .i64 (p : Int), .int .i64 0] 49 (0, 0)) from by rw [HW0.out]; exact HR1.out.2.2.1)); obtain ⟨a0, a1, a2, az⟩ := three HR2.out; have az0 := az 0; have az1 := az 1; have az2 := az 2; have hr2 := HV2.out.r; rw [HW2.out] at hr2; obtain ⟨t0, t1, t2, _⟩ := three hr2; clear az hb hd1 hW2 hr2)
        | (rw [← HW2.out]; go_at_call 33; have hcall := rnext_any s P1 0 hP1 W2; rw [HD1.out, HX.out] at hcall; (with_reducible refine hcall.mono ?_); clear hcall; rintro e w3 ⟨rfl, hb⟩; have HV3 := hid (HV2.out.below hb); clear hb; obtain ⟨b0, b1, b2, bz⟩ := three HV3.out.r; have bz0 := bz 0; have bz1 := bz 1; have bz2 := bz 2; clear bz; obtain ⟨v0, v1, v2, v3, v4, v5, v6, vz⟩ := seven HV3.out.v; have vz0 := vz 0; have vz1 := vz 1; have vz2 := vz 2; have vz3 := vz 3; have vz4 := vz 4; have vz5 := vz 5; have vz6 := vz 6; clear vz; obtain ⟨y0, y1, y2, yz⟩ := three HV3.out.o1; have yz0 := yz 0; have yz1 := yz 1; have yz2 := yz 2; clear yz; obtain ⟨q0, q1, q2, q3, q4, q5, q6, qz⟩ := seven HV3.out.o2; have qz0 := qz 0; have qz1 := qz 1; have qz2 := qz 2; have qz3 := qz 3; have qz4 := qz 4; have qz5 := qz 5; have qz6 := qz 6; clear qz; obtain ⟨i0, i1, i2, _⟩ := three (HV3.out.set0 (.int .i64 4)).r)
        | (go_at_call 35; have HVk := hid (HV3.out.set0 (.int .i64 4)); have hcall : Calls Tryz.prog 35 #[.agg #[.string s, .int .i64 (P1 : Int), .int .i64 0]] (w3.setCell ⟨w1.heap.size, 0, none⟩ (.int .i64 4)) _ := rtext_any s P1 (P1 : Int) rfl hP1 HS.out _; rw [HD1.out, HTx.out] at hcall; (with_reducible refine hcall.mono ?_); clear hcall; rintro e w4 ⟨P2, hP2, hd2, rfl, hb⟩; have HD2 := hid hd2; have HV4 := hid (HVk.out.below hb); have HV5 := hid (HV4.out.put s (P2 : Int) (k : Int)); have HV6 := hid (HV5.out.set2 (.string ⟨#[]⟩)); clear hb hd2; obtain ⟨c0, c1, c2, cz⟩ := three HV4.out.r; have cz0 := cz 0; have cz1 := cz 1; have cz2 := cz 2; clear cz; obtain ⟨f0, f1, f2, f3, f4, f5, f6, fz⟩ := seven HV5.out.v; have fz0 := fz 0; have fz1 := fz 1; have fz2 := fz 2; have fz3 := fz 3; have fz4 := fz 4; have fz5 := fz 5; have fz6 := fz 6; clear fz; obtain ⟨j0, j1, j2, jz⟩ := three HV6.out.r; have jz0 := jz 0; have jz1 := jz 1; have jz2 := jz 2; clear jz; obtain ⟨m0, m1, m2, m3, m4, m5, m6, mz⟩ := seven HV6.out.v; have mz0 := mz 0; have mz1 := mz 1; have mz2 := mz 2; have mz3 := mz 3; have mz4 := mz 4; have mz5 := mz 5; have mz6 := mz 6; clear mz; obtain ⟨ya0, ya1, ya2, yaz⟩ := three HV6.out.o1; have yaz0 := yaz 0; have yaz1 := yaz 1; have yaz2 := yaz 2; clear yaz; obtain ⟨qa0, qa1, qa2, qa3, qa4, qa5, qa6, qaz⟩ := seven HV6.out.o2; have qaz0 := qaz 0; have qaz1 := qaz 1; have qaz2 := qaz 2; have qaz3 := qaz 3; have qaz4 := qaz 4; have qaz5 := qaz 5; have qaz6 := qaz 6; clear qaz))
      (try simp only [Exit.inBlock, Exit.then])
      refine bodyPost_ret (results_rdval rfl _ _ _ _ 49 25 _ _ (0, 0) (0, 0) rfl rfl (out_rv (has_three HV6.out.o1) (has_seven HV6.out.o2) (Nat.ne_of_lt (Nat.lt_succ_self _)) _ _ _ _ _ _ _ _ _ _).1 (out_rv (has_three HV6.out.o1) (has_seven HV6.out.o2) (Nat.ne_of_lt (Nat.lt_succ_self _)) _ _ _ _ _ _ _ _ _ _).2 rfl rfl) rfl ?_
      rw [HN.out]
      exact ⟨P2, k, .zero, _, hP2, rfl, zero_val _ _, HV6.out.outB _ _ _ _ _ _ _ _ _ _, .inr ⟨hk, rfl, by rw [HD2.out]; rfl⟩⟩
    | ok bs u =>
      have HTx := hid htx
      have HN := hid (show T = .ok (.mk 4 false bs 0 false [] []) u from by rw [hvt, htx])
      clear hX hnx hvt htx hin
      go_enter Tryz.func19, Tryz.ntmps19
      go_wp2_with (first
        | (rw [← HW0.out]; go_at_call 32; have hcall := rblanks_any s p 0 HZ.out HS4.out W0; (with_reducible refine hcall.mono ?_); clear hcall; rintro e w1 ⟨P1, _, hP1, hd1, rfl, hb⟩; have HD1 := hid (show s.data.toList.drop P1 = l from by rw [hd1]; exact HLl.out); obtain ⟨W2, hW2⟩ : ∃ W2, W2 = (((w1.setCell ⟨w.heap.size, 0, none⟩ (.string s)).setCell ⟨w.heap.size, 1, none⟩ (.int .i64 (P1 : Int))).setCell ⟨w.heap.size, 2, none⟩ (.int .i64 0)).alloc (.cells #[.int .i64 0, .bool false, .string ⟨#[]⟩, .int .i64 0, .bool false, .slice none 0 0, .slice none 0 0] 25 (0, 0)) := ⟨_, rfl⟩; have HW2 := hid hW2; have HV2 := hid (VA.start (p := (p : Int)) (q := (P1 : Int)) (by rw [← HW0.out]; exact hb) hW2); have HR1 := hid (three_new w (.cells #[.string s, .int .i64 (p : Int), .int .i64 0] 49 (0, 0)) (.cells #[.string ⟨#[]⟩, .int .i64 0, .int .i64 0] 49 (0, 0)) (.cells #[.int .i64 0, .bool false, .string ⟨#[]⟩, .int .i64 0, .bool false, .slice none 0 0, .slice none 0 0] 25 (0, 0))); have HR2 := hid ((hb.block w.heap.size (by rw [HW0.out]; have := HR1.out.2.1; omega)).trans (show W0.heap[w.heap.size]? = some (.cells #[.string s, .int .i64 (p : Int), .int .i64 0] 49 (0, 0)) from by rw [HW0.out]; exact HR1.out.2.2.1)); obtain ⟨a0, a1, a2, az⟩ := three HR2.out; have az0 := az 0; have az1 := az 1; have az2 := az 2; have hr2 := HV2.out.r; rw [HW2.out] at hr2; obtain ⟨t0, t1, t2, _⟩ := three hr2; clear az hb hd1 hW2 hr2)
        | (rw [← HW2.out]; go_at_call 33; have hcall := rnext_any s P1 0 hP1 W2; rw [HD1.out, HX.out] at hcall; (with_reducible refine hcall.mono ?_); clear hcall; rintro e w3 ⟨rfl, hb⟩; have HV3 := hid (HV2.out.below hb); clear hb; obtain ⟨b0, b1, b2, bz⟩ := three HV3.out.r; have bz0 := bz 0; have bz1 := bz 1; have bz2 := bz 2; clear bz; obtain ⟨v0, v1, v2, v3, v4, v5, v6, vz⟩ := seven HV3.out.v; have vz0 := vz 0; have vz1 := vz 1; have vz2 := vz 2; have vz3 := vz 3; have vz4 := vz 4; have vz5 := vz 5; have vz6 := vz 6; clear vz; obtain ⟨y0, y1, y2, yz⟩ := three HV3.out.o1; have yz0 := yz 0; have yz1 := yz 1; have yz2 := yz 2; clear yz; obtain ⟨q0, q1, q2, q3, q4, q5, q6, qz⟩ := seven HV3.out.o2; have qz0 := qz 0; have qz1 := qz 1; have qz2 := qz 2; have qz3 := qz 3; have qz4 := qz 4; have qz5 := qz 5; have qz6 := qz 6; clear qz; obtain ⟨i0, i1, i2, _⟩ := three (HV3.out.set0 (.int .i64 4)).r)
        | (go_at_call 35; have HVk := hid (HV3.out.set0 (.int .i64 4)); have hcall : Calls Tryz.prog 35 #[.agg #[.string s, .int .i64 (P1 : Int), .int .i64 0]] (w3.setCell ⟨w1.heap.size, 0, none⟩ (.int .i64 4)) _ := rtext_any s P1 (P1 : Int) rfl hP1 HS.out _; rw [HD1.out, HTx.out] at hcall; (with_reducible refine hcall.mono ?_); clear hcall; rintro e w4 ⟨P2, hP2, hd2, rfl, hb⟩; have HD2 := hid hd2; have HV4 := hid (HVk.out.below hb); have HV5 := hid (HV4.out.put s (P2 : Int) 0); have HV6 := hid (HV5.out.set2 (.string (str bs))); clear hb hd2; obtain ⟨c0, c1, c2, cz⟩ := three HV4.out.r; have cz0 := cz 0; have cz1 := cz 1; have cz2 := cz 2; clear cz; obtain ⟨f0, f1, f2, f3, f4, f5, f6, fz⟩ := seven HV5.out.v; have fz0 := fz 0; have fz1 := fz 1; have fz2 := fz 2; have fz3 := fz 3; have fz4 := fz 4; have fz5 := fz 5; have fz6 := fz 6; clear fz; obtain ⟨j0, j1, j2, jz⟩ := three HV6.out.r; have jz0 := jz 0; have jz1 := jz 1; have jz2 := jz 2; clear jz; obtain ⟨m0, m1, m2, m3, m4, m5, m6, mz⟩ := seven HV6.out.v; have mz0 := mz 0; have mz1 := mz 1; have mz2 := mz 2; have mz3 := mz 3; have mz4 := mz 4; have mz5 := mz 5; have mz6 := mz 6; clear mz; obtain ⟨ya0, ya1, ya2, yaz⟩ := three HV6.out.o1; have yaz0 := yaz 0; have yaz1 := yaz 1; have yaz2 := yaz 2; clear yaz; obtain ⟨qa0, qa1, qa2, qa3, qa4, qa5, qa6, qaz⟩ := seven HV6.out.o2; have qaz0 := qaz 0; have qaz1 := qaz 1; have qaz2 := qaz 2; have qaz3 := qaz 3; have qaz4 := qaz 4; have qaz5 := qaz 5; have qaz6 := qaz 6; clear qaz))
      have HBD := hid (show Below ((((w4.setCell ⟨w.heap.size, 0, none⟩ (.string s)).setCell ⟨w.heap.size, 1, none⟩ (.int .i64 (P2 : Int))).setCell ⟨w.heap.size, 2, none⟩ (.int .i64 0)).setCell ⟨w1.heap.size, 2, none⟩ (.string (str bs))).heap.size ((((w4.setCell ⟨w.heap.size, 0, none⟩ (.string s)).setCell ⟨w.heap.size, 1, none⟩ (.int .i64 (P2 : Int))).setCell ⟨w.heap.size, 2, none⟩ (.int .i64 0)).setCell ⟨w1.heap.size, 2, none⟩ (.string (str bs))) ((((w4.setCell ⟨w.heap.size, 0, none⟩ (.string s)).setCell ⟨w.heap.size, 1, none⟩ (.int .i64 (P2 : Int))).setCell ⟨w.heap.size, 2, none⟩ (.int .i64 0)).setCell ⟨w1.heap.size, 2, none⟩ (.string (str bs))).drew from below_drew (Below.refl _ _) 1)
      have HVd := hid (HV6.out.below HBD.out)
      refine wp_region_noPanic ?_
      refine any_begin 5 (by kernel_rfl) (by kernel_rfl) ?_
      refine late_begin (fun U => StV w U s (P2 : Int) w1.heap.size (.int .i64 4) (.bool false) (.string (str bs)) (.int .i64 0) (.bool false) (.slice none 0 0) (.slice none 0 0)) (fun _ => false) HVd.out.st (fun hS => ?_)
      have HBs := hid HBD.out.size
      have HBk := hid (fun k (hk : k < ((((w4.setCell ⟨w.heap.size, 0, none⟩ (.string s)).setCell ⟨w.heap.size, 1, none⟩ (.int .i64 (P2 : Int))).setCell ⟨w.heap.size, 2, none⟩ (.int .i64 0)).setCell ⟨w1.heap.size, 2, none⟩ (.string (str bs))).heap.size) => HBD.out.block k hk)
      clear HBD
      generalize ((((w4.setCell ⟨w.heap.size, 0, none⟩ (.string s)).setCell ⟨w.heap.size, 1, none⟩ (.int .i64 (P2 : Int))).setCell ⟨w.heap.size, 2, none⟩ (.int .i64 0)).setCell ⟨w1.heap.size, 2, none⟩ (.string (str bs))).drew = V at hS HVd HBs HBk ⊢
      refine late_take (i := 0) (some 85) rfl rfl (by kernel_rfl) (by kernel_rfl) (by kernel_rfl) (by kernel_rfl) (by kernel_rfl) (fun _ _ _ h => h) (by rfl) (v := ?v0tt) ?hy0tt hS ?rest0tt
      case hy0tt => intro w0 hSw; obtain ⟨k0, k1, k2, _⟩ := three hSw.r; obtain ⟨m0, m1, m2, m3, m4, m5, m6, _⟩ := seven hSw.v; go_simp; try with_reducible rfl
      simp only [Act.put, List.setIfInBounds_toArray, List.set_cons_zero, List.set_cons_succ]
      refine late_take (i := 2) (some 87) rfl rfl (by kernel_rfl) (by kernel_rfl) (by kernel_rfl) (by kernel_rfl) (by kernel_rfl) (fun _ _ _ h => h) (by rfl) (v := ?v2tt) ?hy2tt hS ?rest2tt
      case hy2tt => intro w0 hSw; obtain ⟨k0, k1, k2, _⟩ := three hSw.r; obtain ⟨m0, m1, m2, m3, m4, m5, m6, _⟩ := seven hSw.v; go_simp; try with_reducible rfl
      simp only [Act.put, List.setIfInBounds_toArray, List.set_cons_zero, List.set_cons_succ]
      refine wpAnyD_one (i := 1) (by kernel_rfl) rfl (fun K hK => ?_)
      go_simp
      go_at_call 32
      refine (rblanks_any s _ 0 hP2 HS4.out V).mono ?_
      rintro e w9 ⟨P9, _, hP9, hd9, rfl, hb9⟩
      have HV9 := hid (HVd.out.below hb9)
      have HB9 := hid (And.intro hb9.size (fun k (hk : k < V.heap.size) => hb9.block k hk))
      have HD9 := hid hd9
      clear hb9 hd9
      have hS2 := HV9.out.st
      refine hK _ _ ⟨fun _ => hS2, ?_⟩
      clear hK K
      replace hS := hS2
      clear hS2
      obtain ⟨y0, y1, y2, yz⟩ := three HV9.out.o1; have yz0 := yz 0; have yz1 := yz 1; have yz2 := yz 2; clear yz
      obtain ⟨q0, q1, q2, q3, q4, q5, q6, qz⟩ := seven HV9.out.o2; have qz0 := qz 0; have qz1 := qz 1; have qz2 := qz 2; have qz3 := qz 3; have qz4 := qz 4; have qz5 := qz 5; have qz6 := qz 6; clear qz
      refine wpAnyD_one (i := 3) (by kernel_rfl) rfl (fun K hK => ?_)
      go_simp
      refine hK _ _ ⟨fun _ => hS.out1 _ _ _, ?_⟩
      clear hK K
      refine wpAnyD_one (i := 4) (by kernel_rfl) rfl (fun K hK => ?_)
      go_simp
      refine hK _ _ ⟨fun _ => hS.out2 _ _ _ _ _ _ _ _ _ _, ?_⟩
      clear hK K
      refine late_done (by kernel_rfl) ?_ _
      refine NoPanic.normal ?_
      clear hS
      go_wp2
      (try simp only [Exit.inBlock, Exit.then])
      refine bodyPost_ret (results_rdval rfl _ _ _ _ 49 25 _ _ (0, 0) (0, 0) rfl rfl (out_rv (has_three HV9.out.o1) (has_seven HV9.out.o2) (Nat.ne_of_lt (Nat.lt_succ_self _)) _ _ _ _ _ _ _ _ _ _).1 (out_rv (has_three HV9.out.o1) (has_seven HV9.out.o2) (Nat.ne_of_lt (Nat.lt_succ_self _)) _ _ _ _ _ _ _ _ _ _).2 rfl rfl) rfl ?_
      rw [HN.out]
      exact ⟨P9, 0, _, _, hP9, rfl, val_out (flat_val _ (fun _ => False) 4 false bs 0 false) (fun _ h => h.elim) _ _ _ _ _ _ _ _ _ _, HV9.out.outB _ _ _ _ _ _ _ _ _ _, .inl ⟨rfl, by rw [HD9.out, HD2.out]; rfl⟩⟩
  have n34 : ((X : Int) == 34) = false := by simp only [beq_eq_false_iff_ne, ne_eq]; omega
  by_cases h116 : X = 116
  · have hnx : nx l = 116 := UInt8.toNat_inj.1 (hX.trans h116)
    subst h116
    have hvt := vw_true (inner := inner) hnx
    rw [HT.out] at hvt
    unfold wordS at hvt
    cases hwd : word [116, 114, 117, 101] l with
    | err k u =>
      obtain rfl := word_three _ _ _ _ hwd
      have HWd := hid hwd
      have HN := hid (show T = .err 3 u from by rw [hvt, hwd])
      clear hX hnx hvt hwd hin
      go_enter Tryz.func19, Tryz.ntmps19
      go_wp2_with (first
        | (rw [← HW0.out]; go_at_call 32; have hcall := rblanks_any s p 0 HZ.out HS4.out W0; (with_reducible refine hcall.mono ?_); clear hcall; rintro e w1 ⟨P1, _, hP1, hd1, rfl, hb⟩; have HD1 := hid (show s.data.toList.drop P1 = l from by rw [hd1]; exact HLl.out); obtain ⟨W2, hW2⟩ : ∃ W2, W2 = (((w1.setCell ⟨w.heap.size, 0, none⟩ (.string s)).setCell ⟨w.heap.size, 1, none⟩ (.int .i64 (P1 : Int))).setCell ⟨w.heap.size, 2, none⟩ (.int .i64 0)).alloc (.cells #[.int .i64 0, .bool false, .string ⟨#[]⟩, .int .i64 0, .bool false, .slice none 0 0, .slice none 0 0] 25 (0, 0)) := ⟨_, rfl⟩; have HW2 := hid hW2; have HV2 := hid (VA.start (p := (p : Int)) (q := (P1 : Int)) (by rw [← HW0.out]; exact hb) hW2); have HR1 := hid (three_new w (.cells #[.string s, .int .i64 (p : Int), .int .i64 0] 49 (0, 0)) (.cells #[.string ⟨#[]⟩, .int .i64 0, .int .i64 0] 49 (0, 0)) (.cells #[.int .i64 0, .bool false, .string ⟨#[]⟩, .int .i64 0, .bool false, .slice none 0 0, .slice none 0 0] 25 (0, 0))); have HR2 := hid ((hb.block w.heap.size (by rw [HW0.out]; have := HR1.out.2.1; omega)).trans (show W0.heap[w.heap.size]? = some (.cells #[.string s, .int .i64 (p : Int), .int .i64 0] 49 (0, 0)) from by rw [HW0.out]; exact HR1.out.2.2.1)); obtain ⟨a0, a1, a2, az⟩ := three HR2.out; have az0 := az 0; have az1 := az 1; have az2 := az 2; have hr2 := HV2.out.r; rw [HW2.out] at hr2; obtain ⟨t0, t1, t2, _⟩ := three hr2; clear az hb hd1 hW2 hr2)
        | (rw [← HW2.out]; go_at_call 33; have hcall := rnext_any s P1 0 hP1 W2; rw [HD1.out, HX.out] at hcall; (with_reducible refine hcall.mono ?_); clear hcall; rintro e w3 ⟨rfl, hb⟩; have HV3 := hid (HV2.out.below hb); clear hb; obtain ⟨b0, b1, b2, bz⟩ := three HV3.out.r; have bz0 := bz 0; have bz1 := bz 1; have bz2 := bz 2; clear bz; obtain ⟨v0, v1, v2, v3, v4, v5, v6, vz⟩ := seven HV3.out.v; have vz0 := vz 0; have vz1 := vz 1; have vz2 := vz 2; have vz3 := vz 3; have vz4 := vz 4; have vz5 := vz 5; have vz6 := vz 6; clear vz; obtain ⟨y0, y1, y2, yz⟩ := three HV3.out.o1; have yz0 := yz 0; have yz1 := yz 1; have yz2 := yz 2; clear yz; obtain ⟨q0, q1, q2, q3, q4, q5, q6, qz⟩ := seven HV3.out.o2; have qz0 := qz 0; have qz1 := qz 1; have qz2 := qz 2; have qz3 := qz 3; have qz4 := qz 4; have qz5 := qz 5; have qz6 := qz 6; clear qz)
        | (go_at_call 36; have hcall : Calls Tryz.prog 36 #[.agg #[.string s, .int .i64 (P1 : Int), .int .i64 0], .string ⟨#[116, 114, 117, 101]⟩] w3 _ := rword_any s P1 [116, 114, 117, 101] hP1 HS4.out (by decide) (by decide) _; rw [HD1.out, HWd.out] at hcall; (with_reducible refine hcall.mono ?_); clear hcall; rintro e w4 ⟨P2, hP2, hd2, rfl, hb⟩; have HD2 := hid hd2; have HV4 := hid (HV3.out.below hb); have HV5 := hid (HV4.out.put s (P2 : Int) 3); have HV6 := hid (HV5.out.putv (.int .i64 2) (.bool true) (.string ⟨#[]⟩) (.int .i64 0) (.bool false) (.slice none 0 0) (.slice none 0 0)); clear hb hd2; obtain ⟨c0, c1, c2, cz⟩ := three HV4.out.r; have cz0 := cz 0; have cz1 := cz 1; have cz2 := cz 2; clear cz; obtain ⟨f0, f1, f2, f3, f4, f5, f6, fz⟩ := seven HV5.out.v; have fz0 := fz 0; have fz1 := fz 1; have fz2 := fz 2; have fz3 := fz 3; have fz4 := fz 4; have fz5 := fz 5; have fz6 := fz 6; clear fz; obtain ⟨j0, j1, j2, jz⟩ := three HV6.out.r; have jz0 := jz 0; have jz1 := jz 1; have jz2 := jz 2; clear jz; obtain ⟨m0, m1, m2, m3, m4, m5, m6, mz⟩ := seven HV6.out.v; have mz0 := mz 0; have mz1 := mz 1; have mz2 := mz 2; have mz3 := mz 3; have mz4 := mz 4; have mz5 := mz 5; have mz6 := mz 6; clear mz; obtain ⟨ya0, ya1, ya2, yaz⟩ := three HV6.out.o1; have yaz0 := yaz 0; have yaz1 := yaz 1; have yaz2 := yaz 2; clear yaz; obtain ⟨qa0, qa1, qa2, qa3, qa4, qa5, qa6, qaz⟩ := seven HV6.out.o2; have qaz0 := qaz 0; have qaz1 := qaz 1; have qaz2 := qaz 2; have qaz3 := qaz 3; have qaz4 := qaz 4; have qaz5 := qaz 5; have qaz6 := qaz 6; clear qaz))
      (try simp only [Exit.inBlock, Exit.then])
      refine bodyPost_ret (results_rdval rfl _ _ _ _ 49 25 _ _ (0, 0) (0, 0) rfl rfl (out_rv (has_three HV6.out.o1) (has_seven HV6.out.o2) (Nat.ne_of_lt (Nat.lt_succ_self _)) _ _ _ _ _ _ _ _ _ _).1 (out_rv (has_three HV6.out.o1) (has_seven HV6.out.o2) (Nat.ne_of_lt (Nat.lt_succ_self _)) _ _ _ _ _ _ _ _ _ _).2 rfl rfl) rfl ?_
      rw [HN.out]
      exact ⟨P2, 3, .zero, _, hP2, rfl, zero_val _ _, HV6.out.outB _ _ _ _ _ _ _ _ _ _, .inr ⟨by omega, rfl, by rw [HD2.out]; rfl⟩⟩
    | ok y u =>
      have HWd := hid hwd
      have HN := hid (show T = .ok (.mk 2 true [] 0 false [] []) u from by rw [hvt, hwd])
      clear hX hnx hvt hwd hin
      go_enter Tryz.func19, Tryz.ntmps19
      go_wp2_with (first
        | (rw [← HW0.out]; go_at_call 32; have hcall := rblanks_any s p 0 HZ.out HS4.out W0; (with_reducible refine hcall.mono ?_); clear hcall; rintro e w1 ⟨P1, _, hP1, hd1, rfl, hb⟩; have HD1 := hid (show s.data.toList.drop P1 = l from by rw [hd1]; exact HLl.out); obtain ⟨W2, hW2⟩ : ∃ W2, W2 = (((w1.setCell ⟨w.heap.size, 0, none⟩ (.string s)).setCell ⟨w.heap.size, 1, none⟩ (.int .i64 (P1 : Int))).setCell ⟨w.heap.size, 2, none⟩ (.int .i64 0)).alloc (.cells #[.int .i64 0, .bool false, .string ⟨#[]⟩, .int .i64 0, .bool false, .slice none 0 0, .slice none 0 0] 25 (0, 0)) := ⟨_, rfl⟩; have HW2 := hid hW2; have HV2 := hid (VA.start (p := (p : Int)) (q := (P1 : Int)) (by rw [← HW0.out]; exact hb) hW2); have HR1 := hid (three_new w (.cells #[.string s, .int .i64 (p : Int), .int .i64 0] 49 (0, 0)) (.cells #[.string ⟨#[]⟩, .int .i64 0, .int .i64 0] 49 (0, 0)) (.cells #[.int .i64 0, .bool false, .string ⟨#[]⟩, .int .i64 0, .bool false, .slice none 0 0, .slice none 0 0] 25 (0, 0))); have HR2 := hid ((hb.block w.heap.size (by rw [HW0.out]; have := HR1.out.2.1; omega)).trans (show W0.heap[w.heap.size]? = some (.cells #[.string s, .int .i64 (p : Int), .int .i64 0] 49 (0, 0)) from by rw [HW0.out]; exact HR1.out.2.2.1)); obtain ⟨a0, a1, a2, az⟩ := three HR2.out; have az0 := az 0; have az1 := az 1; have az2 := az 2; have hr2 := HV2.out.r; rw [HW2.out] at hr2; obtain ⟨t0, t1, t2, _⟩ := three hr2; clear az hb hd1 hW2 hr2)
        | (rw [← HW2.out]; go_at_call 33; have hcall := rnext_any s P1 0 hP1 W2; rw [HD1.out, HX.out] at hcall; (with_reducible refine hcall.mono ?_); clear hcall; rintro e w3 ⟨rfl, hb⟩; have HV3 := hid (HV2.out.below hb); clear hb; obtain ⟨b0, b1, b2, bz⟩ := three HV3.out.r; have bz0 := bz 0; have bz1 := bz 1; have bz2 := bz 2; clear bz; obtain ⟨v0, v1, v2, v3, v4, v5, v6, vz⟩ := seven HV3.out.v; have vz0 := vz 0; have vz1 := vz 1; have vz2 := vz 2; have vz3 := vz 3; have vz4 := vz 4; have vz5 := vz 5; have vz6 := vz 6; clear vz; obtain ⟨y0, y1, y2, yz⟩ := three HV3.out.o1; have yz0 := yz 0; have yz1 := yz 1; have yz2 := yz 2; clear yz; obtain ⟨q0, q1, q2, q3, q4, q5, q6, qz⟩ := seven HV3.out.o2; have qz0 := qz 0; have qz1 := qz 1; have qz2 := qz 2; have qz3 := qz 3; have qz4 := qz 4; have qz5 := qz 5; have qz6 := qz 6; clear qz)
        | (go_at_call 36; have hcall : Calls Tryz.prog 36 #[.agg #[.string s, .int .i64 (P1 : Int), .int .i64 0], .string ⟨#[116, 114, 117, 101]⟩] w3 _ := rword_any s P1 [116, 114, 117, 101] hP1 HS4.out (by decide) (by decide) _; rw [HD1.out, HWd.out] at hcall; (with_reducible refine hcall.mono ?_); clear hcall; rintro e w4 ⟨P2, hP2, hd2, rfl, hb⟩; have HD2 := hid hd2; have HV4 := hid (HV3.out.below hb); have HV5 := hid (HV4.out.put s (P2 : Int) 0); have HV6 := hid (HV5.out.putv (.int .i64 2) (.bool true) (.string ⟨#[]⟩) (.int .i64 0) (.bool false) (.slice none 0 0) (.slice none 0 0)); clear hb hd2; obtain ⟨c0, c1, c2, cz⟩ := three HV4.out.r; have cz0 := cz 0; have cz1 := cz 1; have cz2 := cz 2; clear cz; obtain ⟨f0, f1, f2, f3, f4, f5, f6, fz⟩ := seven HV5.out.v; have fz0 := fz 0; have fz1 := fz 1; have fz2 := fz 2; have fz3 := fz 3; have fz4 := fz 4; have fz5 := fz 5; have fz6 := fz 6; clear fz; obtain ⟨j0, j1, j2, jz⟩ := three HV6.out.r; have jz0 := jz 0; have jz1 := jz 1; have jz2 := jz 2; clear jz; obtain ⟨m0, m1, m2, m3, m4, m5, m6, mz⟩ := seven HV6.out.v; have mz0 := mz 0; have mz1 := mz 1; have mz2 := mz 2; have mz3 := mz 3; have mz4 := mz 4; have mz5 := mz 5; have mz6 := mz 6; clear mz; obtain ⟨ya0, ya1, ya2, yaz⟩ := three HV6.out.o1; have yaz0 := yaz 0; have yaz1 := yaz 1; have yaz2 := yaz 2; clear yaz; obtain ⟨qa0, qa1, qa2, qa3, qa4, qa5, qa6, qaz⟩ := seven HV6.out.o2; have qaz0 := qaz 0; have qaz1 := qaz 1; have qaz2 := qaz 2; have qaz3 := qaz 3; have qaz4 := qaz 4; have qaz5 := qaz 5; have qaz6 := qaz 6; clear qaz))
      have HBD := hid (show Below ((((((((((w4.setCell ⟨w.heap.size, 0, none⟩ (.string s)).setCell ⟨w.heap.size, 1, none⟩ (.int .i64 (P2 : Int))).setCell ⟨w.heap.size, 2, none⟩ (.int .i64 0)).setCell ⟨w1.heap.size, 0, none⟩ (.int .i64 2)).setCell ⟨w1.heap.size, 1, none⟩ (.bool true)).setCell ⟨w1.heap.size, 2, none⟩ (.string ⟨#[]⟩)).setCell ⟨w1.heap.size, 3, none⟩ (.int .i64 0)).setCell ⟨w1.heap.size, 4, none⟩ (.bool false)).setCell ⟨w1.heap.size, 5, none⟩ (.slice none 0 0)).setCell ⟨w1.heap.size, 6, none⟩ (.slice none 0 0)).heap.size ((((((((((w4.setCell ⟨w.heap.size, 0, none⟩ (.string s)).setCell ⟨w.heap.size, 1, none⟩ (.int .i64 (P2 : Int))).setCell ⟨w.heap.size, 2, none⟩ (.int .i64 0)).setCell ⟨w1.heap.size, 0, none⟩ (.int .i64 2)).setCell ⟨w1.heap.size, 1, none⟩ (.bool true)).setCell ⟨w1.heap.size, 2, none⟩ (.string ⟨#[]⟩)).setCell ⟨w1.heap.size, 3, none⟩ (.int .i64 0)).setCell ⟨w1.heap.size, 4, none⟩ (.bool false)).setCell ⟨w1.heap.size, 5, none⟩ (.slice none 0 0)).setCell ⟨w1.heap.size, 6, none⟩ (.slice none 0 0)) ((((((((((w4.setCell ⟨w.heap.size, 0, none⟩ (.string s)).setCell ⟨w.heap.size, 1, none⟩ (.int .i64 (P2 : Int))).setCell ⟨w.heap.size, 2, none⟩ (.int .i64 0)).setCell ⟨w1.heap.size, 0, none⟩ (.int .i64 2)).setCell ⟨w1.heap.size, 1, none⟩ (.bool true)).setCell ⟨w1.heap.size, 2, none⟩ (.string ⟨#[]⟩)).setCell ⟨w1.heap.size, 3, none⟩ (.int .i64 0)).setCell ⟨w1.heap.size, 4, none⟩ (.bool false)).setCell ⟨w1.heap.size, 5, none⟩ (.slice none 0 0)).setCell ⟨w1.heap.size, 6, none⟩ (.slice none 0 0)).drew from below_drew (Below.refl _ _) 1)
      have HVd := hid (HV6.out.below HBD.out)
      refine wp_region_noPanic ?_
      refine any_begin 5 (by kernel_rfl) (by kernel_rfl) ?_
      refine late_begin (fun U => StV w U s (P2 : Int) w1.heap.size (.int .i64 2) (.bool true) (.string ⟨#[]⟩) (.int .i64 0) (.bool false) (.slice none 0 0) (.slice none 0 0)) (fun _ => false) HVd.out.st (fun hS => ?_)
      have HBs := hid HBD.out.size
      have HBk := hid (fun k (hk : k < ((((((((((w4.setCell ⟨w.heap.size, 0, none⟩ (.string s)).setCell ⟨w.heap.size, 1, none⟩ (.int .i64 (P2 : Int))).setCell ⟨w.heap.size, 2, none⟩ (.int .i64 0)).setCell ⟨w1.heap.size, 0, none⟩ (.int .i64 2)).setCell ⟨w1.heap.size, 1, none⟩ (.bool true)).setCell ⟨w1.heap.size, 2, none⟩ (.string ⟨#[]⟩)).setCell ⟨w1.heap.size, 3, none⟩ (.int .i64 0)).setCell ⟨w1.heap.size, 4, none⟩ (.bool false)).setCell ⟨w1.heap.size, 5, none⟩ (.slice none 0 0)).setCell ⟨w1.heap.size, 6, none⟩ (.slice none 0 0)).heap.size) => HBD.out.block k hk)
      clear HBD
      generalize ((((((((((w4.setCell ⟨w.heap.size, 0, none⟩ (.string s)).setCell ⟨w.heap.size, 1, none⟩ (.int .i64 (P2 : Int))).setCell ⟨w.heap.size, 2, none⟩ (.int .i64 0)).setCell ⟨w1.heap.size, 0, none⟩ (.int .i64 2)).setCell ⟨w1.heap.size, 1, none⟩ (.bool true)).setCell ⟨w1.heap.size, 2, none⟩ (.string ⟨#[]⟩)).setCell ⟨w1.heap.size, 3, none⟩ (.int .i64 0)).setCell ⟨w1.heap.size, 4, none⟩ (.bool false)).setCell ⟨w1.heap.size, 5, none⟩ (.slice none 0 0)).setCell ⟨w1.heap.size, 6, none⟩ (.slice none 0 0)).drew = V at hS HVd HBs HBk ⊢
      refine late_take (i := 0) (some 85) rfl rfl (by kernel_rfl) (by kernel_rfl) (by kernel_rfl) (by kernel_rfl) (by kernel_rfl) (fun _ _ _ h => h) (by rfl) (v := ?v0w116) ?hy0w116 hS ?rest0w116
      case hy0w116 => intro w0 hSw; obtain ⟨k0, k1, k2, _⟩ := three hSw.r; obtain ⟨m0, m1, m2, m3, m4, m5, m6, _⟩ := seven hSw.v; go_simp; try with_reducible rfl
      simp only [Act.put, List.setIfInBounds_toArray, List.set_cons_zero, List.set_cons_succ]
      refine late_take (i := 2) (some 87) rfl rfl (by kernel_rfl) (by kernel_rfl) (by kernel_rfl) (by kernel_rfl) (by kernel_rfl) (fun _ _ _ h => h) (by rfl) (v := ?v2w116) ?hy2w116 hS ?rest2w116
      case hy2w116 => intro w0 hSw; obtain ⟨k0, k1, k2, _⟩ := three hSw.r; obtain ⟨m0, m1, m2, m3, m4, m5, m6, _⟩ := seven hSw.v; go_simp; try with_reducible rfl
      simp only [Act.put, List.setIfInBounds_toArray, List.set_cons_zero, List.set_cons_succ]
      refine wpAnyD_one (i := 1) (by kernel_rfl) rfl (fun K hK => ?_)
      go_simp
      go_at_call 32
      refine (rblanks_any s _ 0 hP2 HS4.out V).mono ?_
      rintro e w9 ⟨P9, _, hP9, hd9, rfl, hb9⟩
      have HV9 := hid (HVd.out.below hb9)
      have HB9 := hid (And.intro hb9.size (fun k (hk : k < V.heap.size) => hb9.block k hk))
      have HD9 := hid hd9
      clear hb9 hd9
      have hS2 := HV9.out.st
      refine hK _ _ ⟨fun _ => hS2, ?_⟩
      clear hK K
      replace hS := hS2
      clear hS2
      obtain ⟨y0, y1, y2, yz⟩ := three HV9.out.o1; have yz0 := yz 0; have yz1 := yz 1; have yz2 := yz 2; clear yz
      obtain ⟨q0, q1, q2, q3, q4, q5, q6, qz⟩ := seven HV9.out.o2; have qz0 := qz 0; have qz1 := qz 1; have qz2 := qz 2; have qz3 := qz 3; have qz4 := qz 4; have qz5 := qz 5; have qz6 := qz 6; clear qz
      refine wpAnyD_one (i := 3) (by kernel_rfl) rfl (fun K hK => ?_)
      go_simp
      refine hK _ _ ⟨fun _ => hS.out1 _ _ _, ?_⟩
      clear hK K
      refine wpAnyD_one (i := 4) (by kernel_rfl) rfl (fun K hK => ?_)
      go_simp
      refine hK _ _ ⟨fun _ => hS.out2 _ _ _ _ _ _ _ _ _ _, ?_⟩
      clear hK K
      refine late_done (by kernel_rfl) ?_ _
      refine NoPanic.normal ?_
      clear hS
      go_wp2
      (try simp only [Exit.inBlock, Exit.then])
      refine bodyPost_ret (results_rdval rfl _ _ _ _ 49 25 _ _ (0, 0) (0, 0) rfl rfl (out_rv (has_three HV9.out.o1) (has_seven HV9.out.o2) (Nat.ne_of_lt (Nat.lt_succ_self _)) _ _ _ _ _ _ _ _ _ _).1 (out_rv (has_three HV9.out.o1) (has_seven HV9.out.o2) (Nat.ne_of_lt (Nat.lt_succ_self _)) _ _ _ _ _ _ _ _ _ _).2 rfl rfl) rfl ?_
      rw [HN.out]
      exact ⟨P9, 0, _, _, hP9, rfl, val_out (flat_val _ (fun _ => False) 2 true [] 0 false) (fun _ h => h.elim) _ _ _ _ _ _ _ _ _ _, HV9.out.outB _ _ _ _ _ _ _ _ _ _, .inl ⟨rfl, by rw [HD9.out, HD2.out]; rfl⟩⟩
  have n116 : ((X : Int) == 116) = false := by simp only [beq_eq_false_iff_ne, ne_eq]; omega
  by_cases h102 : X = 102
  · have hnx : nx l = 102 := UInt8.toNat_inj.1 (hX.trans h102)
    subst h102
    have hvt := vw_false (inner := inner) hnx
    rw [HT.out] at hvt
    unfold wordS at hvt
    cases hwd : word [102, 97, 108, 115, 101] l with
    | err k u =>
      obtain rfl := word_three _ _ _ _ hwd
      have HWd := hid hwd
      have HN := hid (show T = .err 3 u from by rw [hvt, hwd])
      clear hX hnx hvt hwd hin
      go_enter Tryz.func19, Tryz.ntmps19
      go_wp2_with (first
        | (rw [← HW0.out]; go_at_call 32; have hcall := rblanks_any s p 0 HZ.out HS4.out W0; (with_reducible refine hcall.mono ?_); clear hcall; rintro e w1 ⟨P1, _, hP1, hd1, rfl, hb⟩; have HD1 := hid (show s.data.toList.drop P1 = l from by rw [hd1]; exact HLl.out); obtain ⟨W2, hW2⟩ : ∃ W2, W2 = (((w1.setCell ⟨w.heap.size, 0, none⟩ (.string s)).setCell ⟨w.heap.size, 1, none⟩ (.int .i64 (P1 : Int))).setCell ⟨w.heap.size, 2, none⟩ (.int .i64 0)).alloc (.cells #[.int .i64 0, .bool false, .string ⟨#[]⟩, .int .i64 0, .bool false, .slice none 0 0, .slice none 0 0] 25 (0, 0)) := ⟨_, rfl⟩; have HW2 := hid hW2; have HV2 := hid (VA.start (p := (p : Int)) (q := (P1 : Int)) (by rw [← HW0.out]; exact hb) hW2); have HR1 := hid (three_new w (.cells #[.string s, .int .i64 (p : Int), .int .i64 0] 49 (0, 0)) (.cells #[.string ⟨#[]⟩, .int .i64 0, .int .i64 0] 49 (0, 0)) (.cells #[.int .i64 0, .bool false, .string ⟨#[]⟩, .int .i64 0, .bool false, .slice none 0 0, .slice none 0 0] 25 (0, 0))); have HR2 := hid ((hb.block w.heap.size (by rw [HW0.out]; have := HR1.out.2.1; omega)).trans (show W0.heap[w.heap.size]? = some (.cells #[.string s, .int .i64 (p : Int), .int .i64 0] 49 (0, 0)) from by rw [HW0.out]; exact HR1.out.2.2.1)); obtain ⟨a0, a1, a2, az⟩ := three HR2.out; have az0 := az 0; have az1 := az 1; have az2 := az 2; have hr2 := HV2.out.r; rw [HW2.out] at hr2; obtain ⟨t0, t1, t2, _⟩ := three hr2; clear az hb hd1 hW2 hr2)
        | (rw [← HW2.out]; go_at_call 33; have hcall := rnext_any s P1 0 hP1 W2; rw [HD1.out, HX.out] at hcall; (with_reducible refine hcall.mono ?_); clear hcall; rintro e w3 ⟨rfl, hb⟩; have HV3 := hid (HV2.out.below hb); clear hb; obtain ⟨b0, b1, b2, bz⟩ := three HV3.out.r; have bz0 := bz 0; have bz1 := bz 1; have bz2 := bz 2; clear bz; obtain ⟨v0, v1, v2, v3, v4, v5, v6, vz⟩ := seven HV3.out.v; have vz0 := vz 0; have vz1 := vz 1; have vz2 := vz 2; have vz3 := vz 3; have vz4 := vz 4; have vz5 := vz 5; have vz6 := vz 6; clear vz; obtain ⟨y0, y1, y2, yz⟩ := three HV3.out.o1; have yz0 := yz 0; have yz1 := yz 1; have yz2 := yz 2; clear yz; obtain ⟨q0, q1, q2, q3, q4, q5, q6, qz⟩ := seven HV3.out.o2; have qz0 := qz 0; have qz1 := qz 1; have qz2 := qz 2; have qz3 := qz 3; have qz4 := qz 4; have qz5 := qz 5; have qz6 := qz 6; clear qz)
        | (go_at_call 36; have hcall : Calls Tryz.prog 36 #[.agg #[.string s, .int .i64 (P1 : Int), .int .i64 0], .string ⟨#[102, 97, 108, 115, 101]⟩] w3 _ := rword_any s P1 [102, 97, 108, 115, 101] hP1 HS4.out (by decide) (by decide) _; rw [HD1.out, HWd.out] at hcall; (with_reducible refine hcall.mono ?_); clear hcall; rintro e w4 ⟨P2, hP2, hd2, rfl, hb⟩; have HD2 := hid hd2; have HV4 := hid (HV3.out.below hb); have HV5 := hid (HV4.out.put s (P2 : Int) 3); have HV6 := hid (HV5.out.putv (.int .i64 2) (.bool false) (.string ⟨#[]⟩) (.int .i64 0) (.bool false) (.slice none 0 0) (.slice none 0 0)); clear hb hd2; obtain ⟨c0, c1, c2, cz⟩ := three HV4.out.r; have cz0 := cz 0; have cz1 := cz 1; have cz2 := cz 2; clear cz; obtain ⟨f0, f1, f2, f3, f4, f5, f6, fz⟩ := seven HV5.out.v; have fz0 := fz 0; have fz1 := fz 1; have fz2 := fz 2; have fz3 := fz 3; have fz4 := fz 4; have fz5 := fz 5; have fz6 := fz 6; clear fz; obtain ⟨j0, j1, j2, jz⟩ := three HV6.out.r; have jz0 := jz 0; have jz1 := jz 1; have jz2 := jz 2; clear jz; obtain ⟨m0, m1, m2, m3, m4, m5, m6, mz⟩ := seven HV6.out.v; have mz0 := mz 0; have mz1 := mz 1; have mz2 := mz 2; have mz3 := mz 3; have mz4 := mz 4; have mz5 := mz 5; have mz6 := mz 6; clear mz; obtain ⟨ya0, ya1, ya2, yaz⟩ := three HV6.out.o1; have yaz0 := yaz 0; have yaz1 := yaz 1; have yaz2 := yaz 2; clear yaz; obtain ⟨qa0, qa1, qa2, qa3, qa4, qa5, qa6, qaz⟩ := seven HV6.out.o2; have qaz0 := qaz 0; have qaz1 := qaz 1; have qaz2 := qaz 2; have qaz3 := qaz 3; have qaz4 := qaz 4; have qaz5 := qaz 5; have qaz6 := qaz 6; clear qaz))
      (try simp only [Exit.inBlock, Exit.then])
      refine bodyPost_ret (results_rdval rfl _ _ _ _ 49 25 _ _ (0, 0) (0, 0) rfl rfl (out_rv (has_three HV6.out.o1) (has_seven HV6.out.o2) (Nat.ne_of_lt (Nat.lt_succ_self _)) _ _ _ _ _ _ _ _ _ _).1 (out_rv (has_three HV6.out.o1) (has_seven HV6.out.o2) (Nat.ne_of_lt (Nat.lt_succ_self _)) _ _ _ _ _ _ _ _ _ _).2 rfl rfl) rfl ?_
      rw [HN.out]
      exact ⟨P2, 3, .zero, _, hP2, rfl, zero_val _ _, HV6.out.outB _ _ _ _ _ _ _ _ _ _, .inr ⟨by omega, rfl, by rw [HD2.out]; rfl⟩⟩
    | ok y u =>
      have HWd := hid hwd
      have HN := hid (show T = .ok (.mk 2 false [] 0 false [] []) u from by rw [hvt, hwd])
      clear hX hnx hvt hwd hin
      go_enter Tryz.func19, Tryz.ntmps19
      go_wp2_with (first
        | (rw [← HW0.out]; go_at_call 32; have hcall := rblanks_any s p 0 HZ.out HS4.out W0; (with_reducible refine hcall.mono ?_); clear hcall; rintro e w1 ⟨P1, _, hP1, hd1, rfl, hb⟩; have HD1 := hid (show s.data.toList.drop P1 = l from by rw [hd1]; exact HLl.out); obtain ⟨W2, hW2⟩ : ∃ W2, W2 = (((w1.setCell ⟨w.heap.size, 0, none⟩ (.string s)).setCell ⟨w.heap.size, 1, none⟩ (.int .i64 (P1 : Int))).setCell ⟨w.heap.size, 2, none⟩ (.int .i64 0)).alloc (.cells #[.int .i64 0, .bool false, .string ⟨#[]⟩, .int .i64 0, .bool false, .slice none 0 0, .slice none 0 0] 25 (0, 0)) := ⟨_, rfl⟩; have HW2 := hid hW2; have HV2 := hid (VA.start (p := (p : Int)) (q := (P1 : Int)) (by rw [← HW0.out]; exact hb) hW2); have HR1 := hid (three_new w (.cells #[.string s, .int .i64 (p : Int), .int .i64 0] 49 (0, 0)) (.cells #[.string ⟨#[]⟩, .int .i64 0, .int .i64 0] 49 (0, 0)) (.cells #[.int .i64 0, .bool false, .string ⟨#[]⟩, .int .i64 0, .bool false, .slice none 0 0, .slice none 0 0] 25 (0, 0))); have HR2 := hid ((hb.block w.heap.size (by rw [HW0.out]; have := HR1.out.2.1; omega)).trans (show W0.heap[w.heap.size]? = some (.cells #[.string s, .int .i64 (p : Int), .int .i64 0] 49 (0, 0)) from by rw [HW0.out]; exact HR1.out.2.2.1)); obtain ⟨a0, a1, a2, az⟩ := three HR2.out; have az0 := az 0; have az1 := az 1; have az2 := az 2; have hr2 := HV2.out.r; rw [HW2.out] at hr2; obtain ⟨t0, t1, t2, _⟩ := three hr2; clear az hb hd1 hW2 hr2)
        | (rw [← HW2.out]; go_at_call 33; have hcall := rnext_any s P1 0 hP1 W2; rw [HD1.out, HX.out] at hcall; (with_reducible refine hcall.mono ?_); clear hcall; rintro e w3 ⟨rfl, hb⟩; have HV3 := hid (HV2.out.below hb); clear hb; obtain ⟨b0, b1, b2, bz⟩ := three HV3.out.r; have bz0 := bz 0; have bz1 := bz 1; have bz2 := bz 2; clear bz; obtain ⟨v0, v1, v2, v3, v4, v5, v6, vz⟩ := seven HV3.out.v; have vz0 := vz 0; have vz1 := vz 1; have vz2 := vz 2; have vz3 := vz 3; have vz4 := vz 4; have vz5 := vz 5; have vz6 := vz 6; clear vz; obtain ⟨y0, y1, y2, yz⟩ := three HV3.out.o1; have yz0 := yz 0; have yz1 := yz 1; have yz2 := yz 2; clear yz; obtain ⟨q0, q1, q2, q3, q4, q5, q6, qz⟩ := seven HV3.out.o2; have qz0 := qz 0; have qz1 := qz 1; have qz2 := qz 2; have qz3 := qz 3; have qz4 := qz 4; have qz5 := qz 5; have qz6 := qz 6; clear qz)
        | (go_at_call 36; have hcall : Calls Tryz.prog 36 #[.agg #[.string s, .int .i64 (P1 : Int), .int .i64 0], .string ⟨#[102, 97, 108, 115, 101]⟩] w3 _ := rword_any s P1 [102, 97, 108, 115, 101] hP1 HS4.out (by decide) (by decide) _; rw [HD1.out, HWd.out] at hcall; (with_reducible refine hcall.mono ?_); clear hcall; rintro e w4 ⟨P2, hP2, hd2, rfl, hb⟩; have HD2 := hid hd2; have HV4 := hid (HV3.out.below hb); have HV5 := hid (HV4.out.put s (P2 : Int) 0); have HV6 := hid (HV5.out.putv (.int .i64 2) (.bool false) (.string ⟨#[]⟩) (.int .i64 0) (.bool false) (.slice none 0 0) (.slice none 0 0)); clear hb hd2; obtain ⟨c0, c1, c2, cz⟩ := three HV4.out.r; have cz0 := cz 0; have cz1 := cz 1; have cz2 := cz 2; clear cz; obtain ⟨f0, f1, f2, f3, f4, f5, f6, fz⟩ := seven HV5.out.v; have fz0 := fz 0; have fz1 := fz 1; have fz2 := fz 2; have fz3 := fz 3; have fz4 := fz 4; have fz5 := fz 5; have fz6 := fz 6; clear fz; obtain ⟨j0, j1, j2, jz⟩ := three HV6.out.r; have jz0 := jz 0; have jz1 := jz 1; have jz2 := jz 2; clear jz; obtain ⟨m0, m1, m2, m3, m4, m5, m6, mz⟩ := seven HV6.out.v; have mz0 := mz 0; have mz1 := mz 1; have mz2 := mz 2; have mz3 := mz 3; have mz4 := mz 4; have mz5 := mz 5; have mz6 := mz 6; clear mz; obtain ⟨ya0, ya1, ya2, yaz⟩ := three HV6.out.o1; have yaz0 := yaz 0; have yaz1 := yaz 1; have yaz2 := yaz 2; clear yaz; obtain ⟨qa0, qa1, qa2, qa3, qa4, qa5, qa6, qaz⟩ := seven HV6.out.o2; have qaz0 := qaz 0; have qaz1 := qaz 1; have qaz2 := qaz 2; have qaz3 := qaz 3; have qaz4 := qaz 4; have qaz5 := qaz 5; have qaz6 := qaz 6; clear qaz))
      have HBD := hid (show Below ((((((((((w4.setCell ⟨w.heap.size, 0, none⟩ (.string s)).setCell ⟨w.heap.size, 1, none⟩ (.int .i64 (P2 : Int))).setCell ⟨w.heap.size, 2, none⟩ (.int .i64 0)).setCell ⟨w1.heap.size, 0, none⟩ (.int .i64 2)).setCell ⟨w1.heap.size, 1, none⟩ (.bool false)).setCell ⟨w1.heap.size, 2, none⟩ (.string ⟨#[]⟩)).setCell ⟨w1.heap.size, 3, none⟩ (.int .i64 0)).setCell ⟨w1.heap.size, 4, none⟩ (.bool false)).setCell ⟨w1.heap.size, 5, none⟩ (.slice none 0 0)).setCell ⟨w1.heap.size, 6, none⟩ (.slice none 0 0)).heap.size ((((((((((w4.setCell ⟨w.heap.size, 0, none⟩ (.string s)).setCell ⟨w.heap.size, 1, none⟩ (.int .i64 (P2 : Int))).setCell ⟨w.heap.size, 2, none⟩ (.int .i64 0)).setCell ⟨w1.heap.size, 0, none⟩ (.int .i64 2)).setCell ⟨w1.heap.size, 1, none⟩ (.bool false)).setCell ⟨w1.heap.size, 2, none⟩ (.string ⟨#[]⟩)).setCell ⟨w1.heap.size, 3, none⟩ (.int .i64 0)).setCell ⟨w1.heap.size, 4, none⟩ (.bool false)).setCell ⟨w1.heap.size, 5, none⟩ (.slice none 0 0)).setCell ⟨w1.heap.size, 6, none⟩ (.slice none 0 0)) ((((((((((w4.setCell ⟨w.heap.size, 0, none⟩ (.string s)).setCell ⟨w.heap.size, 1, none⟩ (.int .i64 (P2 : Int))).setCell ⟨w.heap.size, 2, none⟩ (.int .i64 0)).setCell ⟨w1.heap.size, 0, none⟩ (.int .i64 2)).setCell ⟨w1.heap.size, 1, none⟩ (.bool false)).setCell ⟨w1.heap.size, 2, none⟩ (.string ⟨#[]⟩)).setCell ⟨w1.heap.size, 3, none⟩ (.int .i64 0)).setCell ⟨w1.heap.size, 4, none⟩ (.bool false)).setCell ⟨w1.heap.size, 5, none⟩ (.slice none 0 0)).setCell ⟨w1.heap.size, 6, none⟩ (.slice none 0 0)).drew from below_drew (Below.refl _ _) 1)
      have HVd := hid (HV6.out.below HBD.out)
      refine wp_region_noPanic ?_
      refine any_begin 5 (by kernel_rfl) (by kernel_rfl) ?_
      refine late_begin (fun U => StV w U s (P2 : Int) w1.heap.size (.int .i64 2) (.bool false) (.string ⟨#[]⟩) (.int .i64 0) (.bool false) (.slice none 0 0) (.slice none 0 0)) (fun _ => false) HVd.out.st (fun hS => ?_)
      have HBs := hid HBD.out.size
      have HBk := hid (fun k (hk : k < ((((((((((w4.setCell ⟨w.heap.size, 0, none⟩ (.string s)).setCell ⟨w.heap.size, 1, none⟩ (.int .i64 (P2 : Int))).setCell ⟨w.heap.size, 2, none⟩ (.int .i64 0)).setCell ⟨w1.heap.size, 0, none⟩ (.int .i64 2)).setCell ⟨w1.heap.size, 1, none⟩ (.bool false)).setCell ⟨w1.heap.size, 2, none⟩ (.string ⟨#[]⟩)).setCell ⟨w1.heap.size, 3, none⟩ (.int .i64 0)).setCell ⟨w1.heap.size, 4, none⟩ (.bool false)).setCell ⟨w1.heap.size, 5, none⟩ (.slice none 0 0)).setCell ⟨w1.heap.size, 6, none⟩ (.slice none 0 0)).heap.size) => HBD.out.block k hk)
      clear HBD
      generalize ((((((((((w4.setCell ⟨w.heap.size, 0, none⟩ (.string s)).setCell ⟨w.heap.size, 1, none⟩ (.int .i64 (P2 : Int))).setCell ⟨w.heap.size, 2, none⟩ (.int .i64 0)).setCell ⟨w1.heap.size, 0, none⟩ (.int .i64 2)).setCell ⟨w1.heap.size, 1, none⟩ (.bool false)).setCell ⟨w1.heap.size, 2, none⟩ (.string ⟨#[]⟩)).setCell ⟨w1.heap.size, 3, none⟩ (.int .i64 0)).setCell ⟨w1.heap.size, 4, none⟩ (.bool false)).setCell ⟨w1.heap.size, 5, none⟩ (.slice none 0 0)).setCell ⟨w1.heap.size, 6, none⟩ (.slice none 0 0)).drew = V at hS HVd HBs HBk ⊢
      refine late_take (i := 0) (some 85) rfl rfl (by kernel_rfl) (by kernel_rfl) (by kernel_rfl) (by kernel_rfl) (by kernel_rfl) (fun _ _ _ h => h) (by rfl) (v := ?v0w102) ?hy0w102 hS ?rest0w102
      case hy0w102 => intro w0 hSw; obtain ⟨k0, k1, k2, _⟩ := three hSw.r; obtain ⟨m0, m1, m2, m3, m4, m5, m6, _⟩ := seven hSw.v; go_simp; try with_reducible rfl
      simp only [Act.put, List.setIfInBounds_toArray, List.set_cons_zero, List.set_cons_succ]
      refine late_take (i := 2) (some 87) rfl rfl (by kernel_rfl) (by kernel_rfl) (by kernel_rfl) (by kernel_rfl) (by kernel_rfl) (fun _ _ _ h => h) (by rfl) (v := ?v2w102) ?hy2w102 hS ?rest2w102
      case hy2w102 => intro w0 hSw; obtain ⟨k0, k1, k2, _⟩ := three hSw.r; obtain ⟨m0, m1, m2, m3, m4, m5, m6, _⟩ := seven hSw.v; go_simp; try with_reducible rfl
      simp only [Act.put, List.setIfInBounds_toArray, List.set_cons_zero, List.set_cons_succ]
      refine wpAnyD_one (i := 1) (by kernel_rfl) rfl (fun K hK => ?_)
      go_simp
      go_at_call 32
      refine (rblanks_any s _ 0 hP2 HS4.out V).mono ?_
      rintro e w9 ⟨P9, _, hP9, hd9, rfl, hb9⟩
      have HV9 := hid (HVd.out.below hb9)
      have HB9 := hid (And.intro hb9.size (fun k (hk : k < V.heap.size) => hb9.block k hk))
      have HD9 := hid hd9
      clear hb9 hd9
      have hS2 := HV9.out.st
      refine hK _ _ ⟨fun _ => hS2, ?_⟩
      clear hK K
      replace hS := hS2
      clear hS2
      obtain ⟨y0, y1, y2, yz⟩ := three HV9.out.o1; have yz0 := yz 0; have yz1 := yz 1; have yz2 := yz 2; clear yz
      obtain ⟨q0, q1, q2, q3, q4, q5, q6, qz⟩ := seven HV9.out.o2; have qz0 := qz 0; have qz1 := qz 1; have qz2 := qz 2; have qz3 := qz 3; have qz4 := qz 4; have qz5 := qz 5; have qz6 := qz 6; clear qz
      refine wpAnyD_one (i := 3) (by kernel_rfl) rfl (fun K hK => ?_)
      go_simp
      refine hK _ _ ⟨fun _ => hS.out1 _ _ _, ?_⟩
      clear hK K
      refine wpAnyD_one (i := 4) (by kernel_rfl) rfl (fun K hK => ?_)
      go_simp
      refine hK _ _ ⟨fun _ => hS.out2 _ _ _ _ _ _ _ _ _ _, ?_⟩
      clear hK K
      refine late_done (by kernel_rfl) ?_ _
      refine NoPanic.normal ?_
      clear hS
      go_wp2
      (try simp only [Exit.inBlock, Exit.then])
      refine bodyPost_ret (results_rdval rfl _ _ _ _ 49 25 _ _ (0, 0) (0, 0) rfl rfl (out_rv (has_three HV9.out.o1) (has_seven HV9.out.o2) (Nat.ne_of_lt (Nat.lt_succ_self _)) _ _ _ _ _ _ _ _ _ _).1 (out_rv (has_three HV9.out.o1) (has_seven HV9.out.o2) (Nat.ne_of_lt (Nat.lt_succ_self _)) _ _ _ _ _ _ _ _ _ _).2 rfl rfl) rfl ?_
      rw [HN.out]
      exact ⟨P9, 0, _, _, hP9, rfl, val_out (flat_val _ (fun _ => False) 2 false [] 0 false) (fun _ h => h.elim) _ _ _ _ _ _ _ _ _ _, HV9.out.outB _ _ _ _ _ _ _ _ _ _, .inl ⟨rfl, by rw [HD9.out, HD2.out]; rfl⟩⟩
  have n102 : ((X : Int) == 102) = false := by simp only [beq_eq_false_iff_ne, ne_eq]; omega
  by_cases h110 : X = 110
  · have hnx : nx l = 110 := UInt8.toNat_inj.1 (hX.trans h110)
    subst h110
    have hvt := vw_null (inner := inner) hnx
    rw [HT.out] at hvt
    unfold wordS at hvt
    cases hwd : word [110, 117, 108, 108] l with
    | err k u =>
      obtain rfl := word_three _ _ _ _ hwd
      have HWd := hid hwd
      have HN := hid (show T = .err 3 u from by rw [hvt, hwd])
      clear hX hnx hvt hwd hin
      go_enter Tryz.func19, Tryz.ntmps19
      go_wp2_with (first
        | (rw [← HW0.out]; go_at_call 32; have hcall := rblanks_any s p 0 HZ.out HS4.out W0; (with_reducible refine hcall.mono ?_); clear hcall; rintro e w1 ⟨P1, _, hP1, hd1, rfl, hb⟩; have HD1 := hid (show s.data.toList.drop P1 = l from by rw [hd1]; exact HLl.out); obtain ⟨W2, hW2⟩ : ∃ W2, W2 = (((w1.setCell ⟨w.heap.size, 0, none⟩ (.string s)).setCell ⟨w.heap.size, 1, none⟩ (.int .i64 (P1 : Int))).setCell ⟨w.heap.size, 2, none⟩ (.int .i64 0)).alloc (.cells #[.int .i64 0, .bool false, .string ⟨#[]⟩, .int .i64 0, .bool false, .slice none 0 0, .slice none 0 0] 25 (0, 0)) := ⟨_, rfl⟩; have HW2 := hid hW2; have HV2 := hid (VA.start (p := (p : Int)) (q := (P1 : Int)) (by rw [← HW0.out]; exact hb) hW2); have HR1 := hid (three_new w (.cells #[.string s, .int .i64 (p : Int), .int .i64 0] 49 (0, 0)) (.cells #[.string ⟨#[]⟩, .int .i64 0, .int .i64 0] 49 (0, 0)) (.cells #[.int .i64 0, .bool false, .string ⟨#[]⟩, .int .i64 0, .bool false, .slice none 0 0, .slice none 0 0] 25 (0, 0))); have HR2 := hid ((hb.block w.heap.size (by rw [HW0.out]; have := HR1.out.2.1; omega)).trans (show W0.heap[w.heap.size]? = some (.cells #[.string s, .int .i64 (p : Int), .int .i64 0] 49 (0, 0)) from by rw [HW0.out]; exact HR1.out.2.2.1)); obtain ⟨a0, a1, a2, az⟩ := three HR2.out; have az0 := az 0; have az1 := az 1; have az2 := az 2; have hr2 := HV2.out.r; rw [HW2.out] at hr2; obtain ⟨t0, t1, t2, _⟩ := three hr2; clear az hb hd1 hW2 hr2)
        | (rw [← HW2.out]; go_at_call 33; have hcall := rnext_any s P1 0 hP1 W2; rw [HD1.out, HX.out] at hcall; (with_reducible refine hcall.mono ?_); clear hcall; rintro e w3 ⟨rfl, hb⟩; have HV3 := hid (HV2.out.below hb); clear hb; obtain ⟨b0, b1, b2, bz⟩ := three HV3.out.r; have bz0 := bz 0; have bz1 := bz 1; have bz2 := bz 2; clear bz; obtain ⟨v0, v1, v2, v3, v4, v5, v6, vz⟩ := seven HV3.out.v; have vz0 := vz 0; have vz1 := vz 1; have vz2 := vz 2; have vz3 := vz 3; have vz4 := vz 4; have vz5 := vz 5; have vz6 := vz 6; clear vz; obtain ⟨y0, y1, y2, yz⟩ := three HV3.out.o1; have yz0 := yz 0; have yz1 := yz 1; have yz2 := yz 2; clear yz; obtain ⟨q0, q1, q2, q3, q4, q5, q6, qz⟩ := seven HV3.out.o2; have qz0 := qz 0; have qz1 := qz 1; have qz2 := qz 2; have qz3 := qz 3; have qz4 := qz 4; have qz5 := qz 5; have qz6 := qz 6; clear qz)
        | (go_at_call 36; have hcall : Calls Tryz.prog 36 #[.agg #[.string s, .int .i64 (P1 : Int), .int .i64 0], .string ⟨#[110, 117, 108, 108]⟩] w3 _ := rword_any s P1 [110, 117, 108, 108] hP1 HS4.out (by decide) (by decide) _; rw [HD1.out, HWd.out] at hcall; (with_reducible refine hcall.mono ?_); clear hcall; rintro e w4 ⟨P2, hP2, hd2, rfl, hb⟩; have HD2 := hid hd2; have HV4 := hid (HV3.out.below hb); have HV5 := hid (HV4.out.put s (P2 : Int) 3); have HV6 := hid (HV5.out.putv (.int .i64 1) (.bool false) (.string ⟨#[]⟩) (.int .i64 0) (.bool false) (.slice none 0 0) (.slice none 0 0)); clear hb hd2; obtain ⟨c0, c1, c2, cz⟩ := three HV4.out.r; have cz0 := cz 0; have cz1 := cz 1; have cz2 := cz 2; clear cz; obtain ⟨f0, f1, f2, f3, f4, f5, f6, fz⟩ := seven HV5.out.v; have fz0 := fz 0; have fz1 := fz 1; have fz2 := fz 2; have fz3 := fz 3; have fz4 := fz 4; have fz5 := fz 5; have fz6 := fz 6; clear fz; obtain ⟨j0, j1, j2, jz⟩ := three HV6.out.r; have jz0 := jz 0; have jz1 := jz 1; have jz2 := jz 2; clear jz; obtain ⟨m0, m1, m2, m3, m4, m5, m6, mz⟩ := seven HV6.out.v; have mz0 := mz 0; have mz1 := mz 1; have mz2 := mz 2; have mz3 := mz 3; have mz4 := mz 4; have mz5 := mz 5; have mz6 := mz 6; clear mz; obtain ⟨ya0, ya1, ya2, yaz⟩ := three HV6.out.o1; have yaz0 := yaz 0; have yaz1 := yaz 1; have yaz2 := yaz 2; clear yaz; obtain ⟨qa0, qa1, qa2, qa3, qa4, qa5, qa6, qaz⟩ := seven HV6.out.o2; have qaz0 := qaz 0; have qaz1 := qaz 1; have qaz2 := qaz 2; have qaz3 := qaz 3; have qaz4 := qaz 4; have qaz5 := qaz 5; have qaz6 := qaz 6; clear qaz))
      (try simp only [Exit.inBlock, Exit.then])
      refine bodyPost_ret (results_rdval rfl _ _ _ _ 49 25 _ _ (0, 0) (0, 0) rfl rfl (out_rv (has_three HV6.out.o1) (has_seven HV6.out.o2) (Nat.ne_of_lt (Nat.lt_succ_self _)) _ _ _ _ _ _ _ _ _ _).1 (out_rv (has_three HV6.out.o1) (has_seven HV6.out.o2) (Nat.ne_of_lt (Nat.lt_succ_self _)) _ _ _ _ _ _ _ _ _ _).2 rfl rfl) rfl ?_
      rw [HN.out]
      exact ⟨P2, 3, .zero, _, hP2, rfl, zero_val _ _, HV6.out.outB _ _ _ _ _ _ _ _ _ _, .inr ⟨by omega, rfl, by rw [HD2.out]; rfl⟩⟩
    | ok y u =>
      have HWd := hid hwd
      have HN := hid (show T = .ok (.mk 1 false [] 0 false [] []) u from by rw [hvt, hwd])
      clear hX hnx hvt hwd hin
      go_enter Tryz.func19, Tryz.ntmps19
      go_wp2_with (first
        | (rw [← HW0.out]; go_at_call 32; have hcall := rblanks_any s p 0 HZ.out HS4.out W0; (with_reducible refine hcall.mono ?_); clear hcall; rintro e w1 ⟨P1, _, hP1, hd1, rfl, hb⟩; have HD1 := hid (show s.data.toList.drop P1 = l from by rw [hd1]; exact HLl.out); obtain ⟨W2, hW2⟩ : ∃ W2, W2 = (((w1.setCell ⟨w.heap.size, 0, none⟩ (.string s)).setCell ⟨w.heap.size, 1, none⟩ (.int .i64 (P1 : Int))).setCell ⟨w.heap.size, 2, none⟩ (.int .i64 0)).alloc (.cells #[.int .i64 0, .bool false, .string ⟨#[]⟩, .int .i64 0, .bool false, .slice none 0 0, .slice none 0 0] 25 (0, 0)) := ⟨_, rfl⟩; have HW2 := hid hW2; have HV2 := hid (VA.start (p := (p : Int)) (q := (P1 : Int)) (by rw [← HW0.out]; exact hb) hW2); have HR1 := hid (three_new w (.cells #[.string s, .int .i64 (p : Int), .int .i64 0] 49 (0, 0)) (.cells #[.string ⟨#[]⟩, .int .i64 0, .int .i64 0] 49 (0, 0)) (.cells #[.int .i64 0, .bool false, .string ⟨#[]⟩, .int .i64 0, .bool false, .slice none 0 0, .slice none 0 0] 25 (0, 0))); have HR2 := hid ((hb.block w.heap.size (by rw [HW0.out]; have := HR1.out.2.1; omega)).trans (show W0.heap[w.heap.size]? = some (.cells #[.string s, .int .i64 (p : Int), .int .i64 0] 49 (0, 0)) from by rw [HW0.out]; exact HR1.out.2.2.1)); obtain ⟨a0, a1, a2, az⟩ := three HR2.out; have az0 := az 0; have az1 := az 1; have az2 := az 2; have hr2 := HV2.out.r; rw [HW2.out] at hr2; obtain ⟨t0, t1, t2, _⟩ := three hr2; clear az hb hd1 hW2 hr2)
        | (rw [← HW2.out]; go_at_call 33; have hcall := rnext_any s P1 0 hP1 W2; rw [HD1.out, HX.out] at hcall; (with_reducible refine hcall.mono ?_); clear hcall; rintro e w3 ⟨rfl, hb⟩; have HV3 := hid (HV2.out.below hb); clear hb; obtain ⟨b0, b1, b2, bz⟩ := three HV3.out.r; have bz0 := bz 0; have bz1 := bz 1; have bz2 := bz 2; clear bz; obtain ⟨v0, v1, v2, v3, v4, v5, v6, vz⟩ := seven HV3.out.v; have vz0 := vz 0; have vz1 := vz 1; have vz2 := vz 2; have vz3 := vz 3; have vz4 := vz 4; have vz5 := vz 5; have vz6 := vz 6; clear vz; obtain ⟨y0, y1, y2, yz⟩ := three HV3.out.o1; have yz0 := yz 0; have yz1 := yz 1; have yz2 := yz 2; clear yz; obtain ⟨q0, q1, q2, q3, q4, q5, q6, qz⟩ := seven HV3.out.o2; have qz0 := qz 0; have qz1 := qz 1; have qz2 := qz 2; have qz3 := qz 3; have qz4 := qz 4; have qz5 := qz 5; have qz6 := qz 6; clear qz)
        | (go_at_call 36; have hcall : Calls Tryz.prog 36 #[.agg #[.string s, .int .i64 (P1 : Int), .int .i64 0], .string ⟨#[110, 117, 108, 108]⟩] w3 _ := rword_any s P1 [110, 117, 108, 108] hP1 HS4.out (by decide) (by decide) _; rw [HD1.out, HWd.out] at hcall; (with_reducible refine hcall.mono ?_); clear hcall; rintro e w4 ⟨P2, hP2, hd2, rfl, hb⟩; have HD2 := hid hd2; have HV4 := hid (HV3.out.below hb); have HV5 := hid (HV4.out.put s (P2 : Int) 0); have HV6 := hid (HV5.out.putv (.int .i64 1) (.bool false) (.string ⟨#[]⟩) (.int .i64 0) (.bool false) (.slice none 0 0) (.slice none 0 0)); clear hb hd2; obtain ⟨c0, c1, c2, cz⟩ := three HV4.out.r; have cz0 := cz 0; have cz1 := cz 1; have cz2 := cz 2; clear cz; obtain ⟨f0, f1, f2, f3, f4, f5, f6, fz⟩ := seven HV5.out.v; have fz0 := fz 0; have fz1 := fz 1; have fz2 := fz 2; have fz3 := fz 3; have fz4 := fz 4; have fz5 := fz 5; have fz6 := fz 6; clear fz; obtain ⟨j0, j1, j2, jz⟩ := three HV6.out.r; have jz0 := jz 0; have jz1 := jz 1; have jz2 := jz 2; clear jz; obtain ⟨m0, m1, m2, m3, m4, m5, m6, mz⟩ := seven HV6.out.v; have mz0 := mz 0; have mz1 := mz 1; have mz2 := mz 2; have mz3 := mz 3; have mz4 := mz 4; have mz5 := mz 5; have mz6 := mz 6; clear mz; obtain ⟨ya0, ya1, ya2, yaz⟩ := three HV6.out.o1; have yaz0 := yaz 0; have yaz1 := yaz 1; have yaz2 := yaz 2; clear yaz; obtain ⟨qa0, qa1, qa2, qa3, qa4, qa5, qa6, qaz⟩ := seven HV6.out.o2; have qaz0 := qaz 0; have qaz1 := qaz 1; have qaz2 := qaz 2; have qaz3 := qaz 3; have qaz4 := qaz 4; have qaz5 := qaz 5; have qaz6 := qaz 6; clear qaz))
      have HBD := hid (show Below ((((((((((w4.setCell ⟨w.heap.size, 0, none⟩ (.string s)).setCell ⟨w.heap.size, 1, none⟩ (.int .i64 (P2 : Int))).setCell ⟨w.heap.size, 2, none⟩ (.int .i64 0)).setCell ⟨w1.heap.size, 0, none⟩ (.int .i64 1)).setCell ⟨w1.heap.size, 1, none⟩ (.bool false)).setCell ⟨w1.heap.size, 2, none⟩ (.string ⟨#[]⟩)).setCell ⟨w1.heap.size, 3, none⟩ (.int .i64 0)).setCell ⟨w1.heap.size, 4, none⟩ (.bool false)).setCell ⟨w1.heap.size, 5, none⟩ (.slice none 0 0)).setCell ⟨w1.heap.size, 6, none⟩ (.slice none 0 0)).heap.size ((((((((((w4.setCell ⟨w.heap.size, 0, none⟩ (.string s)).setCell ⟨w.heap.size, 1, none⟩ (.int .i64 (P2 : Int))).setCell ⟨w.heap.size, 2, none⟩ (.int .i64 0)).setCell ⟨w1.heap.size, 0, none⟩ (.int .i64 1)).setCell ⟨w1.heap.size, 1, none⟩ (.bool false)).setCell ⟨w1.heap.size, 2, none⟩ (.string ⟨#[]⟩)).setCell ⟨w1.heap.size, 3, none⟩ (.int .i64 0)).setCell ⟨w1.heap.size, 4, none⟩ (.bool false)).setCell ⟨w1.heap.size, 5, none⟩ (.slice none 0 0)).setCell ⟨w1.heap.size, 6, none⟩ (.slice none 0 0)) ((((((((((w4.setCell ⟨w.heap.size, 0, none⟩ (.string s)).setCell ⟨w.heap.size, 1, none⟩ (.int .i64 (P2 : Int))).setCell ⟨w.heap.size, 2, none⟩ (.int .i64 0)).setCell ⟨w1.heap.size, 0, none⟩ (.int .i64 1)).setCell ⟨w1.heap.size, 1, none⟩ (.bool false)).setCell ⟨w1.heap.size, 2, none⟩ (.string ⟨#[]⟩)).setCell ⟨w1.heap.size, 3, none⟩ (.int .i64 0)).setCell ⟨w1.heap.size, 4, none⟩ (.bool false)).setCell ⟨w1.heap.size, 5, none⟩ (.slice none 0 0)).setCell ⟨w1.heap.size, 6, none⟩ (.slice none 0 0)).drew from below_drew (Below.refl _ _) 1)
      have HVd := hid (HV6.out.below HBD.out)
      refine wp_region_noPanic ?_
      refine any_begin 5 (by kernel_rfl) (by kernel_rfl) ?_
      refine late_begin (fun U => StV w U s (P2 : Int) w1.heap.size (.int .i64 1) (.bool false) (.string ⟨#[]⟩) (.int .i64 0) (.bool false) (.slice none 0 0) (.slice none 0 0)) (fun _ => false) HVd.out.st (fun hS => ?_)
      have HBs := hid HBD.out.size
      have HBk := hid (fun k (hk : k < ((((((((((w4.setCell ⟨w.heap.size, 0, none⟩ (.string s)).setCell ⟨w.heap.size, 1, none⟩ (.int .i64 (P2 : Int))).setCell ⟨w.heap.size, 2, none⟩ (.int .i64 0)).setCell ⟨w1.heap.size, 0, none⟩ (.int .i64 1)).setCell ⟨w1.heap.size, 1, none⟩ (.bool false)).setCell ⟨w1.heap.size, 2, none⟩ (.string ⟨#[]⟩)).setCell ⟨w1.heap.size, 3, none⟩ (.int .i64 0)).setCell ⟨w1.heap.size, 4, none⟩ (.bool false)).setCell ⟨w1.heap.size, 5, none⟩ (.slice none 0 0)).setCell ⟨w1.heap.size, 6, none⟩ (.slice none 0 0)).heap.size) => HBD.out.block k hk)
      clear HBD
      generalize ((((((((((w4.setCell ⟨w.heap.size, 0, none⟩ (.string s)).setCell ⟨w.heap.size, 1, none⟩ (.int .i64 (P2 : Int))).setCell ⟨w.heap.size, 2, none⟩ (.int .i64 0)).setCell ⟨w1.heap.size, 0, none⟩ (.int .i64 1)).setCell ⟨w1.heap.size, 1, none⟩ (.bool false)).setCell ⟨w1.heap.size, 2, none⟩ (.string ⟨#[]⟩)).setCell ⟨w1.heap.size, 3, none⟩ (.int .i64 0)).setCell ⟨w1.heap.size, 4, none⟩ (.bool false)).setCell ⟨w1.heap.size, 5, none⟩ (.slice none 0 0)).setCell ⟨w1.heap.size, 6, none⟩ (.slice none 0 0)).drew = V at hS HVd HBs HBk ⊢
      refine late_take (i := 0) (some 85) rfl rfl (by kernel_rfl) (by kernel_rfl) (by kernel_rfl) (by kernel_rfl) (by kernel_rfl) (fun _ _ _ h => h) (by rfl) (v := ?v0w110) ?hy0w110 hS ?rest0w110
      case hy0w110 => intro w0 hSw; obtain ⟨k0, k1, k2, _⟩ := three hSw.r; obtain ⟨m0, m1, m2, m3, m4, m5, m6, _⟩ := seven hSw.v; go_simp; try with_reducible rfl
      simp only [Act.put, List.setIfInBounds_toArray, List.set_cons_zero, List.set_cons_succ]
      refine late_take (i := 2) (some 87) rfl rfl (by kernel_rfl) (by kernel_rfl) (by kernel_rfl) (by kernel_rfl) (by kernel_rfl) (fun _ _ _ h => h) (by rfl) (v := ?v2w110) ?hy2w110 hS ?rest2w110
      case hy2w110 => intro w0 hSw; obtain ⟨k0, k1, k2, _⟩ := three hSw.r; obtain ⟨m0, m1, m2, m3, m4, m5, m6, _⟩ := seven hSw.v; go_simp; try with_reducible rfl
      simp only [Act.put, List.setIfInBounds_toArray, List.set_cons_zero, List.set_cons_succ]
      refine wpAnyD_one (i := 1) (by kernel_rfl) rfl (fun K hK => ?_)
      go_simp
      go_at_call 32
      refine (rblanks_any s _ 0 hP2 HS4.out V).mono ?_
      rintro e w9 ⟨P9, _, hP9, hd9, rfl, hb9⟩
      have HV9 := hid (HVd.out.below hb9)
      have HB9 := hid (And.intro hb9.size (fun k (hk : k < V.heap.size) => hb9.block k hk))
      have HD9 := hid hd9
      clear hb9 hd9
      have hS2 := HV9.out.st
      refine hK _ _ ⟨fun _ => hS2, ?_⟩
      clear hK K
      replace hS := hS2
      clear hS2
      obtain ⟨y0, y1, y2, yz⟩ := three HV9.out.o1; have yz0 := yz 0; have yz1 := yz 1; have yz2 := yz 2; clear yz
      obtain ⟨q0, q1, q2, q3, q4, q5, q6, qz⟩ := seven HV9.out.o2; have qz0 := qz 0; have qz1 := qz 1; have qz2 := qz 2; have qz3 := qz 3; have qz4 := qz 4; have qz5 := qz 5; have qz6 := qz 6; clear qz
      refine wpAnyD_one (i := 3) (by kernel_rfl) rfl (fun K hK => ?_)
      go_simp
      refine hK _ _ ⟨fun _ => hS.out1 _ _ _, ?_⟩
      clear hK K
      refine wpAnyD_one (i := 4) (by kernel_rfl) rfl (fun K hK => ?_)
      go_simp
      refine hK _ _ ⟨fun _ => hS.out2 _ _ _ _ _ _ _ _ _ _, ?_⟩
      clear hK K
      refine late_done (by kernel_rfl) ?_ _
      refine NoPanic.normal ?_
      clear hS
      go_wp2
      (try simp only [Exit.inBlock, Exit.then])
      refine bodyPost_ret (results_rdval rfl _ _ _ _ 49 25 _ _ (0, 0) (0, 0) rfl rfl (out_rv (has_three HV9.out.o1) (has_seven HV9.out.o2) (Nat.ne_of_lt (Nat.lt_succ_self _)) _ _ _ _ _ _ _ _ _ _).1 (out_rv (has_three HV9.out.o1) (has_seven HV9.out.o2) (Nat.ne_of_lt (Nat.lt_succ_self _)) _ _ _ _ _ _ _ _ _ _).2 rfl rfl) rfl ?_
      rw [HN.out]
      exact ⟨P9, 0, _, _, hP9, rfl, val_out (flat_val _ (fun _ => False) 1 false [] 0 false) (fun _ h => h.elim) _ _ _ _ _ _ _ _ _ _, HV9.out.outB _ _ _ _ _ _ _ _ _ _, .inl ⟨rfl, by rw [HD9.out, HD2.out]; rfl⟩⟩
  have n110 : ((X : Int) == 110) = false := by simp only [beq_eq_false_iff_ne, ne_eq]; omega
  have hvt := vw_num (inner := inner) (l := l) (fun e => h110 (by rw [← hX, e]; rfl)) (fun e => h116 (by rw [← hX, e]; rfl)) (fun e => h102 (by rw [← hX, e]; rfl)) (fun e => h34 (by rw [← hX, e]; rfl)) (fun e => h91 (by rw [← hX, e]; rfl)) (fun e => h123 (by rw [← hX, e]; rfl))
  rw [HT.out] at hvt
  cases hnu : number l with
  | err k u =>
    have hk := number_err hnu
    have q1 : ((k : Int) != 0) = true := by simp only [bne_iff_ne, ne_eq]; omega
    have HNu := hid hnu
    have HN := hid (show T = .err k u from by rw [hvt, hnu])
    clear hX hvt hnu hin h91 h123 h34 h116 h102 h110
    go_enter Tryz.func19, Tryz.ntmps19
    go_wp2_with (first
      | (rw [← HW0.out]; go_at_call 32; have hcall := rblanks_any s p 0 HZ.out HS4.out W0; (with_reducible refine hcall.mono ?_); clear hcall; rintro e w1 ⟨P1, _, hP1, hd1, rfl, hb⟩; have HD1 := hid (show s.data.toList.drop P1 = l from by rw [hd1]; exact HLl.out); obtain ⟨W2, hW2⟩ : ∃ W2, W2 = (((w1.setCell ⟨w.heap.size, 0, none⟩ (.string s)).setCell ⟨w.heap.size, 1, none⟩ (.int .i64 (P1 : Int))).setCell ⟨w.heap.size, 2, none⟩ (.int .i64 0)).alloc (.cells #[.int .i64 0, .bool false, .string ⟨#[]⟩, .int .i64 0, .bool false, .slice none 0 0, .slice none 0 0] 25 (0, 0)) := ⟨_, rfl⟩; have HW2 := hid hW2; have HV2 := hid (VA.start (p := (p : Int)) (q := (P1 : Int)) (by rw [← HW0.out]; exact hb) hW2); have HR1 := hid (three_new w (.cells #[.string s, .int .i64 (p : Int), .int .i64 0] 49 (0, 0)) (.cells #[.string ⟨#[]⟩, .int .i64 0, .int .i64 0] 49 (0, 0)) (.cells #[.int .i64 0, .bool false, .string ⟨#[]⟩, .int .i64 0, .bool false, .slice none 0 0, .slice none 0 0] 25 (0, 0))); have HR2 := hid ((hb.block w.heap.size (by rw [HW0.out]; have := HR1.out.2.1; omega)).trans (show W0.heap[w.heap.size]? = some (.cells #[.string s, .int .i64 (p : Int), .int .i64 0] 49 (0, 0)) from by rw [HW0.out]; exact HR1.out.2.2.1)); obtain ⟨a0, a1, a2, az⟩ := three HR2.out; have az0 := az 0; have az1 := az 1; have az2 := az 2; have hr2 := HV2.out.r; rw [HW2.out] at hr2; obtain ⟨t0, t1, t2, _⟩ := three hr2; clear az hb hd1 hW2 hr2)
      | (rw [← HW2.out]; go_at_call 33; have hcall := rnext_any s P1 0 hP1 W2; rw [HD1.out, HX.out] at hcall; (with_reducible refine hcall.mono ?_); clear hcall; rintro e w3 ⟨rfl, hb⟩; have HV3 := hid (HV2.out.below hb); clear hb; obtain ⟨b0, b1, b2, bz⟩ := three HV3.out.r; have bz0 := bz 0; have bz1 := bz 1; have bz2 := bz 2; clear bz; obtain ⟨v0, v1, v2, v3, v4, v5, v6, vz⟩ := seven HV3.out.v; have vz0 := vz 0; have vz1 := vz 1; have vz2 := vz 2; have vz3 := vz 3; have vz4 := vz 4; have vz5 := vz 5; have vz6 := vz 6; clear vz; obtain ⟨y0, y1, y2, yz⟩ := three HV3.out.o1; have yz0 := yz 0; have yz1 := yz 1; have yz2 := yz 2; clear yz; obtain ⟨q0, q1, q2, q3, q4, q5, q6, qz⟩ := seven HV3.out.o2; have qz0 := qz 0; have qz1 := qz 1; have qz2 := qz 2; have qz3 := qz 3; have qz4 := qz 4; have qz5 := qz 5; have qz6 := qz 6; clear qz)
      | (go_at_call 37; have hcall := rnumber_any s P1 hP1 HS4.out w3; rw [HD1.out, HNu.out] at hcall; (with_reducible refine hcall.mono ?_); clear hcall; rintro e w4 ⟨P2, _, hP2, hd2, rfl, hb⟩; have HD2 := hid hd2; have HV4 := hid (HV3.out.below hb); have HV5 := hid (HV4.out.put s (P2 : Int) (k : Int)); have HV6 := hid (HV5.out.putv (.int .i64 0) (.bool false) (.string ⟨#[]⟩) (.int .i64 0) (.bool false) (.slice none 0 0) (.slice none 0 0)); clear hb hd2; obtain ⟨c0, c1, c2, cz⟩ := three HV4.out.r; have cz0 := cz 0; have cz1 := cz 1; have cz2 := cz 2; clear cz; obtain ⟨f0, f1, f2, f3, f4, f5, f6, fz⟩ := seven HV5.out.v; have fz0 := fz 0; have fz1 := fz 1; have fz2 := fz 2; have fz3 := fz 3; have fz4 := fz 4; have fz5 := fz 5; have fz6 := fz 6; clear fz; obtain ⟨j0, j1, j2, jz⟩ := three HV6.out.r; have jz0 := jz 0; have jz1 := jz 1; have jz2 := jz 2; clear jz; obtain ⟨m0, m1, m2, m3, m4, m5, m6, mz⟩ := seven HV6.out.v; have mz0 := mz 0; have mz1 := mz 1; have mz2 := mz 2; have mz3 := mz 3; have mz4 := mz 4; have mz5 := mz 5; have mz6 := mz 6; clear mz; obtain ⟨ya0, ya1, ya2, yaz⟩ := three HV6.out.o1; have yaz0 := yaz 0; have yaz1 := yaz 1; have yaz2 := yaz 2; clear yaz; obtain ⟨qa0, qa1, qa2, qa3, qa4, qa5, qa6, qaz⟩ := seven HV6.out.o2; have qaz0 := qaz 0; have qaz1 := qaz 1; have qaz2 := qaz 2; have qaz3 := qaz 3; have qaz4 := qaz 4; have qaz5 := qaz 5; have qaz6 := qaz 6; clear qaz))
    (try simp only [Exit.inBlock, Exit.then])
    refine bodyPost_ret (results_rdval rfl _ _ _ _ 49 25 _ _ (0, 0) (0, 0) rfl rfl (out_rv (has_three HV6.out.o1) (has_seven HV6.out.o2) (Nat.ne_of_lt (Nat.lt_succ_self _)) _ _ _ _ _ _ _ _ _ _).1 (out_rv (has_three HV6.out.o1) (has_seven HV6.out.o2) (Nat.ne_of_lt (Nat.lt_succ_self _)) _ _ _ _ _ _ _ _ _ _).2 rfl rfl) rfl ?_
    rw [HN.out]
    exact ⟨P2, k, .zero, _, hP2, rfl, zero_val _ _, HV6.out.outB _ _ _ _ _ _ _ _ _ _, .inr ⟨hk, rfl, by rw [HD2.out]; rfl⟩⟩
  | ok y u =>
    have HNu := hid hnu
    have HPre := hid (number_pre hnu)
    have HN := hid (show T = .ok (numV (l.take (l.length - u.length))) u from by rw [hvt, hnu])
    clear hX hvt hnu hin h91 h123 h34 h116 h102 h110
    go_enter Tryz.func19, Tryz.ntmps19
    go_wp2_with (first
      | (rw [← HW0.out]; go_at_call 32; have hcall := rblanks_any s p 0 HZ.out HS4.out W0; (with_reducible refine hcall.mono ?_); clear hcall; rintro e w1 ⟨P1, _, hP1, hd1, rfl, hb⟩; have HD1 := hid (show s.data.toList.drop P1 = l from by rw [hd1]; exact HLl.out); obtain ⟨W2, hW2⟩ : ∃ W2, W2 = (((w1.setCell ⟨w.heap.size, 0, none⟩ (.string s)).setCell ⟨w.heap.size, 1, none⟩ (.int .i64 (P1 : Int))).setCell ⟨w.heap.size, 2, none⟩ (.int .i64 0)).alloc (.cells #[.int .i64 0, .bool false, .string ⟨#[]⟩, .int .i64 0, .bool false, .slice none 0 0, .slice none 0 0] 25 (0, 0)) := ⟨_, rfl⟩; have HW2 := hid hW2; have HV2 := hid (VA.start (p := (p : Int)) (q := (P1 : Int)) (by rw [← HW0.out]; exact hb) hW2); have HR1 := hid (three_new w (.cells #[.string s, .int .i64 (p : Int), .int .i64 0] 49 (0, 0)) (.cells #[.string ⟨#[]⟩, .int .i64 0, .int .i64 0] 49 (0, 0)) (.cells #[.int .i64 0, .bool false, .string ⟨#[]⟩, .int .i64 0, .bool false, .slice none 0 0, .slice none 0 0] 25 (0, 0))); have HR2 := hid ((hb.block w.heap.size (by rw [HW0.out]; have := HR1.out.2.1; omega)).trans (show W0.heap[w.heap.size]? = some (.cells #[.string s, .int .i64 (p : Int), .int .i64 0] 49 (0, 0)) from by rw [HW0.out]; exact HR1.out.2.2.1)); obtain ⟨a0, a1, a2, az⟩ := three HR2.out; have az0 := az 0; have az1 := az 1; have az2 := az 2; have hr2 := HV2.out.r; rw [HW2.out] at hr2; obtain ⟨t0, t1, t2, _⟩ := three hr2; clear az hb hd1 hW2 hr2)
      | (rw [← HW2.out]; go_at_call 33; have hcall := rnext_any s P1 0 hP1 W2; rw [HD1.out, HX.out] at hcall; (with_reducible refine hcall.mono ?_); clear hcall; rintro e w3 ⟨rfl, hb⟩; have HV3 := hid (HV2.out.below hb); clear hb; obtain ⟨b0, b1, b2, bz⟩ := three HV3.out.r; have bz0 := bz 0; have bz1 := bz 1; have bz2 := bz 2; clear bz; obtain ⟨v0, v1, v2, v3, v4, v5, v6, vz⟩ := seven HV3.out.v; have vz0 := vz 0; have vz1 := vz 1; have vz2 := vz 2; have vz3 := vz 3; have vz4 := vz 4; have vz5 := vz 5; have vz6 := vz 6; clear vz; obtain ⟨y0, y1, y2, yz⟩ := three HV3.out.o1; have yz0 := yz 0; have yz1 := yz 1; have yz2 := yz 2; clear yz; obtain ⟨q0, q1, q2, q3, q4, q5, q6, qz⟩ := seven HV3.out.o2; have qz0 := qz 0; have qz1 := qz 1; have qz2 := qz 2; have qz3 := qz 3; have qz4 := qz 4; have qz5 := qz 5; have qz6 := qz 6; clear qz)
      | (go_at_call 37; have hcall := rnumber_any s P1 hP1 HS4.out w3; rw [HD1.out, HNu.out] at hcall; (with_reducible refine hcall.mono ?_); clear hcall; rintro e w4 ⟨P2, hlt2, _, hP2, hd2, rfl, hb⟩; obtain ⟨nbb, ni, hnn⟩ : ∃ nbb ni, numN (l.take (P2 - P1)) = (nbb, ni) := ⟨_, _, rfl⟩; obtain ⟨SS, hSS⟩ : ∃ SS, s.extract P1 P2 = SS := ⟨_, rfl⟩; rw [HD1.out, hnn, hSS]; have HNn := hid (And.intro hnn hSS); clear hnn hSS; have HD2 := hid hd2; have HV4 := hid (HV3.out.below hb); have HV5 := hid (HV4.out.put s (P2 : Int) 0); have HV6 := hid (HV5.out.putv (.int .i64 3) (.bool false) (.string SS) (.int .i64 ni) (.bool nbb) (.slice none 0 0) (.slice none 0 0)); clear hb hd2; obtain ⟨c0, c1, c2, cz⟩ := three HV4.out.r; have cz0 := cz 0; have cz1 := cz 1; have cz2 := cz 2; clear cz; obtain ⟨f0, f1, f2, f3, f4, f5, f6, fz⟩ := seven HV5.out.v; have fz0 := fz 0; have fz1 := fz 1; have fz2 := fz 2; have fz3 := fz 3; have fz4 := fz 4; have fz5 := fz 5; have fz6 := fz 6; clear fz; obtain ⟨j0, j1, j2, jz⟩ := three HV6.out.r; have jz0 := jz 0; have jz1 := jz 1; have jz2 := jz 2; clear jz; obtain ⟨m0, m1, m2, m3, m4, m5, m6, mz⟩ := seven HV6.out.v; have mz0 := mz 0; have mz1 := mz 1; have mz2 := mz 2; have mz3 := mz 3; have mz4 := mz 4; have mz5 := mz 5; have mz6 := mz 6; clear mz; obtain ⟨ya0, ya1, ya2, yaz⟩ := three HV6.out.o1; have yaz0 := yaz 0; have yaz1 := yaz 1; have yaz2 := yaz 2; clear yaz; obtain ⟨qa0, qa1, qa2, qa3, qa4, qa5, qa6, qaz⟩ := seven HV6.out.o2; have qaz0 := qaz 0; have qaz1 := qaz 1; have qaz2 := qaz 2; have qaz3 := qaz 3; have qaz4 := qaz 4; have qaz5 := qaz 5; have qaz6 := qaz 6; clear qaz))
    have HBD := hid (show Below ((((((((((w4.setCell ⟨w.heap.size, 0, none⟩ (.string s)).setCell ⟨w.heap.size, 1, none⟩ (.int .i64 (P2 : Int))).setCell ⟨w.heap.size, 2, none⟩ (.int .i64 0)).setCell ⟨w1.heap.size, 0, none⟩ (.int .i64 3)).setCell ⟨w1.heap.size, 1, none⟩ (.bool false)).setCell ⟨w1.heap.size, 2, none⟩ (.string SS)).setCell ⟨w1.heap.size, 3, none⟩ (.int .i64 ni)).setCell ⟨w1.heap.size, 4, none⟩ (.bool nbb)).setCell ⟨w1.heap.size, 5, none⟩ (.slice none 0 0)).setCell ⟨w1.heap.size, 6, none⟩ (.slice none 0 0)).heap.size ((((((((((w4.setCell ⟨w.heap.size, 0, none⟩ (.string s)).setCell ⟨w.heap.size, 1, none⟩ (.int .i64 (P2 : Int))).setCell ⟨w.heap.size, 2, none⟩ (.int .i64 0)).setCell ⟨w1.heap.size, 0, none⟩ (.int .i64 3)).setCell ⟨w1.heap.size, 1, none⟩ (.bool false)).setCell ⟨w1.heap.size, 2, none⟩ (.string SS)).setCell ⟨w1.heap.size, 3, none⟩ (.int .i64 ni)).setCell ⟨w1.heap.size, 4, none⟩ (.bool nbb)).setCell ⟨w1.heap.size, 5, none⟩ (.slice none 0 0)).setCell ⟨w1.heap.size, 6, none⟩ (.slice none 0 0)) ((((((((((w4.setCell ⟨w.heap.size, 0, none⟩ (.string s)).setCell ⟨w.heap.size, 1, none⟩ (.int .i64 (P2 : Int))).setCell ⟨w.heap.size, 2, none⟩ (.int .i64 0)).setCell ⟨w1.heap.size, 0, none⟩ (.int .i64 3)).setCell ⟨w1.heap.size, 1, none⟩ (.bool false)).setCell ⟨w1.heap.size, 2, none⟩ (.string SS)).setCell ⟨w1.heap.size, 3, none⟩ (.int .i64 ni)).setCell ⟨w1.heap.size, 4, none⟩ (.bool nbb)).setCell ⟨w1.heap.size, 5, none⟩ (.slice none 0 0)).setCell ⟨w1.heap.size, 6, none⟩ (.slice none 0 0)).drew from below_drew (Below.refl _ _) 1)
    have HVd := hid (HV6.out.below HBD.out)
    refine wp_region_noPanic ?_
    refine any_begin 5 (by kernel_rfl) (by kernel_rfl) ?_
    refine late_begin (fun U => StV w U s (P2 : Int) w1.heap.size (.int .i64 3) (.bool false) (.string SS) (.int .i64 ni) (.bool nbb) (.slice none 0 0) (.slice none 0 0)) (fun _ => false) HVd.out.st (fun hS => ?_)
    have HBs := hid HBD.out.size
    have HBk := hid (fun k (hk : k < ((((((((((w4.setCell ⟨w.heap.size, 0, none⟩ (.string s)).setCell ⟨w.heap.size, 1, none⟩ (.int .i64 (P2 : Int))).setCell ⟨w.heap.size, 2, none⟩ (.int .i64 0)).setCell ⟨w1.heap.size, 0, none⟩ (.int .i64 3)).setCell ⟨w1.heap.size, 1, none⟩ (.bool false)).setCell ⟨w1.heap.size, 2, none⟩ (.string SS)).setCell ⟨w1.heap.size, 3, none⟩ (.int .i64 ni)).setCell ⟨w1.heap.size, 4, none⟩ (.bool nbb)).setCell ⟨w1.heap.size, 5, none⟩ (.slice none 0 0)).setCell ⟨w1.heap.size, 6, none⟩ (.slice none 0 0)).heap.size) => HBD.out.block k hk)
    clear HBD
    generalize ((((((((((w4.setCell ⟨w.heap.size, 0, none⟩ (.string s)).setCell ⟨w.heap.size, 1, none⟩ (.int .i64 (P2 : Int))).setCell ⟨w.heap.size, 2, none⟩ (.int .i64 0)).setCell ⟨w1.heap.size, 0, none⟩ (.int .i64 3)).setCell ⟨w1.heap.size, 1, none⟩ (.bool false)).setCell ⟨w1.heap.size, 2, none⟩ (.string SS)).setCell ⟨w1.heap.size, 3, none⟩ (.int .i64 ni)).setCell ⟨w1.heap.size, 4, none⟩ (.bool nbb)).setCell ⟨w1.heap.size, 5, none⟩ (.slice none 0 0)).setCell ⟨w1.heap.size, 6, none⟩ (.slice none 0 0)).drew = V at hS HVd HBs HBk ⊢
    refine late_take (i := 0) (some 85) rfl rfl (by kernel_rfl) (by kernel_rfl) (by kernel_rfl) (by kernel_rfl) (by kernel_rfl) (fun _ _ _ h => h) (by rfl) (v := ?v0nu) ?hy0nu hS ?rest0nu
    case hy0nu => intro w0 hSw; obtain ⟨k0, k1, k2, _⟩ := three hSw.r; obtain ⟨m0, m1, m2, m3, m4, m5, m6, _⟩ := seven hSw.v; go_simp; try with_reducible rfl
    simp only [Act.put, List.setIfInBounds_toArray, List.set_cons_zero, List.set_cons_succ]
    refine late_take (i := 2) (some 87) rfl rfl (by kernel_rfl) (by kernel_rfl) (by kernel_rfl) (by kernel_rfl) (by kernel_rfl) (fun _ _ _ h => h) (by rfl) (v := ?v2nu) ?hy2nu hS ?rest2nu
    case hy2nu => intro w0 hSw; obtain ⟨k0, k1, k2, _⟩ := three hSw.r; obtain ⟨m0, m1, m2, m3, m4, m5, m6, _⟩ := seven hSw.v; go_simp; try with_reducible rfl
    simp only [Act.put, List.setIfInBounds_toArray, List.set_cons_zero, List.set_cons_succ]
    refine wpAnyD_one (i := 1) (by kernel_rfl) rfl (fun K hK => ?_)
    go_simp
    go_at_call 32
    refine (rblanks_any s _ 0 hP2 HS4.out V).mono ?_
    rintro e w9 ⟨P9, _, hP9, hd9, rfl, hb9⟩
    have HV9 := hid (HVd.out.below hb9)
    have HB9 := hid (And.intro hb9.size (fun k (hk : k < V.heap.size) => hb9.block k hk))
    have HD9 := hid hd9
    clear hb9 hd9
    have hS2 := HV9.out.st
    refine hK _ _ ⟨fun _ => hS2, ?_⟩
    clear hK K
    replace hS := hS2
    clear hS2
    obtain ⟨y0, y1, y2, yz⟩ := three HV9.out.o1; have yz0 := yz 0; have yz1 := yz 1; have yz2 := yz 2; clear yz
    obtain ⟨q0, q1, q2, q3, q4, q5, q6, qz⟩ := seven HV9.out.o2; have qz0 := qz 0; have qz1 := qz 1; have qz2 := qz 2; have qz3 := qz 3; have qz4 := qz 4; have qz5 := qz 5; have qz6 := qz 6; clear qz
    refine wpAnyD_one (i := 3) (by kernel_rfl) rfl (fun K hK => ?_)
    go_simp
    refine hK _ _ ⟨fun _ => hS.out1 _ _ _, ?_⟩
    clear hK K
    refine wpAnyD_one (i := 4) (by kernel_rfl) rfl (fun K hK => ?_)
    go_simp
    refine hK _ _ ⟨fun _ => hS.out2 _ _ _ _ _ _ _ _ _ _, ?_⟩
    clear hK K
    refine late_done (by kernel_rfl) ?_ _
    refine NoPanic.normal ?_
    clear hS
    go_wp2
    (try simp only [Exit.inBlock, Exit.then])
    refine bodyPost_ret (results_rdval rfl _ _ _ _ 49 25 _ _ (0, 0) (0, 0) rfl rfl (out_rv (has_three HV9.out.o1) (has_seven HV9.out.o2) (Nat.ne_of_lt (Nat.lt_succ_self _)) _ _ _ _ _ _ _ _ _ _).1 (out_rv (has_three HV9.out.o1) (has_seven HV9.out.o2) (Nat.ne_of_lt (Nat.lt_succ_self _)) _ _ _ _ _ _ _ _ _ _).2 rfl rfl) rfl ?_
    rw [HN.out]
    have hll : l.length - u.length = P2 - P1 := by
      rw [← HD1.out, ← HD2.out, List.length_drop, List.length_drop]
      have : s.data.toList.length = s.size := rfl
      omega
    have hpre := HPre.out
    rw [hll] at hpre
    have hnt := num_text hpre
    rw [HNn.out.1] at hnt
    have hst : str (l.take (P2 - P1)) = SS := by
      rw [← HNn.out.2]
      apply str_of
      rw [ext_list, HD1.out]
    rw [hll, hnt]
    exact ⟨P9, 0, _, _, hP9, rfl, val_out (F := fun _ => False) (by rw [← hst]; exact flat_val _ (fun _ => False) 3 false (l.take (P2 - P1)) ni nbb) (fun _ h => h.elim) _ _ _ _ _ _ _ _ _ _, HV9.out.outB _ _ _ _ _ _ _ _ _ _, .inl ⟨rfl, by rw [HD9.out, HD2.out]; rfl⟩⟩
theorem rval_any {s : ByteArray} (hs : s.size ≤ 1048576) : ∀ n d, n + d = 32 → RValOk s (val n) d
  | 0, d, h => rvalue_any hs (by omega) (.inl ⟨by omega, rfl⟩)
  | n + 1, d, h => rvalue_any hs (by omega) (.inr ⟨by omega, val n, rfl, val_short n, rval_any hs n (d + 1) (by omega)⟩)
end Go.Proofs.YtkoeihliaandeaaGreatDoor
