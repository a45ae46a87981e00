/- The program's reader of chunked bodies in memory. -/
import Derived.Test.YtnlmjlfoeodleaaGreatDoorKInv
import Derived.Maps.AppendAt
namespace Go.Proofs.YtnlmjlfoeodleaaGreatDoor
open Go.RowKit

/-- Nothing but the blocks of F has turned. -/
structure Only (F : Nat → Prop) (w w' : World) : Prop where
  os : w'.os = w.os
  tape : w'.tape = w.tape
  output : w'.output = w.output
  size : w.heap.size ≤ w'.heap.size
  block : ∀ k, k < w.heap.size → ¬ F k → w'.heap[k]? = w.heap[k]?
theorem Only.refl (F : Nat → Prop) (w : World) : Only F w w := ⟨rfl, rfl, rfl, Nat.le_refl _, fun _ _ _ => rfl⟩
theorem Only.of_below {F : Nat → Prop} {w w' : World} (h : Below w.heap.size w w') : Only F w w' := ⟨h.os, h.tape, h.output, h.size, fun k hk _ => h.block k hk⟩
theorem Only.trans {F G : Nat → Prop} {a b c : World} (h : Only F a b) (k : Only G b c) (hs : ∀ k, G k → F k ∨ a.heap.size ≤ k) : Only F a c :=
  ⟨k.os.trans h.os, k.tape.trans h.tape, k.output.trans h.output, Nat.le_trans h.size k.size, fun j hj hf => (k.block j (Nat.lt_of_lt_of_le hj h.size) (fun hg => by rcases hs j hg with h1 | h1; exact hf h1; omega)).trans (h.block j hj hf)⟩
theorem size_set (w : World) (a : Addr) (v : Value) : (w.setCell a v).heap.size = w.heap.size := by simp [World.setCell]
theorem Only.set {F : Nat → Prop} {w w' : World} {g j : Nat} (h : Only F w w') (hg : F g) (v : Value) : Only F w (w'.setCell ⟨g, j, none⟩ v) :=
  h.trans (G := F) ⟨rfl, rfl, rfl, by rw [size_set]; exact Nat.le_refl _, fun k _ hf => Below.heap_setCell _ _ _ _ (fun e => hf (by have e2 : k = g := e; rw [e2]; exact hg))⟩ (fun _ h => .inl h)
theorem Only.grown {F : Nat → Prop} {w w' : World} {o : Option Nat} (h : w.grownBy w' o) (ho : ∀ k, o = some k → F k) : Only F w w' := ⟨h.os, h.tape, h.output, h.size, fun k hk hf => h.block k hk (fun e => hf (ho k e.symm))⟩
theorem Only.below {F : Nat → Prop} {w w' : World} {N : Nat} (h : Only F w w') (hN : ∀ k, F k → N ≤ k) (hs : N ≤ w.heap.size) : Below N w w' := ⟨h.os, h.tape, h.output, h.size, fun k hk => h.block k (Nat.lt_of_lt_of_le hk hs) (fun hf => by have := hN k hf; omega)⟩
def kdCells (s : KS) (t p : Value) : Array Value := #[.int .i64 (s.most : Int), .int .i64 (s.told : Int), errOf s.err, .int .i64 (s.st : Int), .int .u64 (s.left : Int), .int .i64 (s.count : Int), t, .int .i64 (s.lines : Int), .string (str s.name), p]
/-- Block g is the reader s; its rows are t and p. -/
structure Rd (w : World) (g : Nat) (s : KS) (t p : Value) : Prop where
  blk : w.heap[g]? = some (.cells (kdCells s t p) 128 (0, 0))
  trs : OwnF w 0 t s.tr
  part : Own w 0 p s.part
/-- The blocks of a reader lie within F. -/
structure Foot (F : Nat → Prop) (g : Nat) (t p : Value) : Prop where
  g : F g
  t : ∀ k, t.ownBlock = some k → F k
  p : ∀ k, p.ownBlock = some k → F k
def RdAt (F : Nat → Prop) (w : World) (g : Nat) (s : KS) : Prop := ∃ t p, Rd w g s t p ∧ Foot F g t p
/-- The reader has become s, and nothing else has turned. -/
def Turned (F : Nat → Prop) (w : World) (g : Nat) (s : KS) (w' : World) : Prop := ∃ G : Nat → Prop, RdAt G w' g s ∧ Only F w w' ∧ ∀ k, G k → F k ∨ w.heap.size ≤ k
theorem Turned.trans {F G : Nat → Prop} {a b c : World} {g : Nat} {s : KS} (h : Only F a b) (hs : ∀ k, G k → F k ∨ a.heap.size ≤ k) (k : Turned G b g s c) : Turned F a g s c := by
  obtain ⟨H, h1, h2, h3⟩ := k
  refine ⟨H, h1, h.trans h2 hs, fun j hj => ?_⟩
  rcases h3 j hj with h4 | h4
  · exact hs j h4
  · exact .inr (Nat.le_trans h.size h4)
theorem Turned.same {F : Nat → Prop} {w : World} {g : Nat} {s : KS} (h : RdAt F w g s) : Turned F w g s w := ⟨F, h, Only.refl _ _, fun _ h => .inl h⟩
theorem own_only {w w' : World} {b : Nat} {F : Nat → Prop} {v : Value} {acc : B} (h : Own w b v acc) (ho : Only F w w') (hf : ∀ k, v.ownBlock = some k → ¬ F k) : Own w' b v acc := by
  refine ⟨h.1, ?_⟩
  rcases h.2 with h1 | ⟨g, cap, cur, h1, h2, h3, h4⟩
  · exact .inl h1
  · exact .inr ⟨g, cap, cur, h1, h2, (ho.block g (lt_of_heap h3) (hf g (by rw [h1]; rfl))).trans h3, h4⟩
theorem ownF_only {w w' : World} {b : Nat} {F : Nat → Prop} {v : Value} {acc : List (B × B)} (h : OwnF w b v acc) (ho : Only F w w') (hf : ∀ k, v.ownBlock = some k → ¬ F k) : OwnF w' b v acc := by
  refine ⟨h.1, ?_⟩
  rcases h.2 with h1 | ⟨g, cap, cur, h1, h2, h3, h4⟩
  · exact .inl h1
  · exact .inr ⟨g, cap, cur, h1, h2, (ho.block g (lt_of_heap h3) (hf g (by rw [h1]; rfl))).trans h3, h4⟩
/-- A reader that lies elsewhere stays. -/
theorem RdAt.keep {F G : Nat → Prop} {w w' : World} {g : Nat} {s : KS} (h : RdAt F w g s) (ho : Only G w w') (hd : ∀ k, F k → ¬ G k) : RdAt F w' g s := by
  obtain ⟨t, p, ⟨h1, h2, h3⟩, hf⟩ := h
  exact ⟨t, p, ⟨(ho.block g (lt_of_heap h1) (hd g hf.g)).trans h1, ownF_only h2 ho (fun k e => hd k (hf.t k e)), own_only h3 ho (fun k e => hd k (hf.p k e))⟩, hf⟩
theorem RdAt.next {F : Nat → Prop} {w w' : World} {g : Nat} {s : KS} (h : RdAt F w g s) (hb : Below w.heap.size w w') : RdAt F w' g s := h.keep (G := fun _ => False) (Only.of_below hb) (fun _ _ h => h)
theorem own_type {w : World} {N k : Nat} {v : Value} {acc : B} {cs : Array Value} {T : TypeId} {fr : Nat × Nat} (h : Own w N v acc) (e : v.ownBlock = some k) (hk : w.heap[k]? = some (.cells cs T fr)) : T = 5 := by
  rcases h.2 with ⟨h4, _⟩ | ⟨g, cap, cur, h4, h5, h6, _⟩
  · rw [h4] at e; simp [Value.ownBlock] at e
  · rw [h4] at e
    simp [Value.ownBlock] at e
    subst e
    rw [h6] at hk
    simp at hk
    exact hk.2.1.symm
theorem ownF_type {w : World} {N k : Nat} {v : Value} {acc : List (B × B)} {cs : Array Value} {T : TypeId} {fr : Nat × Nat} (h : OwnF w N v acc) (e : v.ownBlock = some k) (hk : w.heap[k]? = some (.cells cs T fr)) : T = 88 := by
  rcases h.2 with ⟨h4, _⟩ | ⟨g, cap, cur, h4, h5, h6, _⟩
  · rw [h4] at e; simp [Value.ownBlock] at e
  · rw [h4] at e
    simp [Value.ownBlock] at e
    subst e
    rw [h6] at hk
    simp at hk
    exact hk.2.1.symm
theorem t_ne1 : (128 : Nat) ≠ 5 := by decide
theorem t_ne2 : (128 : Nat) ≠ 88 := by decide
theorem t_ne3 : (5 : Nat) ≠ 88 := by decide
theorem Own.at_set {w : World} {N g j : Nat} {v x : Value} {acc : B} {cs : Array Value} {fr : Nat × Nat} (h : Own w N v acc) (hg : w.heap[g]? = some (.cells cs 128 fr)) : Own (w.setCell ⟨g, j, none⟩ x) N v acc := by
  refine own_only h ((Only.refl (fun k => k = g) w).set rfl x) (fun k e hk => ?_)
  subst hk
  exact t_ne1 (own_type h e hg)
theorem OwnF.at_set {w : World} {N g j : Nat} {v x : Value} {acc : List (B × B)} {cs : Array Value} {fr : Nat × Nat} (h : OwnF w N v acc) (hg : w.heap[g]? = some (.cells cs 128 fr)) : OwnF (w.setCell ⟨g, j, none⟩ x) N v acc := by
  refine ownF_only h ((Only.refl (fun k => k = g) w).set rfl x) (fun k e hk => ?_)
  subst hk
  exact t_ne2 (ownF_type h e hg)
structure Cells10 (w : World) (g : Nat) (c0 c1 c2 c3 c4 c5 c6 c7 c8 c9 : Value) : Prop where
  a0 : w.cell? ⟨g, 0, none⟩ = some c0
  a1 : w.cell? ⟨g, 1, none⟩ = some c1
  a2 : w.cell? ⟨g, 2, none⟩ = some c2
  a3 : w.cell? ⟨g, 3, none⟩ = some c3
  a4 : w.cell? ⟨g, 4, none⟩ = some c4
  a5 : w.cell? ⟨g, 5, none⟩ = some c5
  a6 : w.cell? ⟨g, 6, none⟩ = some c6
  a7 : w.cell? ⟨g, 7, none⟩ = some c7
  a8 : w.cell? ⟨g, 8, none⟩ = some c8
  a9 : w.cell? ⟨g, 9, none⟩ = some c9
  z : ∀ j, w.frozen? ⟨g, j, none⟩ = false
theorem cells10 {w : World} {g : Nat} {c0 c1 c2 c3 c4 c5 c6 c7 c8 c9 : Value} {T : TypeId} (h : w.heap[g]? = some (.cells #[c0, c1, c2, c3, c4, c5, c6, c7, c8, c9] T (0, 0))) : Cells10 w g c0 c1 c2 c3 c4 c5 c6 c7 c8 c9 := by
  refine ⟨?_, ?_, ?_, ?_, ?_, ?_, ?_, ?_, ?_, ?_, fun j => by simp [World.frozen?, h]⟩ <;> simp [World.cell?, h]
theorem set10_0 {w : World} {g : Nat} {T : TypeId} {c0 c1 c2 c3 c4 c5 c6 c7 c8 c9 : Value} (h : w.heap[g]? = some (.cells #[c0, c1, c2, c3, c4, c5, c6, c7, c8, c9] T (0, 0))) (v : Value) : (w.setCell ⟨g, 0, none⟩ v).heap[g]? = some (.cells #[v, c1, c2, c3, c4, c5, c6, c7, c8, c9] T (0, 0)) := by
  simp [World.setCell, Array.getElem?_modify, h]
theorem set10_1 {w : World} {g : Nat} {T : TypeId} {c0 c1 c2 c3 c4 c5 c6 c7 c8 c9 : Value} (h : w.heap[g]? = some (.cells #[c0, c1, c2, c3, c4, c5, c6, c7, c8, c9] T (0, 0))) (v : Value) : (w.setCell ⟨g, 1, none⟩ v).heap[g]? = some (.cells #[c0, v, c2, c3, c4, c5, c6, c7, c8, c9] T (0, 0)) := by
  simp [World.setCell, Array.getElem?_modify, h]
theorem set10_2 {w : World} {g : Nat} {T : TypeId} {c0 c1 c2 c3 c4 c5 c6 c7 c8 c9 : Value} (h : w.heap[g]? = some (.cells #[c0, c1, c2, c3, c4, c5, c6, c7, c8, c9] T (0, 0))) (v : Value) : (w.setCell ⟨g, 2, none⟩ v).heap[g]? = some (.cells #[c0, c1, v, c3, c4, c5, c6, c7, c8, c9] T (0, 0)) := by
  simp [World.setCell, Array.getElem?_modify, h]
theorem set10_3 {w : World} {g : Nat} {T : TypeId} {c0 c1 c2 c3 c4 c5 c6 c7 c8 c9 : Value} (h : w.heap[g]? = some (.cells #[c0, c1, c2, c3, c4, c5, c6, c7, c8, c9] T (0, 0))) (v : Value) : (w.setCell ⟨g, 3, none⟩ v).heap[g]? = some (.cells #[c0, c1, c2, v, c4, c5, c6, c7, c8, c9] T (0, 0)) := by
  simp [World.setCell, Array.getElem?_modify, h]
theorem set10_4 {w : World} {g : Nat} {T : TypeId} {c0 c1 c2 c3 c4 c5 c6 c7 c8 c9 : Value} (h : w.heap[g]? = some (.cells #[c0, c1, c2, c3, c4, c5, c6, c7, c8, c9] T (0, 0))) (v : Value) : (w.setCell ⟨g, 4, none⟩ v).heap[g]? = some (.cells #[c0, c1, c2, c3, v, c5, c6, c7, c8, c9] T (0, 0)) := by
  simp [World.setCell, Array.getElem?_modify, h]
theorem set10_5 {w : World} {g : Nat} {T : TypeId} {c0 c1 c2 c3 c4 c5 c6 c7 c8 c9 : Value} (h : w.heap[g]? = some (.cells #[c0, c1, c2, c3, c4, c5, c6, c7, c8, c9] T (0, 0))) (v : Value) : (w.setCell ⟨g, 5, none⟩ v).heap[g]? = some (.cells #[c0, c1, c2, c3, c4, v, c6, c7, c8, c9] T (0, 0)) := by
  simp [World.setCell, Array.getElem?_modify, h]
theorem set10_6 {w : World} {g : Nat} {T : TypeId} {c0 c1 c2 c3 c4 c5 c6 c7 c8 c9 : Value} (h : w.heap[g]? = some (.cells #[c0, c1, c2, c3, c4, c5, c6, c7, c8, c9] T (0, 0))) (v : Value) : (w.setCell ⟨g, 6, none⟩ v).heap[g]? = some (.cells #[c0, c1, c2, c3, c4, c5, v, c7, c8, c9] T (0, 0)) := by
  simp [World.setCell, Array.getElem?_modify, h]
theorem set10_7 {w : World} {g : Nat} {T : TypeId} {c0 c1 c2 c3 c4 c5 c6 c7 c8 c9 : Value} (h : w.heap[g]? = some (.cells #[c0, c1, c2, c3, c4, c5, c6, c7, c8, c9] T (0, 0))) (v : Value) : (w.setCell ⟨g, 7, none⟩ v).heap[g]? = some (.cells #[c0, c1, c2, c3, c4, c5, c6, v, c8, c9] T (0, 0)) := by
  simp [World.setCell, Array.getElem?_modify, h]
theorem set10_8 {w : World} {g : Nat} {T : TypeId} {c0 c1 c2 c3 c4 c5 c6 c7 c8 c9 : Value} (h : w.heap[g]? = some (.cells #[c0, c1, c2, c3, c4, c5, c6, c7, c8, c9] T (0, 0))) (v : Value) : (w.setCell ⟨g, 8, none⟩ v).heap[g]? = some (.cells #[c0, c1, c2, c3, c4, c5, c6, c7, v, c9] T (0, 0)) := by
  simp [World.setCell, Array.getElem?_modify, h]
theorem set10_9 {w : World} {g : Nat} {T : TypeId} {c0 c1 c2 c3 c4 c5 c6 c7 c8 c9 : Value} (h : w.heap[g]? = some (.cells #[c0, c1, c2, c3, c4, c5, c6, c7, c8, c9] T (0, 0))) (v : Value) : (w.setCell ⟨g, 9, none⟩ v).heap[g]? = some (.cells #[c0, c1, c2, c3, c4, c5, c6, c7, c8, v] T (0, 0)) := by
  simp [World.setCell, Array.getElem?_modify, h]
theorem Own.none_of {w : World} {N n c : Nat} {p : Option Addr} {acc : B} (h : Own w N (.slice p n c) acc) : Own w N (.slice p 0 c) [] := by
  have := Own.less (a := []) (b := acc) (by simpa using h)
  simpa using this
theorem slice_part {w : World} {N n c : Nat} {p : Option Addr} {acc : B} (h : Own w N (.slice p n c) acc) : acc.length = n := by
  rcases h.2 with ⟨h1, h2⟩ | ⟨g, cap, cur, h1, _⟩
  · cases h1; exact h2
  · cases h1; rfl
theorem sliceF_len {w : World} {N n c : Nat} {p : Option Addr} {acc : List (B × B)} (h : OwnF w N (.slice p n c) acc) : acc.length = n := by
  rcases h.2 with ⟨h1, h2⟩ | ⟨g, cap, cur, h1, _⟩
  · cases h1; exact h2
  · cases h1; rfl
theorem u8_ne {c x : UInt8} (h : c ≠ x) : ((c.toNat : Int) == (x.toNat : Int)) = false := by
  rw [beq_eq_false_iff_ne]
  exact fun e => h (UInt8.toNat_inj.1 (by omega))
/-- Bytes that are handed in. -/
def ArgAt (w : World) (p : Option Addr) (l : B) : Prop := ∀ i y, l[i]? = some y → ∃ g o, p = some ⟨g, o, none⟩ ∧ w.cell? ⟨g, o + i, none⟩ = some (.int .u8 (y.toNat : Int))
def ArgOut (F : Nat → Prop) (p : Option Addr) (l : B) : Prop := ∀ a, p = some a → l ≠ [] → ¬ F a.block
theorem ArgAt.out {F : Nat → Prop} {w : World} {p : Option Addr} {l : B} (h : ArgAt w p l) (hF : ∀ k, F k → w.heap.size ≤ k) : ArgOut F p l := by
  intro a e hl hf
  cases l with
  | nil => exact hl rfl
  | cons y r =>
    obtain ⟨g, o, e2, hc⟩ := h 0 y rfl
    have := lt_of_cell hc
    rw [e] at e2
    have e3 := Option.some.inj e2
    have := hF _ hf
    rw [e3] at this
    dsimp only at this
    omega
theorem cell_only {F : Nat → Prop} {w w' : World} (h : Only F w w') {k o : Nat} {v : Value} (hk : ¬ F k) (hc : w.cell? ⟨k, o, none⟩ = some v) : w'.cell? ⟨k, o, none⟩ = some v := by
  have := h.block k (lt_of_cell hc) hk
  unfold World.cell? at hc ⊢
  rw [this]
  exact hc
theorem ArgAt.only {F : Nat → Prop} {w w' : World} {p : Option Addr} {l : B} (h : ArgAt w p l) (ho : Only F w w') (hp : ArgOut F p l) : ArgAt w' p l := by
  intro i y hi
  obtain ⟨g, o, e, hc⟩ := h i y hi
  exact ⟨g, o, e, cell_only ho (hp _ e (by rintro rfl; simp at hi)) hc⟩
theorem ArgAt.next {w w' : World} {p : Option Addr} {l : B} (h : ArgAt w p l) (hb : Below w.heap.size w w') : ArgAt w' p l := by
  intro i y hi
  obtain ⟨g, o, e, hc⟩ := h i y hi
  exact ⟨g, o, e, cell_keep hb hc⟩
theorem Own.arg {w : World} {N n c : Nat} {p : Option Addr} {l : B} (h : Own w N (.slice p n c) l) : ArgAt w p l := fun _ _ hi => h.at hi
theorem take_snocB {l : B} {i : Nat} {y : UInt8} (h : l[i]? = some y) : l.take (i + 1) = l.take i ++ [y] := by rw [List.take_add_one, h]; rfl
theorem wrap_small {i x : Nat} (h : i ≤ x) (hx : x ≤ 140737488355328) : wrap64 (i : Int) = (i : Int) := by unfold wrap64; omega
theorem arg_take {w : World} {p : Option Addr} {L : B} (h : ArgAt w p L) (i : Nat) : ArgAt w p (L.take i) := by
  intro j y hj
  rw [List.getElem?_take] at hj
  split at hj
  · exact h j y hj
  · cases hj
theorem arg_drop {w : World} {g o : Nat} {L : B} (h : ArgAt w (some ⟨g, o, none⟩) L) (i : Nat) : ArgAt w (some ⟨g, o + i, none⟩) (L.drop i) := by
  intro j y hj
  rw [List.getElem?_drop] at hj
  obtain ⟨g2, o2, e, hc⟩ := h (i + j) y hj
  simp only [Option.some.injEq, Addr.mk.injEq, and_true] at e
  obtain ⟨rfl, rfl⟩ := e
  exact ⟨g, o + i, rfl, by rw [Nat.add_assoc]; exact hc⟩
/-- Bytes of one's own lie outside of what lies below them. -/
theorem own_out {w : World} {F : Nat → Prop} {b n c : Nat} {p : Option Addr} {L l : B} (h : Own w b (.slice p n c) L) (hF : ∀ k, F k → k < b) : ArgOut F p l := by
  intro a e _ hf
  have := hF _ hf
  rcases h.2 with ⟨h1, _⟩ | ⟨g, cap, cur, h1, h2, _⟩
  · simp only [Value.slice.injEq] at h1
    rw [h1.1] at e
    cases e
  · simp only [Value.slice.injEq] at h1
    rw [h1.1] at e
    obtain rfl := Option.some.inj e
    dsimp only at this
    omega
theorem own_keepF {w w' : World} {F : Nat → Prop} {b n c : Nat} {p : Option Addr} {L : B} (h : Own w b (.slice p n c) L) (ho : Only F w w') (hF : ∀ k, F k → k < b ∨ w.heap.size ≤ k) : Own w' b (.slice p n c) L := by
  refine ⟨h.1, ?_⟩
  rcases h.2 with h1 | ⟨g, cap, cur, h1, h2, h3, h4⟩
  · exact .inl h1
  · refine .inr ⟨g, cap, cur, h1, h2, (ho.block g (lt_of_heap h3) (fun hf => ?_)).trans h3, h4⟩
    have := hF g hf
    have := lt_of_heap h3
    omega
theorem wrapU {n : Nat} (h : n ≤ 140737488355328) : IntKind.u64.wrap (n : Int) = (n : Int) := by rw [IntKind.wrap_u64]; omega
theorem own_low0 {w : World} {b : Nat} {v : Value} {acc : B} (h : Own w b v acc) : Own w 0 v acc := by
  refine ⟨h.1, ?_⟩
  rcases h.2 with h1 | ⟨g, cap, cur, h1, h2, h3⟩
  · exact .inl h1
  · exact .inr ⟨g, cap, cur, h1, Nat.zero_le _, h3⟩
theorem ys_lt {W : World} {v : Value} {L : B} {k : Nat} (h : Own W 0 v L) (e : v.ownBlock = some k) : k < W.heap.size := by
  rcases h.2 with ⟨h1, _⟩ | ⟨g2, cap, cur, h1, _, h3, _⟩
  · rw [h1] at e; simp [Value.ownBlock] at e
  · rw [h1] at e; simp [Value.ownBlock] at e; subst e; exact lt_of_heap h3
theorem yf_lt {W : World} {v : Value} {fs : List (B × B)} {k : Nat} (h : OwnF W 0 v fs) (e : v.ownBlock = some k) : k < W.heap.size := by
  rcases h.2 with ⟨h1, _⟩ | ⟨g2, cap, cur, h1, _, h3, _⟩
  · rw [h1] at e; simp [Value.ownBlock] at e
  · rw [h1] at e; simp [Value.ownBlock] at e; subst e; exact lt_of_heap h3
theorem RdAt.lt {F : Nat → Prop} {w : World} {g : Nat} {s : KS} (h : RdAt F w g s) : g < w.heap.size := by
  obtain ⟨t, p, hr, _⟩ := h
  exact lt_of_heap hr.blk
theorem RdAt.trim {F : Nat → Prop} {w : World} {g : Nat} {s : KS} (h : RdAt F w g s) : RdAt (fun k => F k ∧ k < w.heap.size) w g s := by
  obtain ⟨t, p, hr, hf⟩ := h
  exact ⟨t, p, hr, ⟨hf.g, lt_of_heap hr.blk⟩, fun k e => ⟨hf.t k e, yf_lt hr.trs e⟩, fun k e => ⟨hf.p k e, ys_lt hr.part e⟩⟩
theorem RdAt.cells {F : Nat → Prop} {w : World} {g : Nat} {s : KS} (h : RdAt F w g s) : ∃ t p, Cells10 w g (.int .i64 (s.most : Int)) (.int .i64 (s.told : Int)) (errOf s.err) (.int .i64 (s.st : Int)) (.int .u64 (s.left : Int)) (.int .i64 (s.count : Int)) t (.int .i64 (s.lines : Int)) (.string (str s.name)) p := by
  obtain ⟨t, p, hr, _⟩ := h
  have hb := hr.blk
  unfold kdCells at hb
  exact ⟨t, p, cells10 hb⟩
theorem RdAt.drew {F : Nat → Prop} {w : World} {g : Nat} {s : KS} (h : RdAt F w g s) : RdAt F w.drew g s := h.next ((Below.refl _ _).drew)
theorem Only.drew {F : Nat → Prop} {w w' : World} (h : Only F w w') : Only F w w'.drew := ⟨h.os, h.tape, h.output, h.size, h.block⟩
/-- A cell of the reader that is a number or a text is written. -/
theorem RdAt.put {F : Nat → Prop} {w : World} {g : Nat} {s s' : KS} (h : RdAt F w g s) (j : Nat) (v : Value) (hc : ∀ t p, (kdCells s t p).setIfInBounds j v = kdCells s' t p) (ht : s'.tr = s.tr) (hp : s'.part = s.part) : RdAt F (w.setCell ⟨g, j, none⟩ v) g s' ∧ Only F w (w.setCell ⟨g, j, none⟩ v) := by
  obtain ⟨t, p, hr, hf⟩ := h
  have hb := hr.blk
  refine ⟨⟨t, p, ⟨?_, ?_, ?_⟩, hf⟩, (Only.refl _ _).set hf.g _⟩
  · rw [← hc t p]
    simp [World.setCell, Array.getElem?_modify, hb]
  · rw [ht]; exact hr.trs.at_set hb
  · rw [hp]; exact hr.part.at_set hb
theorem RdAt.z {F : Nat → Prop} {w : World} {g : Nat} {s : KS} (h : RdAt F w g s) (j : Nat) : w.frozen? ⟨g, j, none⟩ = false := by
  obtain ⟨t, p, hr, _⟩ := h
  have hb := hr.blk
  unfold kdCells at hb
  exact (cells10 hb).z j
end Go.Proofs.YtnlmjlfoeodleaaGreatDoor
