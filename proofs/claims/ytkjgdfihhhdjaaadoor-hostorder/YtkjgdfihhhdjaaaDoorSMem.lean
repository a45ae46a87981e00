/- What a call leaves as it was; rows of one's own, whatever their elements. -/
import Derived.Test.YtkjgdfihhhdjaaaDoorSKey
import Derived.Maps.OwnSet
import Derived.StringKeys
namespace Go.Proofs.YtkjgdfihhhdjaaaDoor
open Go.RowKit Go.Maps

/-- But for blocks of F all that was there is as it was. -/
structure Kept (F : Nat → Prop) (w w' : World) : Prop where
  os : w'.os = w.os
  tape : w'.tape = w.tape
  output : w'.output = w.output
  size : w.heap.size ≤ w'.heap.size
  block : ∀ k, k < w.heap.size → ¬ F k → w'.heap[k]? = w.heap[k]?
theorem Kept.refl (F : Nat → Prop) (w : World) : Kept F w w := ⟨rfl, rfl, rfl, Nat.le_refl _, fun _ _ _ => rfl⟩
theorem Kept.trans {F G : Nat → Prop} {a b c : World} (h : Kept F a b) (k : Kept G b c) (hg : ∀ i, i < a.heap.size → G i → F i) : Kept F a c :=
  ⟨k.os.trans h.os, k.tape.trans h.tape, k.output.trans h.output, Nat.le_trans h.size k.size, fun i hi hf => (k.block i (Nat.lt_of_lt_of_le hi h.size) (fun hk => hf (hg i hi hk))).trans (h.block i hi hf)⟩
theorem Kept.mono {F G : Nat → Prop} {a b : World} (h : Kept F a b) (hg : ∀ i, i < a.heap.size → F i → G i) : Kept G a b :=
  ⟨h.os, h.tape, h.output, h.size, fun i hi hf => h.block i hi (fun hk => hf (hg i hi hk))⟩
theorem Kept.below {F : Nat → Prop} {a b : World} {n : Nat} (h : Kept F a b) (hn : n ≤ a.heap.size) (hf : ∀ i, F i → n ≤ i) : Below n a b :=
  ⟨h.os, h.tape, h.output, h.size, fun i hi => h.block i (Nat.lt_of_lt_of_le hi hn) (fun hk => by have := hf i hk; omega)⟩
theorem Below.kept {F : Nat → Prop} {a b : World} (h : Below a.heap.size a b) : Kept F a b := ⟨h.os, h.tape, h.output, h.size, fun i hi _ => h.block i hi⟩
theorem kept_grown {w w' : World} {o : Option Nat} (h : w.grownBy w' o) : Kept (fun i => o = some i) w w' :=
  ⟨h.os, h.tape, h.output, h.size, fun i hi hf => h.block i hi (fun e => hf e.symm)⟩
theorem kept_set (w : World) (b o : Nat) (v : Value) : Kept (fun i => i = b) w (w.setCell ⟨b, o, none⟩ v) :=
  ⟨((Below.refl 0 w).setCell (Nat.zero_le _) v).os, ((Below.refl 0 w).setCell (Nat.zero_le _) v).tape, ((Below.refl 0 w).setCell (Nat.zero_le _) v).output, ((Below.refl 0 w).setCell (Nat.zero_le _) v).size, fun i _ hf => RowKit.Below.heap_setCell w ⟨b, o, none⟩ v i hf⟩
theorem cell_same {w w' : World} {b o : Nat} {v : Value} (h : w.cell? ⟨b, o, none⟩ = some v) (e : w'.heap[b]? = w.heap[b]?) : w'.cell? ⟨b, o, none⟩ = some v := by
  unfold World.cell? at h ⊢
  dsimp only at h ⊢
  rw [e]
  exact h
theorem bk_set {w : World} {b o : Nat} {v : Value} (h : ∃ cs T, w.heap[b]? = some (.cells cs T (0, 0))) : ∃ cs T, (w.setCell ⟨b, o, none⟩ v).heap[b]? = some (.cells cs T (0, 0)) := by
  obtain ⟨cs, T, h⟩ := h
  exact ⟨_, T, heap_setCell_same w b o cs T v h⟩
theorem cell_set_same {w : World} {b o : Nat} {u v : Value} (h : w.cell? ⟨b, o, none⟩ = some u) : (w.setCell ⟨b, o, none⟩ v).cell? ⟨b, o, none⟩ = some v := World.cell?_setCell_same _ _ _ h
theorem cell_set_off {w : World} {b o o' : Nat} {u v : Value} (h : w.cell? ⟨b, o', none⟩ = some u) (hne : o ≠ o') : (w.setCell ⟨b, o, none⟩ v).cell? ⟨b, o', none⟩ = some u := by
  rw [World.cell?_setCell_other _ _ _ _ (fun e => hne (by injection e))]
  exact h
/-- A row of elements of type T, sz cells each; f: an element's cells. -/
def OwnR {α : Type} (T : TypeId) (sz : Nat) (f : α → List Value) (w : World) (base : Nat) (v : Value) (l : List α) : Prop := w.ownsRow base T sz v l.length (l.flatMap f)
theorem flat_at {α : Type} {sz : Nat} {f : α → List Value} (hf : ∀ x, (f x).length = sz) : ∀ (l : List α) (j : Nat) (x : α), l[j]? = some x → ∀ (t : Nat) (u : Value), t < sz → (f x)[t]? = some u → (l.flatMap f)[sz * j + t]? = some u
  | [], j, x, h, _, _, _, _ => by simp at h
  | y :: l, 0, x, h, t, u, ht, hu => by
    simp at h
    subst h
    rw [List.flatMap_cons, Nat.mul_zero, Nat.zero_add, List.getElem?_append_left (by rw [hf]; exact ht)]
    exact hu
  | y :: l, j + 1, x, h, t, u, ht, hu => by
    have ih := flat_at hf l j x (by simpa using h) t u ht hu
    rw [List.flatMap_cons, List.getElem?_append_right (by rw [hf, Nat.mul_succ]; omega), hf, show sz * (j + 1) + t - sz = sz * j + t by rw [Nat.mul_succ]; omega]
    exact ih
section
variable {α : Type} {T : TypeId} {sz : Nat} {f : α → List Value}
theorem OwnR.nil (w : World) (base : Nat) : OwnR T sz f w base (.slice none 0 0) [] := ⟨by simp, .inl ⟨rfl, rfl⟩⟩
theorem OwnR.put {w' : World} {base n : Nat} {v' : Value} {acc : List α} {x : α} (hn : acc.length = n) (h : w'.ownsRow base T sz v' (n + 1) (acc.flatMap f ++ f x)) : OwnR T sz f w' base v' (acc ++ [x]) := by
  subst hn
  unfold OwnR
  rw [List.length_append, List.flatMap_append]
  simpa using h
theorem OwnR.below {w w' : World} {base : Nat} {v : Value} {acc : List α} (h : OwnR T sz f w base v acc) (hb : base ≤ w.heap.size) (hg : w.grownBy w' v.ownBlock) : Below base w w' :=
  ⟨hg.os, hg.tape, hg.output, hg.size, fun k hk => hg.block k (Nat.lt_of_lt_of_le hk hb) (fun e => by have := own_ge h e.symm; omega)⟩
theorem OwnR.keepB {w w' : World} {base : Nat} {v : Value} {acc : List α} (h : OwnR T sz f w base v acc) (hb : ∀ g, v.ownBlock = some g → w'.heap[g]? = w.heap[g]?) : OwnR T sz f w' base v acc := by
  refine ⟨h.1, ?_⟩
  rcases h.2 with h1 | ⟨g, cap, cur, h1, h2, h3, h4⟩
  · exact .inl h1
  · exact .inr ⟨g, cap, cur, h1, h2, (hb g (by rw [h1]; rfl)).trans h3, h4⟩
theorem OwnR.lt {w : World} {base g : Nat} {v : Value} {acc : List α} (h : OwnR T sz f w base v acc) (e : v.ownBlock = some g) : g < w.heap.size := by
  rcases h.2 with ⟨h1, _⟩ | ⟨g', cap, cur, h1, h2, h3, h4⟩
  · rw [h1] at e; cases e
  · rw [h1] at e
    obtain rfl : g' = g := by simpa [Value.ownBlock] using e
    exact lt_of_heap h3
theorem OwnR.keep {w w' : World} {base : Nat} {v : Value} {acc : List α} (h : OwnR T sz f w base v acc) (hb : Below w.heap.size w w') : OwnR T sz f w' base v acc := h.keepB fun g e => hb.block g (h.lt e)
theorem OwnR.alloc {w : World} {base : Nat} {v : Value} {acc : List α} (h : OwnR T sz f w base v acc) (o : Obj) : OwnR T sz f (w.alloc o) base v acc := h.keep (below_new w o)
theorem OwnR.lower {w : World} {base b' : Nat} {v : Value} {acc : List α} (h : OwnR T sz f w base v acc) (hb : b' ≤ base) : OwnR T sz f w b' v acc := by
  refine ⟨h.1, ?_⟩
  rcases h.2 with h1 | ⟨g, cap, cur, h1, h2, h3⟩
  · exact .inl h1
  · exact .inr ⟨g, cap, cur, h1, Nat.le_trans hb h2, h3⟩
theorem OwnR.at {w : World} {base n c j : Nat} {p : Option Addr} {l : List α} {x : α} (hf : ∀ x, (f x).length = sz) (h : OwnR T sz f w base (.slice p n c) l) (hj : l[j]? = some x) : ∃ g, p = some ⟨g, 0, none⟩ ∧ ∀ (t : Nat) (u : Value), (f x)[t]? = some u → w.cell? ⟨g, sz * j + t, none⟩ = some u := by
  have hlt : j < l.length := (List.getElem?_eq_some_iff.1 hj).1
  rcases h.2 with ⟨h1, h2⟩ | ⟨g, cap, cur, h1, h2, h3, h4, _, h6, h7⟩
  · omega
  · refine ⟨g, by cases h1; rfl, fun t u hu => ?_⟩
    have ht : t < sz := by rw [← hf x]; exact (List.getElem?_eq_some_iff.1 hu).1
    have k1 := flat_at hf l j x hj t u ht hu
    have hm : sz * j + t < l.length * sz := by
      have := Nat.mul_le_mul_right sz (Nat.succ_le_of_lt hlt)
      rw [Nat.succ_mul, Nat.mul_comm j sz] at this
      omega
    rw [← h7, List.getElem?_take, if_pos hm] at k1
    simp only [World.cell?, h3]
    simpa using k1
/-- Rows of unlike types never share a block. -/
theorem OwnR.aside {T' : TypeId} {sz' n' : Nat} {xs' : List Value} {w w' : World} {base base' : Nat} {v v' : Value} {acc : List α} (h : OwnR T sz f w base v acc) (h' : w.ownsRow base' T' sz' v' n' xs') (hT : T ≠ T') (hg : w.grownBy w' v'.ownBlock) : OwnR T sz f w' base v acc := by
  refine h.keepB fun g e => hg.block g (h.lt e) (fun e' => ?_)
  rcases h.2 with ⟨h1, _⟩ | ⟨g1, cap, cur, h1, h2, h3, h4⟩
  · rw [h1] at e; cases e
  · rw [h1] at e
    obtain rfl : g1 = g := by simpa [Value.ownBlock] using e
    rcases h'.2 with ⟨k1, _⟩ | ⟨g2, cap2, cur2, k1, k2, k3, k4⟩
    · rw [k1] at e'; cases e'
    · rw [k1] at e'
      obtain rfl : g1 = g2 := by simpa [Value.ownBlock] using e'
      rw [h3] at k3
      injection k3 with k3
      injection k3 with _ k5 _
      exact hT k5
end
/-- A cell of another block than the row's is written. -/
theorem OwnR.set {α : Type} {T : TypeId} {sz : Nat} {f : α → List Value} {w : World} {base b o : Nat} {v u : Value} {acc : List α} (h : OwnR T sz f w base v acc) (hb : v.ownBlock ≠ some b) : OwnR T sz f (w.setCell ⟨b, o, none⟩ u) base v acc :=
  h.keepB fun g e => RowKit.Below.heap_setCell w ⟨b, o, none⟩ u g (fun e' => hb (by rw [e, e']))
theorem ownS_R {w : World} {b : Nat} {v : Value} {l : List B} (h : OwnS w b v l) : OwnR 9 1 (fun t : B => [.string (str t)]) w b v l := by
  unfold OwnR
  unfold OwnS strC at h
  rw [show (l.flatMap fun t : B => [Value.string (str t)]) = l.map fun t : B => Value.string (str t) by clear h; induction l <;> simp_all]
  exact h
theorem ownR_S {w : World} {b : Nat} {v : Value} {l : List B} (h : OwnR 9 1 (fun t : B => [.string (str t)]) w b v l) : OwnS w b v l := by
  unfold OwnR at h
  unfold OwnS strC
  rw [show (l.flatMap fun t : B => [Value.string (str t)]) = l.map fun t : B => Value.string (str t) by clear h; induction l <;> simp_all] at h
  exact h
/-- A segment's cells. -/
theorem OwnR.news {α : Type} {T : TypeId} {sz : Nat} {f : α → List Value} {w : World} {base n c : Nat} {ad : Addr} {l : List α} (h : OwnR T sz f w base (.slice (some ad) n c) l) : ∀ j u, (l.flatMap f)[j]? = some u → w.cell? (ad.add j) = some u := by
  intro j u hj
  rcases h.2 with ⟨h1, _⟩ | ⟨g, cap, cur, h1, h2, h3, h4, _, h6, h7⟩
  · cases h1
  · injection h1 with e1
    injection e1 with e1
    subst e1
    rw [add_off]
    rw [← h7, List.getElem?_take] at hj
    split at hj
    · simp only [World.cell?, h3]
      simpa using hj
    · cases hj
end Go.Proofs.YtkjgdfihhhdjaaaDoor
