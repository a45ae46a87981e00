/- Two tries and a row side by side; what is found does not hang on the order. -/
import Derived.Test.YtdjjkcpnjocafaaDoorTBeats
namespace Go.Proofs.YtdjjkcpnjocafaaDoor
open Go.RowKit

/-- A trie whose blocks lie within X. -/
def TrX (w : World) (X : Nat → Prop) (t : Nat) (P : List (B × Int)) (M : Nat) : Prop := ∃ G es v, Tr w t P M G es v ∧ ∀ i, Ft G es v i → X i
theorem TrX.keep {w w' : World} {X : Nat → Prop} {t : Nat} {P : List (B × Int)} {M : Nat} (h : TrX w X t P M) (hk : ∀ i, X i → i < w.heap.size → w'.heap[i]? = w.heap[i]?) : TrX w' X t P M := by
  obtain ⟨G, es, v, h1, h2⟩ := h
  exact ⟨G, es, v, h1.keep (fun i hi hl => hk i (h2 i hi) hl), h2⟩
theorem addX_any {w : World} {X : Nat → Prop} {t : Nat} {P : List (B × Int)} {M : Nat} (h : TrX w X t P M) (hmx : MxAt w) (hM : M + 64 < 1000000) (hP : P.length ≤ 1000000) (p : B) (hp : p.length ≤ 140737488355328) (id : Int) :
    Calls Tryd.prog 8 #[.pointer (some ⟨t, 0, none⟩), .string (str p), .int .i64 id] w fun e w' => e = .returned (errOf (addE P p)) ∧ TrX w' (fun i => X i ∨ (w.heap.size ≤ i ∧ i < w'.heap.size)) t (addP P p id) (M + 64) ∧ Kept X w w' := by
  obtain ⟨G, es, v, h1, h2⟩ := h
  refine (add_any h1 hmx hM hP p hp id).mono ?_
  rintro e w' ⟨he, G', es', v', k1, k2, k3⟩
  exact ⟨he, ⟨G', es', v', k1, fun i hi => (k3 i hi).elim (fun h => .inl (h2 i h)) (fun e1 => .inr ⟨e1, k1.ft_lt hi⟩)⟩, k2.mono (fun i _ h => h2 i h)⟩
abbrev OwnT := OwnR 9 1 (fun t : B => [.string (str t)])
/-- Two tries and a row of texts, all made since w0. -/
def Ord (w0 w : World) (ta tb : Nat) (Pa Pb : List (B × Int)) (Ma Mb : Nat) (ins : List B) (vin : Value) : Prop :=
  ∃ Xa Xb : Nat → Prop, TrX w Xa ta Pa Ma ∧ TrX w Xb tb Pb Mb ∧ OwnT w w0.heap.size vin ins ∧ (∀ i, Xa i → w0.heap.size ≤ i ∧ i < w.heap.size ∧ ¬ Xb i ∧ vin.ownBlock ≠ some i) ∧ (∀ i, Xb i → w0.heap.size ≤ i ∧ i < w.heap.size ∧ vin.ownBlock ≠ some i) ∧ Below w0.heap.size w0 w
section
variable {w0 w w' : World} {ta tb : Nat} {Pa Pb : List (B × Int)} {Ma Mb : Nat} {ins : List B} {vin : Value}
theorem Ord.low (h : Ord w0 w ta tb Pa Pb Ma Mb ins vin) : Below w0.heap.size w0 w := by
  obtain ⟨_, _, _, _, _, _, _, h⟩ := h
  exact h
theorem Ord.row (h : Ord w0 w ta tb Pa Pb Ma Mb ins vin) : OwnT w w0.heap.size vin ins := by
  obtain ⟨_, _, _, _, h, _⟩ := h
  exact h
theorem Ord.trA (h : Ord w0 w ta tb Pa Pb Ma Mb ins vin) : ∃ G es v, Tr w ta Pa Ma G es v := by
  obtain ⟨_, _, ⟨G, es, v, h, _⟩, _⟩ := h
  exact ⟨G, es, v, h⟩
theorem Ord.trB (h : Ord w0 w ta tb Pa Pb Ma Mb ins vin) : ∃ G es v, Tr w tb Pb Mb G es v := by
  obtain ⟨_, _, _, ⟨G, es, v, h, _⟩, _⟩ := h
  exact ⟨G, es, v, h⟩
theorem Ord.next (h : Ord w0 w ta tb Pa Pb Ma Mb ins vin) (hb : Below w.heap.size w w') : Ord w0 w' ta tb Pa Pb Ma Mb ins vin := by
  obtain ⟨Xa, Xb, h1, h2, h3, h4, h5, h6⟩ := h
  exact ⟨Xa, Xb, h1.keep (fun i _ hl => hb.block i hl), h2.keep (fun i _ hl => hb.block i hl), h3.keep hb, fun i hi => ⟨(h4 i hi).1, Nat.lt_of_lt_of_le (h4 i hi).2.1 hb.size, (h4 i hi).2.2⟩, fun i hi => ⟨(h5 i hi).1, Nat.lt_of_lt_of_le (h5 i hi).2.1 hb.size, (h5 i hi).2.2⟩, below_out h6 hb⟩
theorem Ord.addA (h : Ord w0 w ta tb Pa Pb Ma Mb ins vin) (hmx : MxAt w) (hM : Ma + 64 < 1000000) (hP : Pa.length ≤ 1000000) (p : B) (hp : p.length ≤ 140737488355328) (id : Int) :
    Calls Tryd.prog 8 #[.pointer (some ⟨ta, 0, none⟩), .string (str p), .int .i64 id] w fun e w' => e = .returned (errOf (addE Pa p)) ∧ Ord w0 w' ta tb (addP Pa p id) Pb (Ma + 64) Mb ins vin := by
  obtain ⟨Xa, Xb, h1, h2, h3, h4, h5, h6⟩ := h
  refine (addX_any h1 hmx hM hP p hp id).mono ?_
  rintro e w' ⟨he, k1, k2⟩
  refine ⟨he, _, Xb, k1, h2.keep (fun i hi hl => k2.block i hl (fun ha => (h4 i ha).2.2.1 hi)), h3.keepB (fun g e1 => k2.block g (h3.lt e1) (fun ha => (h4 g ha).2.2.2 e1)), fun i hi => ?_, fun i hi => ⟨(h5 i hi).1, Nat.lt_of_lt_of_le (h5 i hi).2.1 k2.size, (h5 i hi).2.2⟩, h6.trans (k2.below h6.size (fun i hi => (h4 i hi).1))⟩
  rcases hi with hi | ⟨hi1, hi2⟩
  · exact ⟨(h4 i hi).1, Nat.lt_of_lt_of_le (h4 i hi).2.1 k2.size, (h4 i hi).2.2⟩
  · exact ⟨Nat.le_trans h6.size hi1, hi2, fun hb => by have := (h5 i hb).2.1; omega, fun e1 => by have := h3.lt e1; omega⟩
theorem Ord.addB (h : Ord w0 w ta tb Pa Pb Ma Mb ins vin) (hmx : MxAt w) (hM : Mb + 64 < 1000000) (hP : Pb.length ≤ 1000000) (p : B) (hp : p.length ≤ 140737488355328) (id : Int) :
    Calls Tryd.prog 8 #[.pointer (some ⟨tb, 0, none⟩), .string (str p), .int .i64 id] w fun e w' => e = .returned (errOf (addE Pb p)) ∧ Ord w0 w' ta tb Pa (addP Pb p id) Ma (Mb + 64) ins vin := by
  obtain ⟨Xa, Xb, h1, h2, h3, h4, h5, h6⟩ := h
  refine (addX_any h2 hmx hM hP p hp id).mono ?_
  rintro e w' ⟨he, k1, k2⟩
  refine ⟨he, Xa, _, h1.keep (fun i hi hl => k2.block i hl (fun hb => (h4 i hi).2.2.1 hb)), k1, h3.keepB (fun g e1 => k2.block g (h3.lt e1) (fun hb => (h5 g hb).2.2 e1)), fun i hi => ⟨(h4 i hi).1, Nat.lt_of_lt_of_le (h4 i hi).2.1 k2.size, fun hb => ?_, (h4 i hi).2.2.2⟩, fun i hi => ?_, h6.trans (k2.below h6.size (fun i hi => (h5 i hi).1))⟩
  · rcases hb with hb | ⟨hb, _⟩
    · exact (h4 i hi).2.2.1 hb
    · have := (h4 i hi).2.1
      omega
  · rcases hi with hi | ⟨hi1, hi2⟩
    · exact ⟨(h5 i hi).1, Nat.lt_of_lt_of_le (h5 i hi).2.1 k2.size, (h5 i hi).2.2⟩
    · exact ⟨Nat.le_trans h6.size hi1, hi2, fun e1 => by have := h3.lt e1; omega⟩
theorem Ord.app {o : Obj} {w2 : World} {ins' : List B} {vin' : Value} (h : Ord w0 w ta tb Pa Pb Ma Mb ins vin) (hg : (w.alloc o).grownBy w2 vin.ownBlock) (ho : OwnT w2 w0.heap.size vin' ins') (hv : vin'.ownBlock = vin.ownBlock ∨ vin'.ownBlock = some (w.alloc o).heap.size) : Ord w0 w2 ta tb Pa Pb Ma Mb ins' vin' := by
  obtain ⟨Xa, Xb, h1, h2, h3, h4, h5, h6⟩ := h
  have hk : ∀ i, i < w.heap.size → vin.ownBlock ≠ some i → w2.heap[i]? = w.heap[i]? := fun i hi hne => (hg.block i (by simp; omega) (fun e => hne e.symm)).trans ((below_new w o).block i hi)
  have hs : w.heap.size ≤ w2.heap.size := by have := hg.size; simp at this; omega
  have hvn : ∀ i, i < w.heap.size → vin.ownBlock ≠ some i → vin'.ownBlock ≠ some i := fun i hi hne e => by
    rcases hv with h9 | h9
    · exact hne (by rw [← h9]; exact e)
    · rw [h9] at e
      injection e with e
      simp at e
      omega
  refine ⟨Xa, Xb, h1.keep (fun i hi hl => hk i hl (h4 i hi).2.2.2), h2.keep (fun i hi hl => hk i hl (h5 i hi).2.2), ho, fun i hi => ⟨(h4 i hi).1, by have := (h4 i hi).2.1; omega, (h4 i hi).2.2.1, hvn i (h4 i hi).2.1 (h4 i hi).2.2.2⟩, fun i hi => ⟨(h5 i hi).1, by have := (h5 i hi).2.1; omega, hvn i (h5 i hi).2.1 (h5 i hi).2.2⟩, ?_⟩
  have hz := h6.size
  exact (h6.trans ((below_new w o).mono hz)).trans ((h3.alloc o).below (by simp; omega) hg)
end
theorem Ord.start {w0 w1 w2 : World} (h1 : Tr w1 w0.heap.size [] 0 (G0 w0.heap.size) [] (.slice none 0 0)) (hb1 : Below w0.heap.size w0 w1) (h2 : Tr w2 w1.heap.size [] 0 (G0 w1.heap.size) [] (.slice none 0 0)) (hb2 : Below w1.heap.size w1 w2) : Ord w0 w2 w0.heap.size w1.heap.size [] [] 0 0 [] (.slice none 0 0) := by
  have hlt := (h1.tree.node [] _ h1.root).2.lt
  have hlt2 := (h2.tree.node [] _ h2.root).2.lt
  refine ⟨fun i => i = w0.heap.size, fun i => i = w1.heap.size, ⟨_, _, _, h1.next hb2, fun i hi => ft_new hi⟩, ⟨_, _, _, h2, fun i hi => ft_new hi⟩, OwnR.nil _ _, fun i hi => ?_, fun i hi => ?_, below_out hb1 hb2⟩
  · subst hi
    exact ⟨Nat.le_refl _, Nat.lt_of_lt_of_le hlt hb2.size, by omega, by simp [Value.ownBlock]⟩
  · subst hi
    exact ⟨hb1.size, hlt2, by simp [Value.ownBlock]⟩
/-- Texts with their places. -/
def idxP (l : List B) : List (B × Int) := l.zipIdx.map fun x => (x.1, (x.2 : Int))
theorem idxP_len (l : List B) : (idxP l).length = l.length := by simp [idxP]
theorem idxP_snoc (l : List B) (s : B) : idxP (l ++ [s]) = idxP l ++ [(s, (l.length : Int))] := by
  unfold idxP
  rw [List.zipIdx_append]
  simp
theorem idxP_at {l : List B} {i : Nat} {s : B} (h : l[i]? = some s) : (idxP l)[i]? = some (s, (i : Int)) := by
  unfold idxP
  rw [List.getElem?_map, List.getElem?_zipIdx, h]
  simp
theorem idxP_of {l : List B} {x : B × Int} (h : x ∈ idxP l) : ∃ i : Nat, l[i]? = some x.1 ∧ x.2 = (i : Int) := by
  obtain ⟨i, hi⟩ := List.getElem?_of_mem h
  have hl : i < l.length := by have := (List.getElem?_eq_some_iff.1 hi).1; rw [idxP_len] at this; exact this
  rw [idxP_at (List.getElem?_eq_getElem hl)] at hi
  injection hi with hi
  exact ⟨i, by rw [← hi]; exact List.getElem?_eq_getElem hl, by rw [← hi]⟩
theorem rev_drop {l : List (B × Int)} {k : Nat} {x : B × Int} (h : l[k]? = some x) : (l.drop k).reverse = (l.drop (k + 1)).reverse ++ [x] := by
  obtain ⟨h1, h2⟩ := List.getElem?_eq_some_iff.1 h
  rw [List.drop_eq_getElem_cons h1, h2, List.reverse_cons]
/-- A pattern of a trie can be laid in behind those that stood behind it. -/
theorem addE_rev {w : World} {t : Nat} {P : List (B × Int)} {M : Nat} {G : Gt} {es : List Nat} {v : Value} (h : Tr w t P M G es v) {k : Nat} {x : B × Int} (hx : P[k]? = some x) : addE ((P.drop (k + 1)).reverse) x.1 = 0 := by
  have hc := h.fine x (List.mem_of_getElem? hx)
  unfold addE
  rw [hc, if_pos rfl, if_neg]
  intro ha
  obtain ⟨q, hq, hk⟩ := List.any_eq_true.1 ha
  rw [List.mem_reverse] at hq
  obtain ⟨j, hj⟩ := List.getElem?_of_mem hq
  rw [List.getElem?_drop] at hj
  have := h.ap _ _ q x hj hx (of_decide_eq_true hk)
  omega
/-- Who is found. -/
theorem found_same {P Q : List (B × Int)} (hPQ : ∀ x, x ∈ P ↔ x ∈ Q) {r : List B} {p q : B × Int} (hp : p ∈ P) (hq : q ∈ Q) (fp : (fitsT (cutT p.1.tail) r).isSome = true) (fq : (fitsT (cutT q.1.tail) r).isSome = true)
    (bp : ∀ x ∈ P, (fitsT (cutT x.1.tail) r).isSome = true → x = p ∨ betterT (cutT p.1.tail) (cutT x.1.tail) = true) (bq : ∀ x ∈ Q, (fitsT (cutT x.1.tail) r).isSome = true → x = q ∨ betterT (cutT q.1.tail) (cutT x.1.tail) = true) : p = q := by
  rcases bp q ((hPQ q).2 hq) fq with h | h
  · exact h.symm
  · rcases bq p ((hPQ p).1 hp) fp with h2 | h2
    · exact h2
    · have := better_asymm h
      rw [h2] at this
      cases this
end Go.Proofs.YtdjjkcpnjocafaaDoor
