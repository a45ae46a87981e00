/- Add and All, by the program. -/
import Derived.Test.YtdjjkcpnjocafaaDoorTTrie
namespace Go.Proofs.YtdjjkcpnjocafaaDoor
open Go.RowKit Go.Maps

/-- Which error Add answers. -/
def addE (P : List (B × Int)) (p : B) : Nat := if checkP p then (if P.any (fun q => decide (keysP q.1 = keysP p)) then 6 else 0) else 3
def addP (P : List (B × Int)) (p : B) (id : Int) : List (B × Int) := if addE P p = 0 then P ++ [(p, id)] else P
theorem infoE : (Tryd.prog.info? 65).map (fun i => (i.zero, i.size, i.bytes)) = some (some (.pointer none), 1, 8) := by kernel_rfl
/-- What Add does. -/
def AddAns (w : World) (t : Nat) (P : List (B × Int)) (M : Nat) (G : Gt) (es : List Nat) (v : Value) (p : B) (id : Int) (e : Ending) (w' : World) : Prop := e = .returned (errOf (addE P p)) ∧ ∃ G' es' v', Tr w' t (addP P p id) (M + 64) G' es' v' ∧ Kept (Ft G es v) w w' ∧ ∀ i, Ft G' es' v' i → Ft G es v i ∨ w.heap.size ≤ i
theorem keys_snoc {X : List B} {i : Nat} {x : B} (h : X[i]? = some x) : keysT (X.take (i + 1)) = keysT (X.take i) ++ [keyT x] := by
  rw [List.take_add_one, h]
  simp [keysT]
theorem errOf3 : errOf 3 = err3 := rfl
/-- What is new in a trie: an entry, its place in the tree and in the row. -/
theorem Tr.added {w w1 w2 w3 : World} {t n e : Nat} {P : List (B × Int)} {M : Nat} {G : Gt} {es : List Nat} {v v' : Value} {p : B} {id : Int} (h : Tr w t P M G es v) (hn : G.nd (keysP p) = some n) (hno : G.en (keysP p) = none) (hc : checkP p = true) (he : EntAt w e (p, id)) (hve : v.ownBlock ≠ some e)
    (h1 : w1 = w.setCell ⟨n, 3, none⟩ (ptrN (some e))) {o : Obj} (ho : OwnE w2 0 v' (es ++ [e])) (hg : (w1.alloc o).grownBy w2 v.ownBlock) (hv : v'.ownBlock = v.ownBlock ∨ v'.ownBlock = some (w1.alloc o).heap.size)
    (h3 : w3 = w2.setCell ⟨t, 4, none⟩ v') :
    Tr w3 t (P ++ [(p, id)]) M { G with en := updK G.en (keysP p) e } (es ++ [e]) v' ∧ Kept (Ft G es v) w w3 := by
  have hnode := (h.tree.node _ n hn).2
  have hroot := (h.tree.node _ t h.root).2
  have hT1 := h.tree.endAt hn e
  rw [← h1] at hT1
  have hnf : Fp G n := .inl ⟨_, hn⟩
  have htf : Fp G t := .inl ⟨_, h.root⟩
  have hen : e ≠ n := fun e1 => ent_not h.tree he (by rw [e1]; exact hnf)
  have het : e ≠ t := fun e1 => ent_not h.tree he (by rw [e1]; exact htf)
  have hs1 : w1.heap.size = w.heap.size := by
    have k1 := ((kept_set w n 3 (ptrN (some e))).size)
    rw [h1]
    simp [World.setCell]
  have k1 : ∀ i, i ≠ n → w1.heap[i]? = w.heap[i]? := fun i hi => by rw [h1]; exact RowKit.Below.heap_setCell w ⟨n, 3, none⟩ _ i hi
  have k2 : ∀ i, i < w.heap.size → v.ownBlock ≠ some i → w2.heap[i]? = w1.heap[i]? := fun i hi hne => (hg.block i (by simp; omega) (fun e1 => hne e1.symm)).trans ((below_new w1 o).block i (by omega))
  have k3 : ∀ i, i ≠ t → w3.heap[i]? = w2.heap[i]? := fun i hi => by rw [h3]; exact RowKit.Below.heap_setCell w2 ⟨t, 4, none⟩ _ i hi
  have hfv : ∀ i, Fp G i → v.ownBlock ≠ some i := fun i hi e1 => (h.rowno i e1).1 hi
  have hT2 : TreeAt w2 (Fp G) { G with en := updK G.en (keysP p) e } M := hT1.keep (fun i hi hl => k2 i (by rw [← hs1]; exact hl) (hfv i hi))
  have ht1 : w2.cell? ⟨t, 4, none⟩ = some v := by
    refine cell_same (w := w1) ?_ (k2 t hroot.lt (hfv t htf))
    rw [h1]
    exact cell4_set (by decide) h.all
  have hT3 : TreeAt w3 (Fp G) { G with en := updK G.en (keysP p) e } M := by
    refine ⟨fun k b hk => ⟨(hT2.node k b hk).1, ?_⟩, fun k m hk => ⟨(hT2.map k m hk).1, ?_⟩, hT2.nomap, hT2.own, hT2.up, hT2.one, hT2.onem, hT2.ends⟩
    · have hb := (hT2.node k b hk).2
      by_cases e1 : b = t
      · subst e1
        rw [h3]
        exact ⟨cell_set_off hb.c0 (by decide), cell_set_off hb.c1 (by decide), cell_set_off hb.c2 (by decide), cell_set_off hb.c3 (by decide), bk_set hb.bk⟩
      · exact hb.keep (k3 b e1)
    · refine (hT2.map k m hk).2.keep (k3 m (fun e1 => ?_))
      subst e1
      exact hT2.node_map (k := []) h.root hk
  have hentk : ∀ i, i < w.heap.size → i ≠ n → i ≠ t → v.ownBlock ≠ some i → w3.heap[i]? = w.heap[i]? := fun i hi h4 h5 h6 => (k3 i h5).trans ((k2 i hi h6).trans (k1 i h4))
  have hvn : ∀ g, v'.ownBlock = some g → ¬ Fp G g ∧ g ∉ es ++ [e] ∧ g ≠ t := fun g e1 => by
    rcases hv with h5 | h5
    · rw [h5] at e1
      obtain ⟨a1, a2⟩ := h.rowno g e1
      refine ⟨a1, fun hm => ?_, fun e2 => a1 (by rw [e2]; exact htf)⟩
      rcases List.mem_append.1 hm with h6 | h6
      · exact a2 h6
      · have h6' : g = e := by simpa using h6
        exact hve (by rw [e1, h6'])
    · rw [h5] at e1
      injection e1 with e1
      have hsz : g = w.heap.size + 1 := by rw [← e1]; simp; omega
      refine ⟨fun hf => ?_, fun hm => ?_, fun e2 => ?_⟩
      · have := h.tree.fp_lt hf
        omega
      · rcases List.mem_append.1 hm with h6 | h6
        · obtain ⟨q, _, hq⟩ := h.ent_lt h6
          have := hq.lt
          omega
        · have h6' : g = e := by simpa using h6
          have := he.lt
          omega
      · have := hroot.lt
        omega
  have hfp : Fp { G with en := updK G.en (keysP p) e } = Fp G := rfl
  have hcv : w3.cell? ⟨t, 4, none⟩ = some v' := by rw [h3]; exact cell_set_same ht1
  have hel : es.length = P.length := h.len
  refine ⟨⟨hT3.exact, h.root, hcv, ho.keepB (fun g e1 => k3 g (hvn g e1).2.2), fun g e1 => ⟨(hvn g e1).1, (hvn g e1).2.1⟩, by rw [List.length_append, List.length_append, hel]; rfl, fun i e1 q h4 h5 => ?_, fun k e1 hk => ?_, fun q hq => ?_, fun i j q r h4 h5 h6 => ?_⟩, ?_⟩
  · by_cases hi : i < es.length
    · rw [List.getElem?_append_left hi] at h4
      rw [List.getElem?_append_left (by rw [← hel]; exact hi)] at h5
      obtain ⟨a1, a2⟩ := h.ent i e1 q h4 h5
      have hmem := List.mem_of_getElem? h4
      refine ⟨a1.keep (hentk e1 a1.lt (fun e2 => ent_not h.tree a1 (by rw [e2]; exact hnf)) (fun e2 => ent_not h.tree a1 (by rw [e2]; exact htf)) (fun e2 => (h.rowno e1 e2).2 hmem)), ?_⟩
      show updK G.en (keysP p) e (keysP q.1) = some e1
      rw [updK_other _ _ (fun e2 => by rw [e2, hno] at a2; cases a2)]
      exact a2
    · have hi2 : i = es.length := by
        have := (List.getElem?_eq_some_iff.1 h4).1
        simp at this
        omega
      subst hi2
      have h4' : e = e1 := by simpa using h4
      have h5' : (p, id) = q := by rw [hel] at h5; simpa using h5
      subst h4' h5'
      exact ⟨he.keep (hentk e he.lt hen het (fun e2 => hve e2)), updK_same _ _ _⟩
  · have hk2 : updK G.en (keysP p) e k = some e1 := hk
    by_cases e2 : k = keysP p
    · subst e2
      rw [updK_same] at hk2
      injection hk2 with hk2
      subst hk2
      exact ⟨es.length, (p, id), by simp, by rw [hel]; simp, rfl⟩
    · rw [updK_other _ _ e2] at hk2
      obtain ⟨i, q, a1, a2, a3⟩ := h.only k e1 hk2
      exact ⟨i, q, by rw [List.getElem?_append_left (List.getElem?_eq_some_iff.1 a1).1]; exact a1, by rw [List.getElem?_append_left (List.getElem?_eq_some_iff.1 a2).1]; exact a2, a3⟩
  · rcases List.mem_append.1 hq with h4 | h4
    · exact h.fine q h4
    · have : q = (p, id) := by simpa using h4
      rw [this]
      exact hc
  · have hold : ∀ {i : Nat} {q : B × Int}, P[i]? = some q → keysP q.1 ≠ keysP p := fun {i q} hq e1 => by
      have hl : i < es.length := by rw [hel]; exact (List.getElem?_eq_some_iff.1 hq).1
      have := (h.ent i _ q (List.getElem?_eq_getElem hl) hq).2
      rw [e1, hno] at this
      cases this
    have hcase : ∀ {i : Nat} {q : B × Int}, (P ++ [(p, id)])[i]? = some q → P[i]? = some q ∨ (i = P.length ∧ q = (p, id)) := fun {i q} hq => by
      by_cases hi : i < P.length
      · rw [List.getElem?_append_left hi] at hq
        exact .inl hq
      · have hi2 : i = P.length := by
          have := (List.getElem?_eq_some_iff.1 hq).1
          simp at this
          omega
        subst hi2
        exact .inr ⟨rfl, by simpa using hq.symm⟩
    rcases hcase h4 with a1 | ⟨a1, a2⟩
    · rcases hcase h5 with b1 | ⟨b1, b2⟩
      · exact h.ap i j q r a1 b1 h6
      · rw [b2] at h6
        exact absurd h6 (hold a1)
    · rcases hcase h5 with b1 | ⟨b1, b2⟩
      · rw [a2] at h6
        exact absurd h6.symm (hold b1)
      · omega
  · have hsz : w.heap.size ≤ w2.heap.size := by have := hg.size; simp at this; omega
    refine ⟨?_, ?_, ?_, ?_, fun i hi hf => hentk i hi (fun e1 => hf (.inl (by rw [e1]; exact hnf))) (fun e1 => hf (.inl (by rw [e1]; exact htf))) (fun e1 => hf (.inr (.inl e1)))⟩
    · rw [h3, show (w2.setCell ⟨t, 4, none⟩ v').os = w2.os from rfl, hg.os, h1]; rfl
    · rw [h3, show (w2.setCell ⟨t, 4, none⟩ v').tape = w2.tape from rfl, hg.tape, h1]; rfl
    · rw [h3, show (w2.setCell ⟨t, 4, none⟩ v').output = w2.output from rfl, hg.output, h1]; rfl
    · rw [h3]
      have := (kept_set w2 t 4 v').size
      omega
theorem ft_added {G : Gt} {es : List Nat} {v v' : Value} {k : List Ky} {e n i : Nat} (hv : v'.ownBlock = v.ownBlock ∨ v'.ownBlock = some n) (hi : Ft { G with en := updK G.en k e } (es ++ [e]) v' i) : Ft G es v i ∨ i = n ∨ i = e := by
  rcases hi with h1 | h1 | h1
  · exact .inl (.inl h1)
  · rcases hv with h2 | h2
    · rw [h2] at h1
      exact .inl (.inr (.inl h1))
    · rw [h2] at h1
      injection h1 with h1
      exact .inr (.inl h1.symm)
  · rcases List.mem_append.1 h1 with h2 | h2
    · exact .inl (.inr (.inr h2))
    · exact .inr (.inr (by simpa using h2))
end Go.Proofs.YtdjjkcpnjocafaaDoor
