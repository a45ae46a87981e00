/- A tree of patterns in memory: nodes, maps, entries. -/
import Derived.Test.YtdjjkcpnjocafaaDoorTKey
import Derived.Maps.OwnSet
import Derived.StringKeys
namespace Go.Proofs.YtdjjkcpnjocafaaDoor
open Go.RowKit Go.Maps

/-- But for blocks of F all that was there is as it was. -/
structure Kept (F : Nat → Prop) (w w' : World) : Prop where
  os : w'.os = w.os
  tape : w'.tape = w.tape
  output : w'.output = w.output
  size : w.heap.size ≤ w'.heap.size
  block : ∀ k, k < w.heap.size → ¬ F k → w'.heap[k]? = w.heap[k]?
theorem Kept.refl (F : Nat → Prop) (w : World) : Kept F w w := ⟨rfl, rfl, rfl, Nat.le_refl _, fun _ _ _ => rfl⟩
theorem Kept.trans {F G : Nat → Prop} {a b c : World} (h : Kept F a b) (k : Kept G b c) (hg : ∀ i, i < a.heap.size → G i → F i) : Kept F a c :=
  ⟨k.os.trans h.os, k.tape.trans h.tape, k.output.trans h.output, Nat.le_trans h.size k.size, fun i hi hf => (k.block i (Nat.lt_of_lt_of_le hi h.size) (fun hk => hf (hg i hi hk))).trans (h.block i hi hf)⟩
theorem Kept.mono {F G : Nat → Prop} {a b : World} (h : Kept F a b) (hg : ∀ i, i < a.heap.size → F i → G i) : Kept G a b :=
  ⟨h.os, h.tape, h.output, h.size, fun i hi hf => h.block i hi (fun hk => hf (hg i hi hk))⟩
theorem Kept.below {F : Nat → Prop} {a b : World} {n : Nat} (h : Kept F a b) (hn : n ≤ a.heap.size) (hf : ∀ i, F i → n ≤ i) : Below n a b :=
  ⟨h.os, h.tape, h.output, h.size, fun i hi => h.block i (Nat.lt_of_lt_of_le hi hn) (fun hk => by have := hf i hk; omega)⟩
theorem Below.kept {F : Nat → Prop} {a b : World} (h : Below a.heap.size a b) : Kept F a b := ⟨h.os, h.tape, h.output, h.size, fun i hi _ => h.block i hi⟩
theorem kept_grown {w w' : World} {o : Option Nat} (h : w.grownBy w' o) : Kept (fun i => o = some i) w w' :=
  ⟨h.os, h.tape, h.output, h.size, fun i hi hf => h.block i hi (fun e => hf e.symm)⟩
theorem kept_set (w : World) (b o : Nat) (v : Value) : Kept (fun i => i = b) w (w.setCell ⟨b, o, none⟩ v) :=
  ⟨((Below.refl 0 w).setCell (Nat.zero_le _) v).os, ((Below.refl 0 w).setCell (Nat.zero_le _) v).tape, ((Below.refl 0 w).setCell (Nat.zero_le _) v).output, ((Below.refl 0 w).setCell (Nat.zero_le _) v).size, fun i _ hf => RowKit.Below.heap_setCell w ⟨b, o, none⟩ v i hf⟩
theorem cell_same {w w' : World} {b o : Nat} {v : Value} (h : w.cell? ⟨b, o, none⟩ = some v) (e : w'.heap[b]? = w.heap[b]?) : w'.cell? ⟨b, o, none⟩ = some v := by
  unfold World.cell? at h ⊢
  dsimp only at h ⊢
  rw [e]
  exact h
def ptrN (o : Option Nat) : Value := .pointer (o.map fun b => ⟨b, 0, none⟩)
theorem ptrN_none : ptrN none = .pointer none := rfl
theorem ptrN_some (b : Nat) : ptrN (some b) = .pointer (some ⟨b, 0, none⟩) := rfl
/-- How a pointer in a map reads. -/
def ptrR : Value → Option (DataW (Option Addr) × List MemPlace)
  | .pointer a => some (.held a, [])
  | _ => none
theorem ptrR_inv {v : Value} {a : Option Addr} {ps : List MemPlace} (h : ptrR v = some (.held a, ps)) : v = .pointer a := by
  cases v <;> simp [ptrR] at h
  rw [h.1]
theorem lawP : Keyed Tryd.prog 9 := string_keyed Tryd.underlying9
theorem zeroN (w : World) : (zeroValue 64).run Tryd.prog w = .ok (.pointer none) w := by kernel_rfl
/-- Where the parts of a tree lie: nodes, their maps, what ends there. -/
structure Gt where
  nd : List Ky → Option Nat
  mp : List Ky → Option Nat
  en : List Ky → Option Nat
structure NodeAt (w : World) (b : Nat) (m p r e : Option Nat) : Prop where
  c0 : w.cell? ⟨b, 0, none⟩ = some (.map m)
  c1 : w.cell? ⟨b, 1, none⟩ = some (ptrN p)
  c2 : w.cell? ⟨b, 2, none⟩ = some (ptrN r)
  c3 : w.cell? ⟨b, 3, none⟩ = some (ptrN e)
  bk : ∃ cs T, w.heap[b]? = some (.cells cs T (0, 0))
theorem NodeAt.fz {w : World} {b : Nat} {m p r e : Option Nat} (h : NodeAt w b m p r e) (o : Nat) : w.frozen? ⟨b, o, none⟩ = false := by
  obtain ⟨cs, T, h⟩ := h.bk
  exact frozen_of_row w b o cs T h
theorem bk_set {w : World} {b o : Nat} {v : Value} (h : ∃ cs T, w.heap[b]? = some (.cells cs T (0, 0))) : ∃ cs T, (w.setCell ⟨b, o, none⟩ v).heap[b]? = some (.cells cs T (0, 0)) := by
  obtain ⟨cs, T, h⟩ := h
  exact ⟨_, T, heap_setCell_same w b o cs T v h⟩
theorem NodeAt.keep {w w' : World} {b : Nat} {m p r e : Option Nat} (h : NodeAt w b m p r e) (hk : w'.heap[b]? = w.heap[b]?) : NodeAt w' b m p r e :=
  ⟨cell_same h.c0 hk, cell_same h.c1 hk, cell_same h.c2 hk, cell_same h.c3 hk, by obtain ⟨cs, T, h9⟩ := h.bk; exact ⟨cs, T, hk.trans h9⟩⟩
theorem NodeAt.lt {w : World} {b : Nat} {m p r e : Option Nat} (h : NodeAt w b m p r e) : b < w.heap.size := lt_of_cell h.c0
def MapAt (w : World) (m M : Nat) (f : B → Option Nat) : Prop := ∃ n D, w.ownsMap Tryd.prog 9 ptrR m n D ∧ n ≤ M ∧ ∀ x, D.atKey (Lit.string x) (.held none) = .held ((f x).map fun b => ⟨b, 0, none⟩)
theorem MapAt.keep {w w' : World} {m M : Nat} {f : B → Option Nat} (h : MapAt w m M f) (hk : w'.heap[m]? = w.heap[m]?) : MapAt w' m M f := by
  obtain ⟨n, D, ⟨es, clock, h1, r⟩, h2⟩ := h
  exact ⟨n, D, ⟨es, clock, hk.trans h1, r⟩, h2⟩
theorem MapAt.lt {w : World} {m M : Nat} {f : B → Option Nat} (h : MapAt w m M f) : m < w.heap.size := by
  obtain ⟨n, D, h1, _⟩ := h
  exact World.ownsMap.lt h1
theorem MapAt.mono {w : World} {m M M' : Nat} {f : B → Option Nat} (h : MapAt w m M f) (hM : M ≤ M') : MapAt w m M' f := by
  obtain ⟨n, D, h1, h2, h3⟩ := h
  exact ⟨n, D, h1, Nat.le_trans h2 hM, h3⟩
theorem MapAt.nocell {w : World} {m M o : Nat} {f : B → Option Nat} {v : Value} (h : MapAt w m M f) (hc : w.cell? ⟨m, o, none⟩ = some v) : False := by
  obtain ⟨n, D, ⟨es, clock, h1, r⟩, h2⟩ := h
  unfold World.cell? at hc
  dsimp only at hc
  rw [h1] at hc
  simp at hc
theorem MapAt.made (w : World) (M : Nat) : MapAt (w.alloc (.map #[] 0)) w.heap.size M (fun _ => none) := ⟨0, .map [], World.ownsMap_made w Tryd.prog 9 _, Nat.zero_le _, fun _ => rfl⟩
theorem MapAt.put {w' : World} {m n M : Nat} {f : B → Option Nat} {D : DataW (Option Addr)} {x : B} {c : Nat} (hI : Maps.IsMap D) (hn : n ≤ M) (hf : ∀ x, D.atKey (Lit.string x) (.held none) = .held ((f x).map fun b => ⟨b, 0, none⟩)) (ho : w'.ownsMap Tryd.prog 9 ptrR m (n + 1) (D.put (Lit.string x) (.held (some ⟨c, 0, none⟩)))) : MapAt w' m (M + 1) (fun y => if y = x then some c else f y) := by
  refine ⟨n + 1, _, ho, Nat.succ_le_succ hn, fun y => ?_⟩
  by_cases h : y = x
  · subst h
    rw [Maps.atKey_put_same hI (by trivial)]
    show _ = DataW.held ((if y = y then some c else f y).map _)
    rw [if_pos rfl]
    rfl
  · rw [Maps.atKey_put_other (fun e => h (by injection e)), hf y]
    show _ = DataW.held ((if y = x then some c else f y).map _)
    rw [if_neg h]
/-- A tree of nodes, all within blocks F; M bounds the sizes of its maps. -/
structure TreeAt (w : World) (F : Nat → Prop) (G : Gt) (M : Nat) : Prop where
  node : ∀ k b, G.nd k = some b → F b ∧ NodeAt w b (G.mp k) (G.nd (k ++ [.par])) (G.nd (k ++ [.rest])) (G.en k)
  map : ∀ k m, G.mp k = some m → F m ∧ MapAt w m M (fun x => G.nd (k ++ [.plain x]))
  nomap : ∀ k x, G.mp k = none → G.nd (k ++ [.plain x]) = none
  own : ∀ k, G.nd k = none → G.mp k = none
  up : ∀ k x, G.nd k = none → G.nd (k ++ [x]) = none
  one : ∀ k k' b, G.nd k = some b → G.nd k' = some b → k = k'
  onem : ∀ k k' m, G.mp k = some m → G.mp k' = some m → k = k'
  ends : ∀ k, G.nd k = none → G.en k = none
theorem TreeAt.keep {w w' : World} {F : Nat → Prop} {G : Gt} {M : Nat} (h : TreeAt w F G M) (hk : ∀ b, F b → b < w.heap.size → w'.heap[b]? = w.heap[b]?) : TreeAt w' F G M :=
  ⟨fun k b e => ⟨(h.node k b e).1, (h.node k b e).2.keep (hk b (h.node k b e).1 (h.node k b e).2.lt)⟩, fun k m e => ⟨(h.map k m e).1, (h.map k m e).2.keep (hk m (h.map k m e).1 (h.map k m e).2.lt)⟩, h.nomap, h.own, h.up, h.one, h.onem, h.ends⟩
theorem TreeAt.next {w w' : World} {F : Nat → Prop} {G : Gt} {M : Nat} (h : TreeAt w F G M) (hb : Below w.heap.size w w') : TreeAt w' F G M := h.keep fun b _ hb' => hb.block b hb'
theorem TreeAt.wide {w : World} {F F' : Nat → Prop} {G : Gt} {M M' : Nat} (h : TreeAt w F G M) (hf : ∀ b, F b → F' b) (hM : M ≤ M') : TreeAt w F' G M' :=
  ⟨fun k b e => ⟨hf b (h.node k b e).1, (h.node k b e).2⟩, fun k m e => ⟨hf m (h.map k m e).1, (h.map k m e).2.mono hM⟩, h.nomap, h.own, h.up, h.one, h.onem, h.ends⟩
/-- Nothing stands behind what is not there. -/
theorem TreeAt.none_en {w : World} {F : Nat → Prop} {G : Gt} {M : Nat} (h : TreeAt w F G M) {k : List Ky} (hk : G.nd k = none) : ∀ q, G.en (k ++ q) = none := by
  have hn : ∀ (q k : List Ky), G.nd k = none → G.nd (k ++ q) = none := by
    intro q
    induction q with
    | nil => intro k hk; rw [List.append_nil]; exact hk
    | cons x q ih =>
      intro k hk
      have := ih (k ++ [x]) (h.up k x hk)
      rwa [List.append_assoc] at this
  exact fun q => h.ends _ (hn q k hk)
theorem TreeAt.node_map {w : World} {F : Nat → Prop} {G : Gt} {M : Nat} (h : TreeAt w F G M) {k k' : List Ky} {b : Nat} (h1 : G.nd k = some b) (h2 : G.mp k' = some b) : False := (h.map k' b h2).2.nocell (h.node k b h1).2.c0
/-- A function with one more place. -/
def updK (f : List Ky → Option Nat) (k : List Ky) (b : Nat) : List Ky → Option Nat := fun k' => if k' = k then some b else f k'
theorem updK_same (f : List Ky → Option Nat) (k : List Ky) (b : Nat) : updK f k b k = some b := if_pos rfl
theorem updK_other (f : List Ky → Option Nat) {k k' : List Ky} (b : Nat) (h : k' ≠ k) : updK f k b k' = f k' := if_neg h
theorem snoc_inj {k k' : List Ky} {x y : Ky} (h : k ++ [x] = k' ++ [y]) : k = k' ∧ x = y := by
  have h1 := List.append_inj' h rfl
  exact ⟨h1.1, by simpa using h1.2⟩
theorem cell_set_same {w : World} {b o : Nat} {u v : Value} (h : w.cell? ⟨b, o, none⟩ = some u) : (w.setCell ⟨b, o, none⟩ v).cell? ⟨b, o, none⟩ = some v := World.cell?_setCell_same _ _ _ h
theorem cell_set_off {w : World} {b o o' : Nat} {u v : Value} (h : w.cell? ⟨b, o', none⟩ = some u) (hne : o ≠ o') : (w.setCell ⟨b, o, none⟩ v).cell? ⟨b, o', none⟩ = some u := by
  rw [World.cell?_setCell_other _ _ _ _ (fun e => hne (by injection e))]
  exact h
/-- Something ends at a node. -/
theorem TreeAt.endAt {w : World} {F : Nat → Prop} {G : Gt} {M : Nat} (h : TreeAt w F G M) {k : List Ky} {b : Nat} (hk : G.nd k = some b) (e : Nat) : TreeAt (w.setCell ⟨b, 3, none⟩ (ptrN (some e))) F { G with en := updK G.en k e } M := by
  have hb := (h.node k b hk).2
  refine ⟨fun k' b' hk' => ?_, fun k' m hm => ?_, h.nomap, h.own, h.up, h.one, h.onem, fun k' hn => ?_⟩
  · refine ⟨(h.node k' b' hk').1, ?_⟩
    by_cases e1 : b' = b
    · subst e1
      have e2 := h.one k' k b' hk' hk
      subst e2
      show NodeAt _ b' _ _ _ (updK G.en k' e k')
      rw [updK_same]
      exact ⟨cell_set_off hb.c0 (by decide), cell_set_off hb.c1 (by decide), cell_set_off hb.c2 (by decide), cell_set_same hb.c3, bk_set hb.bk⟩
    · show NodeAt _ b' _ _ _ (updK G.en k e k')
      have e2 : k' ≠ k := fun e3 => e1 (by rw [e3, hk] at hk'; injection hk' with e4; exact e4.symm)
      rw [updK_other _ _ e2]
      exact (h.node k' b' hk').2.keep ((kept_set w b 3 _).block b' (h.node k' b' hk').2.lt e1)
  · refine ⟨(h.map k' m hm).1, (h.map k' m hm).2.keep ((kept_set w b 3 _).block m (h.map k' m hm).2.lt (fun e1 => ?_))⟩
    subst e1
    exact h.node_map hk hm
  · show updK G.en k e k' = none
    have hn' : G.nd k' = none := hn
    rw [updK_other _ _ (fun e3 => by rw [e3, hk] at hn'; cases hn')]
    exact h.ends k' hn
/-- The cells of a new node. -/
def nodeZ : Array Value := #[.map none, .pointer none, .pointer none, .pointer none]
theorem nodeZ_at (w : World) (T : TypeId) : NodeAt (w.alloc (.cells nodeZ T (0, 0))) w.heap.size none none none none := by
  have h := cells_new w [.map none, .pointer none, .pointer none, .pointer none] T
  have h0 := h 0 _ rfl; have h1 := h 1 _ rfl; have h2 := h 2 _ rfl; have h3 := h 3 _ rfl
  rw [add_off] at h0 h1 h2 h3
  exact ⟨h0, h1, h2, h3, _, _, heap_alloc_new w _⟩
/-- One more node: what is asked of the world behind it. -/
theorem TreeAt.more {w w2 : World} {F : Nat → Prop} {G : Gt} {M : Nat} (h : TreeAt w F G M) {k : List Ky} {y : Ky} {b c : Nat} (hk : G.nd k = some b) (hc : w.heap.size ≤ c) (hno : G.nd (k ++ [y]) = none)
    (hz : NodeAt w2 c none none none none)
    (hn : NodeAt w2 b (G.mp k) (updK G.nd (k ++ [y]) c (k ++ [.par])) (updK G.nd (k ++ [y]) c (k ++ [.rest])) (G.en k))
    (hm : ∀ m, G.mp k = some m → MapAt w2 m (M + 1) (fun x => updK G.nd (k ++ [y]) c (k ++ [.plain x])))
    (hy : ∀ x, y = .plain x → G.mp k ≠ none)
    (hs : ∀ i, F i → i < w.heap.size → i ≠ b → G.mp k ≠ some i → w2.heap[i]? = w.heap[i]?) : TreeAt w2 (fun i => F i ∨ i = c) { G with nd := updK G.nd (k ++ [y]) c } (M + 1) := by
  have hlt : ∀ k' b', G.nd k' = some b' → b' < c := fun k' b' e => Nat.lt_of_lt_of_le (h.node k' b' e).2.lt hc
  have hother : ∀ k' x, k' ≠ k → G.nd k' ≠ none → updK G.nd (k ++ [y]) c (k' ++ [x]) = G.nd (k' ++ [x]) := fun k' x hne _ => updK_other _ _ (fun e => hne (snoc_inj e).1)
  have hchild : ∀ x, updK G.nd (k ++ [y]) c ((k ++ [y]) ++ [x]) = none := fun x => by
    rw [updK_other _ _ (fun e => by simpa using congrArg List.length e)]
    exact h.up _ _ hno
  refine ⟨fun k' b' hk' => ?_, fun k' m hm' => ?_, fun k' x hm' => ?_, fun k' hn' => ?_, fun k' x hn' => ?_, fun k1 k2 b' h1 h2 => ?_, h.onem, fun k' hn' => ?_⟩
  · by_cases e1 : k' = k ++ [y]
    · subst e1
      have hk2 : updK G.nd (k ++ [y]) c (k ++ [y]) = some b' := hk'
      rw [updK_same] at hk2
      injection hk2 with hk2
      subst hk2
      refine ⟨.inr rfl, ?_⟩
      show NodeAt w2 c (G.mp (k ++ [y])) (updK G.nd (k ++ [y]) c ((k ++ [y]) ++ [.par])) (updK G.nd (k ++ [y]) c ((k ++ [y]) ++ [.rest])) (G.en (k ++ [y]))
      rw [hchild, hchild, h.own _ hno, h.ends _ hno]
      exact hz
    · have hk2 : updK G.nd (k ++ [y]) c k' = some b' := hk'
      rw [updK_other _ _ e1] at hk2
      refine ⟨.inl (h.node k' b' hk2).1, ?_⟩
      show NodeAt w2 b' (G.mp k') (updK G.nd (k ++ [y]) c (k' ++ [.par])) (updK G.nd (k ++ [y]) c (k' ++ [.rest])) (G.en k')
      by_cases e2 : k' = k
      · subst e2
        rw [hk] at hk2
        injection hk2 with hk2
        subst hk2
        exact hn
      · rw [hother k' _ e2 (by rw [hk2]; simp), hother k' _ e2 (by rw [hk2]; simp)]
        refine (h.node k' b' hk2).2.keep (hs b' (h.node k' b' hk2).1 (h.node k' b' hk2).2.lt (fun e3 => e2 ?_) (fun e3 => h.node_map hk2 e3))
        rw [e3] at hk2
        exact h.one k' k b hk2 hk
  · have hm2 : G.mp k' = some m := hm'
    by_cases e2 : k' = k
    · subst e2
      exact ⟨.inl (h.map k' m hm2).1, hm m hm2⟩
    · refine ⟨.inl (h.map k' m hm2).1, ?_⟩
      have hk3 : G.nd k' ≠ none := fun e => by rw [h.own k' e] at hm2; cases hm2
      have e4 : (fun x => updK G.nd (k ++ [y]) c (k' ++ [.plain x])) = fun x => G.nd (k' ++ [.plain x]) := funext fun x => hother k' _ e2 hk3
      show MapAt w2 m (M + 1) (fun x => updK G.nd (k ++ [y]) c (k' ++ [.plain x]))
      rw [e4]
      refine ((h.map k' m hm2).2.keep (hs m (h.map k' m hm2).1 (h.map k' m hm2).2.lt (fun e5 => ?_) (fun e5 => e2 (h.onem k' k m hm2 e5)))).mono (Nat.le_succ _)
      subst e5
      exact h.node_map hk hm2
  · have hm2 : G.mp k' = none := hm'
    show updK G.nd (k ++ [y]) c (k' ++ [.plain x]) = none
    rw [updK_other _ _ (fun e => by
      obtain ⟨e1, e2⟩ := snoc_inj e
      subst e1
      exact hy x e2.symm hm2)]
    exact h.nomap k' x hm2
  · have hn2 : updK G.nd (k ++ [y]) c k' = none := hn'
    by_cases e1 : k' = k ++ [y]
    · rw [e1, updK_same] at hn2; cases hn2
    · rw [updK_other _ _ e1] at hn2
      exact h.own k' hn2
  · have hn2 : updK G.nd (k ++ [y]) c k' = none := hn'
    show updK G.nd (k ++ [y]) c (k' ++ [x]) = none
    by_cases e1 : k' = k ++ [y]
    · rw [e1, updK_same] at hn2; cases hn2
    · rw [updK_other _ _ e1] at hn2
      rw [updK_other _ _ (fun e => by rw [(snoc_inj e).1, hk] at hn2; cases hn2)]
      exact h.up k' x hn2
  · have h1' : updK G.nd (k ++ [y]) c k1 = some b' := h1
    have h2' : updK G.nd (k ++ [y]) c k2 = some b' := h2
    by_cases e1 : k1 = k ++ [y]
    · by_cases e2 : k2 = k ++ [y]
      · rw [e1, e2]
      · rw [e1, updK_same] at h1'
        rw [updK_other _ _ e2] at h2'
        injection h1' with h1'
        have := hlt k2 b' h2'
        omega
    · rw [updK_other _ _ e1] at h1'
      by_cases e2 : k2 = k ++ [y]
      · rw [e2, updK_same] at h2'
        injection h2' with h2'
        have := hlt k1 b' h1'
        omega
      · rw [updK_other _ _ e2] at h2'
        exact h.one k1 k2 b' h1' h2'
  · have hn2 : updK G.nd (k ++ [y]) c k' = none := hn'
    by_cases e1 : k' = k ++ [y]
    · rw [e1, updK_same] at hn2; cases hn2
    · rw [updK_other _ _ e1] at hn2
      exact h.ends k' hn2
end Go.Proofs.YtdjjkcpnjocafaaDoor
