/- Two tables and a row of numbers side by side. -/
import Derived.Test.YtkjgdfihhhdjaaaDoorSOrdF
namespace Go.Proofs.YtkjgdfihhhdjaaaDoor
open Go.RowKit Go.Maps

/-- A table whose blocks lie within X. -/
def TabX (w : World) (X : Nat → Prop) (t : Nat) (P : List (B × Int)) : Prop := ∃ m v1 v2 L, Tab w t P m v1 v2 L ∧ ∀ i, Ft t m v1 v2 i → X i
theorem TabX.keep {w w' : World} {X : Nat → Prop} {t : Nat} {P : List (B × Int)} (h : TabX w X t P) (hk : ∀ i, X i → i < w.heap.size → w'.heap[i]? = w.heap[i]?) : TabX w' X t P := by
  obtain ⟨m, v1, v2, L, h1, h2⟩ := h
  exact ⟨m, v1, v2, L, h1.keep (fun i hi hl => hk i (h2 i hi) hl), h2⟩
theorem addX_any {w : World} {X : Nat → Prop} {t : Nat} {P : List (B × Int)} (h : TabX w X t P) (hmx : MxAt w) (p : B) (hp : p.length ≤ 9223372036854775807) (id : Int) (hw : (Lit.int .i64 id).wf = true) :
    Calls Tryd.prog 22 #[.pointer (some ⟨t, 0, none⟩), .string (str p), .int .i64 id] w fun e w' => e = .returned (errOf (addE P p)) ∧ TabX w' (fun i => X i ∨ (w.heap.size ≤ i ∧ i < w'.heap.size)) t (addP P p id) ∧ Kept X w w' := by
  obtain ⟨m, v1, v2, L, h1, h2⟩ := h
  refine (add_any h1 hmx p hp id hw).mono ?_
  rintro e w' ⟨he, m', v1', v2', L', k1, k2⟩
  exact ⟨he, ⟨m', v1', v2', L', k1, fun i hi => (k2.fp i hi).elim (fun h => .inl (h2 i h)) (fun e1 => .inr ⟨e1, k1.tab.lt hi⟩)⟩, k2.kept.mono (fun i _ h => h2 i h)⟩
abbrev OwnN := OwnR 3 1 (fun x : Int => [.int .i64 x])
theorem infoN : (Tryd.prog.info? 3).map (fun i => (i.zero, i.size, i.bytes)) = some (some (.int .i64 0), 1, 8) := by kernel_rfl
/-- Two tables and a row of numbers, all made since w0. -/
def OrdH (w0 w : World) (ta tb : Nat) (Pa Pb : List (B × Int)) (ids : List Int) (vin : Value) : Prop :=
  ∃ Xa Xb : Nat → Prop, TabX w Xa ta Pa ∧ TabX w Xb tb Pb ∧ OwnN w w0.heap.size vin ids ∧ (∀ i, Xa i → w0.heap.size ≤ i ∧ i < w.heap.size ∧ ¬ Xb i ∧ vin.ownBlock ≠ some i) ∧ (∀ i, Xb i → w0.heap.size ≤ i ∧ i < w.heap.size ∧ vin.ownBlock ≠ some i) ∧ Below w0.heap.size w0 w
section
variable {w0 w w' : World} {ta tb : Nat} {Pa Pb : List (B × Int)} {ids : List Int} {vin : Value}
theorem OrdH.low (h : OrdH w0 w ta tb Pa Pb ids vin) : Below w0.heap.size w0 w := by
  obtain ⟨_, _, _, _, _, _, _, h⟩ := h
  exact h
theorem OrdH.row (h : OrdH w0 w ta tb Pa Pb ids vin) : OwnN w w0.heap.size vin ids := by
  obtain ⟨_, _, _, _, h, _⟩ := h
  exact h
theorem OrdH.tA (h : OrdH w0 w ta tb Pa Pb ids vin) : ∃ m v1 v2 L, Tab w ta Pa m v1 v2 L := by
  obtain ⟨_, _, ⟨m, v1, v2, L, h, _⟩, _⟩ := h
  exact ⟨m, v1, v2, L, h⟩
theorem OrdH.tB (h : OrdH w0 w ta tb Pa Pb ids vin) : ∃ m v1 v2 L, Tab w tb Pb m v1 v2 L := by
  obtain ⟨_, _, _, ⟨m, v1, v2, L, h, _⟩, _⟩ := h
  exact ⟨m, v1, v2, L, h⟩
theorem OrdH.next (h : OrdH w0 w ta tb Pa Pb ids vin) (hb : Below w.heap.size w w') : OrdH w0 w' ta tb Pa Pb ids vin := by
  obtain ⟨Xa, Xb, h1, h2, h3, h4, h5, h6⟩ := h
  exact ⟨Xa, Xb, h1.keep (fun i _ hl => hb.block i hl), h2.keep (fun i _ hl => hb.block i hl), h3.keep hb, fun i hi => ⟨(h4 i hi).1, Nat.lt_of_lt_of_le (h4 i hi).2.1 hb.size, (h4 i hi).2.2⟩, fun i hi => ⟨(h5 i hi).1, Nat.lt_of_lt_of_le (h5 i hi).2.1 hb.size, (h5 i hi).2.2⟩, below_out h6 hb⟩
theorem OrdH.addA (h : OrdH w0 w ta tb Pa Pb ids vin) (hmx : MxAt w0) (p : B) (hp : p.length ≤ 9223372036854775807) (id : Int) (hw : (Lit.int .i64 id).wf = true) :
    Calls Tryd.prog 22 #[.pointer (some ⟨ta, 0, none⟩), .string (str p), .int .i64 id] w fun e w' => e = .returned (errOf (addE Pa p)) ∧ OrdH w0 w' ta tb (addP Pa p id) Pb ids vin := by
  obtain ⟨Xa, Xb, h1, h2, h3, h4, h5, h6⟩ := h
  refine (addX_any h1 (hmx.next h6) p hp id hw).mono ?_
  rintro e w' ⟨he, k1, k2⟩
  refine ⟨he, _, Xb, k1, h2.keep (fun i hi hl => k2.block i hl (fun ha => (h4 i ha).2.2.1 hi)), h3.keepB (fun g e1 => k2.block g (h3.lt e1) (fun ha => (h4 g ha).2.2.2 e1)), fun i hi => ?_, fun i hi => ⟨(h5 i hi).1, Nat.lt_of_lt_of_le (h5 i hi).2.1 k2.size, (h5 i hi).2.2⟩, h6.trans (k2.below h6.size (fun i hi => (h4 i hi).1))⟩
  rcases hi with hi | ⟨hi1, hi2⟩
  · exact ⟨(h4 i hi).1, Nat.lt_of_lt_of_le (h4 i hi).2.1 k2.size, (h4 i hi).2.2⟩
  · exact ⟨Nat.le_trans h6.size hi1, hi2, fun hb => by have := (h5 i hb).2.1; omega, fun e1 => by have := h3.lt e1; omega⟩
theorem OrdH.addB (h : OrdH w0 w ta tb Pa Pb ids vin) (hmx : MxAt w0) (p : B) (hp : p.length ≤ 9223372036854775807) (id : Int) (hw : (Lit.int .i64 id).wf = true) :
    Calls Tryd.prog 22 #[.pointer (some ⟨tb, 0, none⟩), .string (str p), .int .i64 id] w fun e w' => e = .returned (errOf (addE Pb p)) ∧ OrdH w0 w' ta tb Pa (addP Pb p id) ids vin := by
  obtain ⟨Xa, Xb, h1, h2, h3, h4, h5, h6⟩ := h
  refine (addX_any h2 (hmx.next h6) p hp id hw).mono ?_
  rintro e w' ⟨he, k1, k2⟩
  refine ⟨he, Xa, _, h1.keep (fun i hi hl => k2.block i hl (fun hb => (h4 i hi).2.2.1 hb)), k1, h3.keepB (fun g e1 => k2.block g (h3.lt e1) (fun hb => (h5 g hb).2.2 e1)), fun i hi => ⟨(h4 i hi).1, Nat.lt_of_lt_of_le (h4 i hi).2.1 k2.size, fun hb => ?_, (h4 i hi).2.2.2⟩, fun i hi => ?_, h6.trans (k2.below h6.size (fun i hi => (h5 i hi).1))⟩
  · rcases hb with hb | ⟨hb, _⟩
    · exact (h4 i hi).2.2.1 hb
    · have := (h4 i hi).2.1
      omega
  · rcases hi with hi | ⟨hi1, hi2⟩
    · exact ⟨(h5 i hi).1, Nat.lt_of_lt_of_le (h5 i hi).2.1 k2.size, (h5 i hi).2.2⟩
    · exact ⟨Nat.le_trans h6.size hi1, hi2, fun e1 => by have := h3.lt e1; omega⟩
theorem OrdH.app {o : Obj} {w2 : World} {ids' : List Int} {vin' : Value} (h : OrdH w0 w ta tb Pa Pb ids vin) (hg : (w.alloc o).grownBy w2 vin.ownBlock) (ho : OwnN w2 w0.heap.size vin' ids') (hv : vin'.ownBlock = vin.ownBlock ∨ vin'.ownBlock = some (w.alloc o).heap.size) : OrdH w0 w2 ta tb Pa Pb ids' vin' := by
  obtain ⟨Xa, Xb, h1, h2, h3, h4, h5, h6⟩ := h
  have hk : ∀ i, i < w.heap.size → vin.ownBlock ≠ some i → w2.heap[i]? = w.heap[i]? := fun i hi hne => (hg.block i (by simp; omega) (fun e => hne e.symm)).trans ((below_new w o).block i hi)
  have hs : w.heap.size ≤ w2.heap.size := by have := hg.size; simp at this; omega
  have hvn : ∀ i, i < w.heap.size → vin.ownBlock ≠ some i → vin'.ownBlock ≠ some i := fun i hi hne e => by
    rcases hv with h9 | h9
    · exact hne (by rw [← h9]; exact e)
    · rw [h9] at e
      injection e with e
      simp at e
      omega
  refine ⟨Xa, Xb, h1.keep (fun i hi hl => hk i hl (h4 i hi).2.2.2), h2.keep (fun i hi hl => hk i hl (h5 i hi).2.2), ho, fun i hi => ⟨(h4 i hi).1, by have := (h4 i hi).2.1; omega, (h4 i hi).2.2.1, hvn i (h4 i hi).2.1 (h4 i hi).2.2.2⟩, fun i hi => ⟨(h5 i hi).1, by have := (h5 i hi).2.1; omega, hvn i (h5 i hi).2.1 (h5 i hi).2.2⟩, ?_⟩
  have hz := h6.size
  exact (h6.trans ((below_new w o).mono hz)).trans ((h3.alloc o).below (by simp; omega) hg)
theorem OrdH.findA (h : OrdH w0 w ta tb Pa Pb ids vin) (hmx : MxAt w0) (host : B) (hh : host.length ≤ 9223372036854775807) :
    Calls Tryd.prog 25 #[.pointer (some ⟨ta, 0, none⟩), .string (str host)] w fun e w' => e = .returned (.tuple #[.int .i64 (findN Pa host).1, errOf (findN Pa host).2]) ∧ OrdH w0 w' ta tb Pa Pb ids vin := by
  obtain ⟨m, v1, v2, L, h1⟩ := h.tA
  refine (find_num h1 (hmx.next h.low) host hh).mono ?_
  rintro e w' ⟨rfl, hb⟩
  exact ⟨rfl, h.next hb⟩
theorem OrdH.findB (h : OrdH w0 w ta tb Pa Pb ids vin) (hmx : MxAt w0) (host : B) (hh : host.length ≤ 9223372036854775807) :
    Calls Tryd.prog 25 #[.pointer (some ⟨tb, 0, none⟩), .string (str host)] w fun e w' => e = .returned (.tuple #[.int .i64 (findN Pb host).1, errOf (findN Pb host).2]) ∧ OrdH w0 w' ta tb Pa Pb ids vin := by
  obtain ⟨m, v1, v2, L, h1⟩ := h.tB
  refine (find_num h1 (hmx.next h.low) host hh).mono ?_
  rintro e w' ⟨rfl, hb⟩
  exact ⟨rfl, h.next hb⟩
theorem OrdH.apart (h : OrdH w0 w ta tb Pa Pb ids vin) : ∀ p ∈ Pa, ∀ q ∈ Pa, patL p.1 = patL q.1 → p = q := by
  obtain ⟨m, v1, v2, L, h1⟩ := h.tA
  exact fun p hp q hq e => h1.apart hp hq e
end
theorem OrdH.start {w0 w1 w2 : World} (h1 : Tab w1 w0.heap.size [] none (.slice none 0 0) (.slice none 0 0) []) (hb1 : Below w0.heap.size w0 w1) (h2 : Tab w2 w1.heap.size [] none (.slice none 0 0) (.slice none 0 0) []) (hb2 : Below w1.heap.size w1 w2) : OrdH w0 w2 w0.heap.size w1.heap.size [] [] [] (.slice none 0 0) := by
  have hlt := lt_of_heap h1.tab.bx
  have hlt2 := lt_of_heap h2.tab.bx
  refine ⟨fun i => i = w0.heap.size, fun i => i = w1.heap.size, ⟨_, _, _, _, h1.next hb2, fun i hi => ft_new hi⟩, ⟨_, _, _, _, h2, fun i hi => ft_new hi⟩, OwnR.nil _ _, fun i hi => ?_, fun i hi => ?_, below_out hb1 hb2⟩
  · subst hi
    exact ⟨Nat.le_refl _, Nat.lt_of_lt_of_le hlt hb2.size, by omega, by simp [Value.ownBlock]⟩
  · subst hi
    exact ⟨hb1.size, hlt2, by simp [Value.ownBlock]⟩
/-- A number of the row. -/
theorem OwnN.num {w : World} {b n c j : Nat} {p : Option Addr} {l : List Int} {x : Int} (h : OwnN w b (.slice p n c) l) (hj : l[j]? = some x) : ∃ g, p = some ⟨g, 0, none⟩ ∧ w.cell? ⟨g, j, none⟩ = some (.int .i64 x) := by
  obtain ⟨g, e, hc⟩ := OwnR.at (sz := 1) (f := fun x : Int => [Value.int .i64 x]) (fun _ => rfl) h hj
  refine ⟨g, e, ?_⟩
  have := hc 0 _ rfl
  rwa [Nat.one_mul, Nat.add_zero] at this
def idsTo (ps : List B) (i : Nat) : List Int := (List.range i).map fun j => (fstN (lowAt ps) j : Int)
theorem ids_at {ps : List B} {i j : Nat} (h : j < i) : (idsTo ps i)[j]? = some (fstN (lowAt ps) j : Int) := by
  unfold idsTo
  rw [List.getElem?_map, List.getElem?_range h]
  rfl
theorem ids_snoc2 (ps : List B) (i : Nat) : idsTo ps (i + 1) = idsTo ps i ++ [(fstN (lowAt ps) i : Int)] := by
  unfold idsTo
  rw [List.range_succ, List.map_append]
  rfl
theorem ids_len (ps : List B) (i : Nat) : (idsTo ps i).length = i := by unfold idsTo; simp
end Go.Proofs.YtkjgdfihhhdjaaaDoor
