/- Tables of patterns: what they keep, which error Add tells, what is found; plain, and in memory. -/
import Derived.Test.YtkjgdfihhhdjaaaDoorSKeep
namespace Go.Proofs.YtkjgdfihhhdjaaaDoor
open Go.RowKit Go.Maps

theorem small_small (c : UInt8) : smallU (smallU c) = smallU c := by
  apply UInt8.toNat_inj.1
  have h1 := smallU_val (smallU c)
  have h2 := smallU_val c
  rw [h2] at h1
  have h3 := c.toNat_lt
  have : ((smallU (smallU c)).toNat : Int) = ((smallU c).toNat : Int) := by
    rw [h1, h2]
    unfold smallV
    by_cases h : 65 ≤ (c.toNat : Int) ∧ (c.toNat : Int) ≤ 90
    · rw [if_pos h, if_neg (by omega)]
    · rw [if_neg h, if_neg h]
  omega
theorem low_low (s : B) : lowH (lowH s) = lowH s := by
  unfold lowH
  rw [List.map_map]
  apply List.map_congr_left
  intro c _
  exact small_small c
theorem labs_low (wild : Bool) (s : B) : labsH wild (lowH s) = labsH wild s := by
  rw [labsH_low, labsH_low, low_len, low_low]
theorem pat_low (p : B) : patH (lowH p) = patH p := by
  unfold patH
  by_cases h : p = []
  · subst h; rfl
  · rw [if_neg h, if_neg (fun e => h (by have := congrArg List.length e; rw [low_len] at this; exact List.eq_nil_of_length_eq_zero this)), labs_low]
theorem pat_join {p : B} {x : List B} (h : patH p = some x) : joinH x = lowH p := by
  rcases patH_some h with ⟨rfl, rfl⟩ | ⟨_, h1, _⟩
  · rfl
  · rw [(labs_cut h1).1]
    exact cutH_join _
theorem patL_some {p : B} {x : List B} (h : patH p = some x) : patL p = x := by unfold patL; rw [h]; rfl
theorem pat_inj {p q : B} {x : List B} (hp : patH p = some x) (hq : patH q = some x) : lowH p = lowH q := by rw [← pat_join hp, ← pat_join hq]
theorem key_len {p : B} {x : List B} (h : patH p = some x) : (keyS x).1.length ≤ 254 ∧ (keyS x).2.length ≤ 100000 := by
  have hl := pat_len h
  refine ⟨by show (shapeS x).length ≤ 254; rw [shape_len]; exact hl, ?_⟩
  show (joinH (pickS x.reverse (shapeS x))).length ≤ 100000
  have hm : ∀ y ∈ pickS x.reverse (shapeS x), y.length ≤ 253 := by
    intro y hy
    have hy2 := List.mem_reverse.1 (pick_mem hy)
    rcases patH_some h with ⟨_, rfl⟩ | ⟨_, h1, _⟩
    · simp at hy2
    · exact labs_mem_len h1 y hy2
  have h1 := joinH_len hm
  have h2 := pick_len x.reverse (shapeS x) (by rw [List.length_reverse, shape_len])
  have h3 : (shapeS x).countP (· == 48) ≤ (shapeS x).length := List.countP_le_length
  rw [shape_len] at h3
  rw [h2] at h1
  have : (253 + 1) * (shapeS x).countP (· == 48) ≤ 254 * 254 := Nat.mul_le_mul_left 254 (by omega)
  omega
/-- A table with these patterns and numbers. -/
structure Tab (w : World) (t : Nat) (P : List (B × Int)) (m : Option Nat) (v1 v2 : Value) (L : List B) : Prop where
  tab : Tab0 w t P P (P.map (·.1)) m v1 v2 L
  fine : ∀ p ∈ P, (∃ x, patH p.1 = some x) ∧ lowH p.1 = p.1
  nd : ∀ p ∈ P, ∀ q ∈ P, p.1 = q.1 → p = q
  len : P.length ≤ 64
section
variable {w w' : World} {t : Nat} {P : List (B × Int)} {m : Option Nat} {v1 v2 : Value} {L : List B}
theorem Tab.next (h : Tab w t P m v1 v2 L) (hb : Below w.heap.size w w') : Tab w' t P m v1 v2 L := ⟨h.tab.next hb, h.fine, h.nd, h.len⟩
theorem Tab.keep (h : Tab w t P m v1 v2 L) (hk : ∀ i, Ft t m v1 v2 i → i < w.heap.size → w'.heap[i]? = w.heap[i]?) : Tab w' t P m v1 v2 L := ⟨h.tab.keep hk, h.fine, h.nd, h.len⟩
theorem Tab.apart (h : Tab w t P m v1 v2 L) {p q : B × Int} (hp : p ∈ P) (hq : q ∈ P) (e : patL p.1 = patL q.1) : p = q := by
  obtain ⟨⟨x, hx⟩, h1⟩ := h.fine p hp
  obtain ⟨⟨y, hy⟩, h2⟩ := h.fine q hq
  rw [patL_some hx, patL_some hy] at e
  subst e
  refine h.nd p hp q hq ?_
  rw [← h1, ← h2]
  exact pat_inj hx hy
theorem Tab.dot (h : Tab w t P m v1 v2 L) {p : B × Int} (hp : p ∈ P) : noDot (patL p.1) := by
  obtain ⟨⟨x, hx⟩, _⟩ := h.fine p hp
  rw [patL_some hx]
  exact pat_nodot hx
theorem ids_some {P : List (B × Int)} {k : B × B} {i : Int} (h : idsF P k = some i) : ∃ p ∈ P, keyS (patL p.1) = k ∧ p.2 = i := by
  unfold idsF at h
  obtain ⟨p, hp, rfl⟩ := Option.map_eq_some_iff.1 h
  have h2 := List.find?_some hp
  simp only [decide_eq_true_eq] at h2
  exact ⟨p, List.mem_of_find?_eq_some hp, h2, rfl⟩
theorem Tab.ids (h : Tab w t P m v1 v2 L) (k : B × B) (i : Int) : idsF P k = some i ↔ ∃ p ∈ P, keyS (patL p.1) = k ∧ p.2 = i := by
  constructor
  · exact ids_some
  · rintro ⟨p, hp, hk, hi⟩
    cases hf : idsF P k with
    | none =>
      unfold idsF at hf
      rw [Option.map_eq_none_iff, List.find?_eq_none] at hf
      exact absurd (decide_eq_true hk) (hf p hp)
    | some j =>
      obtain ⟨q, hq, hk2, hj⟩ := ids_some hf
      have := h.apart hq hp (key_inj (h.dot hq) (h.dot hp) (hk2.trans hk.symm))
      subst this
      rw [← hj, hi]
end
def addE (P : List (B × Int)) (p : B) : Nat := if (patH p).isNone then 3 else if P.any (fun q => decide (q.1 = lowH p)) then 6 else if 64 ≤ P.length then 9 else 0
def addP (P : List (B × Int)) (p : B) (id : Int) : List (B × Int) := if addE P p = 0 then P ++ [(lowH p, id)] else P
theorem any_ids {w : World} {t : Nat} {P : List (B × Int)} {m : Option Nat} {v1 v2 : Value} {L : List B} (h : Tab w t P m v1 v2 L) {p : B} {x : List B} (hx : patH p = some x) : P.any (fun q => decide (q.1 = lowH p)) = (idsF P (keyS x)).isSome := by
  rw [Bool.eq_iff_iff, List.any_eq_true, Option.isSome_iff_exists]
  constructor
  · rintro ⟨q, hq, e⟩
    have e := of_decide_eq_true e
    refine ⟨q.2, (h.ids _ _).2 ⟨q, hq, ?_, rfl⟩⟩
    rw [e, show patL (lowH p) = x from patL_some (by rw [pat_low]; exact hx)]
  · rintro ⟨i, hi⟩
    obtain ⟨q, hq, hk, _⟩ := ids_some hi
    refine ⟨q, hq, decide_eq_true ?_⟩
    obtain ⟨⟨y, hy⟩, h1⟩ := h.fine q hq
    rw [patL_some hy] at hk
    have := key_inj (pat_nodot hy) (pat_nodot hx) hk
    subst this
    rw [← h1]
    exact pat_inj hy hx
/-- One more. -/
theorem Tab.more {w w' : World} {t : Nat} {P : List (B × Int)} {m m' : Option Nat} {v1 v2 v1' v2' : Value} {L L' : List B} {p : B} {id : Int} {x : List B} (h : Tab w t P m v1 v2 L) (hx : patH p = some x) (hno : idsF P (keyS x) = none) (hl : P.length < 64) (hT : Tab0 w' t (P ++ [(lowH p, id)]) (P ++ [(lowH p, id)]) (P.map (·.1) ++ [lowH p]) m' v1' v2' L') : Tab w' t (P ++ [(lowH p, id)]) m' v1' v2' L' := by
  have hn : ∀ q ∈ P, q.1 ≠ lowH p := by
    intro q hq e
    have h1 := any_ids h hx
    rw [hno] at h1
    have h2 : P.any (fun q => decide (q.1 = lowH p)) = true := List.any_eq_true.2 ⟨q, hq, decide_eq_true e⟩
    rw [h2] at h1
    cases h1
  refine ⟨by rw [List.map_append]; exact hT, fun q hq => ?_, fun q hq r hr e => ?_, by rw [List.length_append]; simp; omega⟩
  · rcases List.mem_append.1 hq with hq | hq
    · exact h.fine q hq
    · simp at hq
      subst hq
      exact ⟨⟨x, by rw [pat_low]; exact hx⟩, low_low p⟩
  · rcases List.mem_append.1 hq with hq | hq <;> rcases List.mem_append.1 hr with hr | hr
    · exact h.nd q hq r hr e
    · simp at hr
      subst hr
      exact absurd e (hn q hq)
    · simp at hq
      subst hq
      exact absurd e.symm (hn r hr)
    · simp at hq hr
      rw [hq, hr]
/-- What a table finds. -/
def findP (P : List (B × Int)) (y : List B) (o : Option Int) : Prop := match o with
  | none => ∀ p ∈ P, fitsS (patL p.1) y = false
  | some i => ∃ p ∈ P, p.2 = i ∧ fitsS (patL p.1) y = true ∧ ∀ q ∈ P, fitsS (patL q.1) y = true → q = p ∨ aheadP (patL p.1) (patL q.1) = true
theorem Tab.found {w : World} {t : Nat} {P : List (B × Int)} {m : Option Nat} {v1 v2 : Value} {L : List B} (h : Tab w t P m v1 v2 L) {y : List B} (hy : noDot y) : findP P y (findO (idsF P) y L) := by
  have hs : ∀ p ∈ P, shapeS (patL p.1) ∈ L := fun p hp => (h.tab.mem _).2 ⟨p, hp, rfl⟩
  rcases find_spec (ids := idsF P) (h := y) (P := P) (lab := fun p => patL p.1) (num := fun p => p.2) hy (fun p hp => h.dot hp) (fun p hp q hq e => h.apart hp hq e) h.ids h.tab.srt with ⟨h1, h2⟩ | ⟨p, hp, h1, h2, h3⟩
  · rw [h1]
    exact fun p hp => h2 p hp (hs p hp)
  · rw [h1]
    exact ⟨p, hp, rfl, h2, fun q hq hf => h3 q hq (hs q hq) hf⟩
end Go.Proofs.YtkjgdfihhhdjaaaDoor
