/- Lines and places in a list of bytes: plain lists and numbers. -/
import Derived.Laws.CopyOwn
namespace Go.Proofs.Ytfiiiefhchbhlaa

/-- What Line finds from place i on: its error (0: none), and where. -/
def scan (most : Int) : Nat → List Int → Int × Nat
  | i, [] => (8, i)
  | i, c :: t => if c = 13 then (match t with | [] => (8, i) | d :: _ => if d = 10 then (0, i) else (3, i)) else if c = 10 then (3, i) else if most ≤ i then (2, i) else scan most (i + 1) t
def lineC (q : List Int) (most : Int) : Int := if most < 0 then 1 else (scan most 0 q).1
def lineL (q : List Int) (most : Int) : List Int := if lineC q most = 0 then q.take (scan most 0 q).2 else []
def lineR (q : List Int) (most : Int) : List Int := if lineC q most = 0 then q.drop ((scan most 0 q).2 + 2) else q

theorem scan_end (most : Int) (q : List Int) (i : Nat) (h : q.length ≤ i) : scan most i (q.drop i) = (8, i) := by
  rw [List.drop_eq_nil_of_le h]; rfl
theorem drop_at (q : List Int) (i : Nat) (h : i < q.length) : q.drop i = q.getD i 0 :: q.drop (i + 1) := by
  rw [List.drop_eq_getElem_cons h]
  simp [List.getD, List.getElem?_eq_getElem h]
theorem scan_last (most : Int) (q : List Int) (i : Nat) (h : i < q.length) (h13 : q.getD i 0 = 13) (he : q.length = i + 1) : scan most i (q.drop i) = (8, i) := by
  rw [drop_at q i h, h13, List.drop_eq_nil_of_le (by omega)]; rfl
theorem scan_line (most : Int) (q : List Int) (i : Nat) (h : i + 1 < q.length) (h13 : q.getD i 0 = 13) (h10 : q.getD (i + 1) 0 = 10) : scan most i (q.drop i) = (0, i) := by
  rw [drop_at q i (by omega), h13, drop_at q (i + 1) h, h10]; rfl
theorem scan_bare (most : Int) (q : List Int) (i : Nat) (h : i + 1 < q.length) (h13 : q.getD i 0 = 13) (h10 : q.getD (i + 1) 0 ≠ 10) : scan most i (q.drop i) = (3, i) := by
  rw [drop_at q i (by omega), h13, drop_at q (i + 1) h]
  simp only [scan, if_true]
  rw [if_neg h10]
theorem scan_form (most : Int) (q : List Int) (i : Nat) (h : i < q.length) (h10 : q.getD i 0 = 10) : scan most i (q.drop i) = (3, i) := by
  rw [drop_at q i h, h10]; rfl
theorem scan_long (most : Int) (q : List Int) (i : Nat) (h : i < q.length) (h13 : q.getD i 0 ≠ 13) (h10 : q.getD i 0 ≠ 10) (hm : most ≤ i) : scan most i (q.drop i) = (2, i) := by
  rw [drop_at q i h]
  simp only [scan]
  rw [if_neg h13, if_neg h10, if_pos hm]
theorem scan_next (most : Int) (q : List Int) (i : Nat) (h : i < q.length) (h13 : q.getD i 0 ≠ 13) (h10 : q.getD i 0 ≠ 10) (hm : ¬ most ≤ i) : scan most i (q.drop i) = scan most (i + 1) (q.drop (i + 1)) := by
  rw [drop_at q i h]
  simp only [scan]
  rw [if_neg h13, if_neg h10, if_neg hm]

theorem scan_bounds (most : Int) : ∀ (q : List Int) (i : Nat), (scan most i q).1 = 0 → i ≤ (scan most i q).2 ∧ (scan most i q).2 + 1 < i + q.length ∧ ∀ j, j < (scan most i q).2 - i → q.getD j 0 ≠ 13 ∧ q.getD j 0 ≠ 10 := by
  intro q
  induction q with
  | nil => intro i h; simp [scan] at h
  | cons c t ih =>
    intro i h
    by_cases h13 : c = 13
    · subst h13
      cases t with
      | nil => simp [scan] at h
      | cons d u =>
        by_cases h10 : d = 10
        · subst h10
          have e : scan most i (13 :: 10 :: u) = (0, i) := rfl
          rw [e]; simp
        · have e : scan most i (13 :: d :: u) = (3, i) := by simp only [scan, if_true]; rw [if_neg h10]
          rw [e] at h; simp at h
    · by_cases h10 : c = 10
      · subst h10
        have e : scan most i (10 :: t) = (3, i) := rfl
        rw [e] at h; simp at h
      · by_cases hm : most ≤ i
        · have e : scan most i (c :: t) = (2, i) := by simp only [scan]; rw [if_neg h13, if_neg h10, if_pos hm]
          rw [e] at h; simp at h
        · have e : scan most i (c :: t) = scan most (i + 1) t := by simp only [scan]; rw [if_neg h13, if_neg h10, if_neg hm]
          rw [e] at h ⊢
          obtain ⟨h1, h2, h3⟩ := ih (i + 1) h
          refine ⟨by omega, by simp; omega, ?_⟩
          intro j hj
          cases j with
          | zero => exact ⟨by simpa using h13, by simpa using h10⟩
          | succ j => simpa using h3 j (by omega)
theorem lineL_plain (q : List Int) (most : Int) (j : Nat) (hj : j < (lineL q most).length) : (lineL q most).getD j 0 ≠ 13 ∧ (lineL q most).getD j 0 ≠ 10 := by
  unfold lineL at *
  split at hj
  · rename_i h0
    rw [if_pos h0]
    unfold lineC at h0
    split at h0
    · omega
    · obtain ⟨h1, h2, h3⟩ := scan_bounds most q 0 h0
      simp only [List.length_take] at hj
      have := h3 j (by omega)
      simpa [List.getD, List.getElem?_take, show j < (scan most 0 q).2 by omega] using this
  · simp at hj
theorem lineL_le (q : List Int) (most : Int) : (lineL q most).length ≤ q.length := by
  unfold lineL
  split
  · simp; omega
  · simp
theorem lineR_le (q : List Int) (most : Int) : (lineR q most).length ≤ q.length := by
  unfold lineR
  split
  · simp
  · omega
theorem scan_code (most : Int) : ∀ (q : List Int) (i : Nat), (scan most i q).1 = 0 ∨ (scan most i q).1 = 2 ∨ (scan most i q).1 = 3 ∨ (scan most i q).1 = 8 := by
  intro q
  induction q with
  | nil => intro i; simp [scan]
  | cons c t ih =>
    intro i
    simp only [scan]
    split
    · cases t with
      | nil => simp
      | cons d u => simp only; split <;> simp
    · split
      · simp
      · split
        · simp
        · exact ih _

/-- The first place of c, from place i on. -/
def idx (c : Int) : Nat → List Int → Int
  | _, [] => -1
  | i, x :: t => if x = c then i else idx c (i + 1) t
theorem idx_end (c : Int) (q : List Int) (i : Nat) (h : q.length ≤ i) : idx c i (q.drop i) = -1 := by
  rw [List.drop_eq_nil_of_le h]; rfl
theorem idx_hit (c : Int) (q : List Int) (i : Nat) (h : i < q.length) (hc : q.getD i 0 = c) : idx c i (q.drop i) = i := by
  rw [drop_at q i h]; simp only [idx]; rw [if_pos hc]
theorem idx_miss (c : Int) (q : List Int) (i : Nat) (h : i < q.length) (hc : q.getD i 0 ≠ c) : idx c i (q.drop i) = idx c (i + 1) (q.drop (i + 1)) := by
  rw [drop_at q i h]; simp only [idx]; rw [if_neg hc]
def idxFrom (c : Int) (q : List Int) (n : Int) : Int := idx c n.toNat (q.drop n.toNat)
end Go.Proofs.Ytfiiiefhchbhlaa
