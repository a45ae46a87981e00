/- What HostOrder says, plain: first places of texts, entries, what is found hangs on the members alone. -/
import Derived.Test.YtkjgdfihhhdjaaaDoorSFnd
import Derived.Test.YtkjgdfihhhdjaaaDoorCSame
import Derived.Test.YtkjgdfihhhdjaaaDoorSLSt
namespace Go.Proofs.YtkjgdfihhhdjaaaDoor
open Go.RowKit Go.Maps

/-- The first place of a text like the one at i, among the first k and i itself. -/
def firstTo (f : Nat → B) (i : Nat) : Nat → Nat
  | 0 => i
  | k + 1 => if f k = f i then min (firstTo f i k) k else firstTo f i k
theorem first_spec (f : Nat → B) (i : Nat) : ∀ k, k ≤ i → f (firstTo f i k) = f i ∧ firstTo f i k ≤ i ∧ ∀ j, j < k → f j = f i → firstTo f i k ≤ j
  | 0, _ => ⟨rfl, Nat.le_refl _, fun j hj => absurd hj (Nat.not_lt_zero _)⟩
  | k + 1, hk => by
    obtain ⟨h1, h2, h3⟩ := first_spec f i k (by omega)
    unfold firstTo
    by_cases e : f k = f i
    · rw [if_pos e]
      refine ⟨?_, by omega, fun j hj hf => ?_⟩
      · rcases Nat.le_total (firstTo f i k) k with h | h
        · rw [Nat.min_eq_left h]; exact h1
        · rw [Nat.min_eq_right h]; exact e
      · rcases Nat.lt_or_ge j k with h | h
        · have := h3 j h hf; omega
        · omega
    · rw [if_neg e]
      refine ⟨h1, h2, fun j hj hf => ?_⟩
      rcases Nat.lt_or_ge j k with h | h
      · exact h3 j h hf
      · have : j = k := by omega
        subst this
        exact absurd hf e
def fstN (f : Nat → B) (i : Nat) : Nat := firstTo f i i
theorem fst_same (f : Nat → B) (i : Nat) : f (fstN f i) = f i := (first_spec f i i (Nat.le_refl _)).1
theorem fst_le (f : Nat → B) (i : Nat) : fstN f i ≤ i := (first_spec f i i (Nat.le_refl _)).2.1
theorem fst_min (f : Nat → B) {i j : Nat} (h : f j = f i) : fstN f i ≤ j := by
  rcases Nat.lt_or_ge j i with h1 | h1
  · exact (first_spec f i i (Nat.le_refl _)).2.2 j h1 h
  · have := fst_le f i; omega
theorem fst_eq (f : Nat → B) {i j : Nat} (h : f i = f j) : fstN f i = fstN f j := by
  have h1 : fstN f i ≤ fstN f j := fst_min f ((fst_same f j).trans h.symm)
  have h2 : fstN f j ≤ fstN f i := fst_min f ((fst_same f i).trans h)
  omega
/-- The text at a place, in small letters; its entry. -/
def lowAt (ps : List B) (i : Nat) : B := lowH (ps.getD i [])
def entAt (ps : List B) (i : Nat) : B × Int := (lowAt ps i, (fstN (lowAt ps) i : Int))
def okAt (ps : List B) (i : Nat) : Prop := ∃ x, patH (ps.getD i []) = some x
theorem ent_eq {ps : List B} {i j : Nat} (h : lowAt ps i = lowAt ps j) : entAt ps i = entAt ps j := by
  unfold entAt
  rw [h, fst_eq _ h]
theorem lowAt_of {ps : List B} {i : Nat} {x : B} (h : ps[i]? = some x) : lowAt ps i = lowH x := by
  unfold lowAt
  rw [List.getD_eq_getElem?_getD, h]
  rfl
theorem okAt_of {ps : List B} {i : Nat} {x : B} (h : ps[i]? = some x) : okAt ps i ↔ ∃ z, patH x = some z := by
  unfold okAt
  rw [List.getD_eq_getElem?_getD, h]
  rfl
/-- The entries of the texts at these places. -/
def MemE (ps : List B) (S : Nat → Prop) (P : List (B × Int)) : Prop := ∀ x, x ∈ P ↔ ∃ i, S i ∧ okAt ps i ∧ x = entAt ps i
theorem mem_nil (ps : List B) : MemE ps (fun _ => False) [] := fun x => by
  constructor
  · intro h; simp at h
  · rintro ⟨i, h, _⟩; exact h.elim
theorem mem_add {ps : List B} {S : Nat → Prop} {P : List (B × Int)} (h : MemE ps S P) (hl : P.length < 64) {i : Nat} {x : B} (hx : ps[i]? = some x) : MemE ps (fun j => S j ∨ j = i) (addP P x (fstN (lowAt ps) i : Int)) := by
  have e1 := lowAt_of hx
  have e2 := okAt_of hx
  have hent : entAt ps i = (lowH x, (fstN (lowAt ps) i : Int)) := by unfold entAt; rw [e1]
  intro y
  unfold addP addE
  cases hp : patH x with
  | none =>
    have hno : ¬ okAt ps i := fun h => by obtain ⟨z, hz⟩ := e2.1 h; rw [hp] at hz; cases hz
    rw [if_pos (show (none : Option (List B)).isNone = true from rfl), if_neg (by decide), h y]
    constructor
    · rintro ⟨j, h1, h2⟩
      exact ⟨j, .inl h1, h2⟩
    · rintro ⟨j, h1 | h1, h2, h3⟩
      · exact ⟨j, h1, h2, h3⟩
      · rw [h1] at h2; exact absurd h2 hno
  | some z =>
    have hok : okAt ps i := e2.2 ⟨z, hp⟩
    rw [if_neg (show ¬ (some z).isNone = true from by simp), if_neg (show ¬ 64 ≤ P.length from by omega)]
    cases ha : P.any (fun q => decide (q.1 = lowH x)) with
    | true =>
      rw [if_pos rfl, if_neg (by decide), h y]
      obtain ⟨q, hq, hq2⟩ := List.any_eq_true.1 ha
      obtain ⟨k, hk1, hk2, rfl⟩ := (h q).1 hq
      have hk3 : lowAt ps k = lowAt ps i := by rw [e1]; exact of_decide_eq_true hq2
      constructor
      · rintro ⟨j, h1, h2⟩
        exact ⟨j, .inl h1, h2⟩
      · rintro ⟨j, h1 | h1, h2, h3⟩
        · exact ⟨j, h1, h2, h3⟩
        · exact ⟨k, hk1, hk2, by rw [h3, h1]; exact ent_eq hk3.symm⟩
    | false =>
      rw [if_pos (show (if false = true then 6 else 0) = 0 from rfl), List.mem_append, h y]
      constructor
      · rintro (⟨j, h1, h2⟩ | h1)
        · exact ⟨j, .inl h1, h2⟩
        · exact ⟨i, .inr rfl, hok, by rw [hent]; simpa using h1⟩
      · rintro ⟨j, h1 | h1, h2, h3⟩
        · exact .inl ⟨j, h1, h2, h3⟩
        · right
          rw [h3, h1, hent]
          simp
theorem addP_len (P : List (B × Int)) (p : B) (id : Int) : (addP P p id).length ≤ P.length + 1 := by
  unfold addP
  split
  · simp
  · omega
theorem mem_same {ps : List B} {S T : Nat → Prop} {P : List (B × Int)} (h : MemE ps S P) (hs : ∀ i, S i ↔ T i) : MemE ps T P := fun x => by
  rw [h x]
  constructor
  · rintro ⟨i, h1, h2⟩
    exact ⟨i, (hs i).1 h1, h2⟩
  · rintro ⟨i, h1, h2⟩
    exact ⟨i, (hs i).2 h1, h2⟩
/-- What is found hangs on the members alone. -/
theorem best_mem {P R : List (B × Int)} {y : List B} (hm : ∀ x, x ∈ P ↔ x ∈ R) (hap : ∀ p ∈ P, ∀ q ∈ P, patL p.1 = patL q.1 → p = q) : bestF y P = bestF y R := by
  have h1 := best_spec y P.length P rfl
  have h2 := best_spec y R.length R rfl
  cases hb : bestF y P with
  | none =>
    rw [hb] at h1
    have h1 : ∀ p ∈ P, fitsS (patL p.1) y = false := h1
    cases hc : bestF y R with
    | none => rfl
    | some q =>
      rw [hc] at h2
      have h3 := h1 q ((hm q).2 h2.1)
      rw [h2.2.1] at h3
      cases h3
  | some p =>
    rw [hb] at h1
    obtain ⟨a1, a2, a3⟩ : p ∈ P ∧ fitsS (patL p.1) y = true ∧ ∀ q ∈ P, fitsS (patL q.1) y = true → patL q.1 = patL p.1 ∨ aheadP (patL p.1) (patL q.1) = true := h1
    cases hc : bestF y R with
    | none =>
      rw [hc] at h2
      have h3 : fitsS (patL p.1) y = false := h2 p ((hm p).1 a1)
      rw [a2] at h3
      cases h3
    | some q =>
      rw [hc] at h2
      obtain ⟨b1, b2, b3⟩ : q ∈ R ∧ fitsS (patL q.1) y = true ∧ ∀ r ∈ R, fitsS (patL r.1) y = true → patL r.1 = patL q.1 ∨ aheadP (patL q.1) (patL r.1) = true := h2
      have hq := (hm q).2 b1
      rcases a3 q hq b2 with e | e
      · rw [hap p a1 q hq e.symm]
      · rcases b3 p ((hm p).1 a1) a2 with e2 | e2
        · rw [hap p a1 q hq e2]
        · rw [aheadP_asymm e] at e2; cases e2
theorem find_mem {P R : List (B × Int)} (host : B) (hm : ∀ x, x ∈ P ↔ x ∈ R) (hap : ∀ p ∈ P, ∀ q ∈ P, patL p.1 = patL q.1 → p = q) : findN P host = findN R host := by
  unfold findN
  cases labsH false host with
  | none => rfl
  | some y =>
    dsimp only
    rw [best_mem hm hap]
/-- The places, turned. -/
def turnK (n u i : Nat) : Nat := (u + n - i) % n
theorem turn_lt {n u i : Nat} (hn : 0 < n) : turnK n u i < n := Nat.mod_lt _ hn
theorem turn_all {n u : Nat} (hu : u < n) (j : Nat) (hj : j < n) : ∃ i, i < n ∧ turnK n u i = j := by
  unfold turnK
  by_cases h : j ≤ u
  · refine ⟨u - j, by omega, ?_⟩
    rw [show u + n - (u - j) = j + n by omega, Nat.add_mod_right, Nat.mod_eq_of_lt hj]
  · refine ⟨u + n - j, by omega, ?_⟩
    rw [show u + n - (u + n - j) = j by omega, Nat.mod_eq_of_lt hj]
/-- What is found of a table of all texts: a place whose text fits, and no text beats it. -/
theorem found_fits {ps : List B} {P : List (B × Int)} {n : Nat} (hn : ps.length = n) (h : MemE ps (fun i => i < n) P) {host : B} (h0 : (findN P host).2 = 0) : ∃ (k : Nat) (x : B), (findN P host).1 = (k : Int) ∧ k < n ∧ ps[k]? = some x ∧ fitsN x host = (true, 0) ∧ ∀ (i : Nat) (z : B), ps[i]? = some z → (beatsN z x host).1 = false := by
  unfold findN at h0 ⊢
  cases hl : labsH false host with
  | none => rw [hl] at h0; cases h0
  | some y =>
    rw [hl] at h0
    dsimp only at h0 ⊢
    cases hb : bestF y P with
    | none => rw [hb] at h0; cases h0
    | some p =>
      have hs := best_spec y P.length P rfl
      rw [hb] at hs
      obtain ⟨a1, a2, a3⟩ : p ∈ P ∧ fitsS (patL p.1) y = true ∧ ∀ q ∈ P, fitsS (patL q.1) y = true → patL q.1 = patL p.1 ∨ aheadP (patL p.1) (patL q.1) = true := hs
      obtain ⟨j, hj, hok, rfl⟩ := (h p).1 a1
      have hk := fst_le (lowAt ps) j
      have hkn : fstN (lowAt ps) j < ps.length := by omega
      have hx := List.getElem?_eq_getElem hkn
      obtain ⟨x, hxe⟩ : ∃ x, ps[fstN (lowAt ps) j] = x := ⟨_, rfl⟩
      rw [hxe] at hx
      have hlow : lowH x = lowAt ps j := by rw [← lowAt_of hx]; exact fst_same _ _
      obtain ⟨zj, hzj⟩ := hok
      have hpx : patH x = some zj := by
        have h1 := pat_low x
        rw [hlow] at h1
        rw [← h1]
        show patH (lowH (ps.getD j [])) = _
        rw [pat_low]
        exact hzj
      have hpl : patL (entAt ps j).1 = zj := by
        show patL (lowH (ps.getD j [])) = zj
        exact patL_some (by rw [pat_low]; exact hzj)
      rw [hpl] at a2 a3
      refine ⟨fstN (lowAt ps) j, x, rfl, by omega, hx, ?_, fun i z hz => ?_⟩
      · unfold fitsN fitsAns
        rw [hpx, hl]
        dsimp only
        rw [a2]
      · cases hpz : patH z with
        | none => rw [beatsN_form (.inl hpz)]
        | some u =>
          cases hf : fitsS u y with
          | false => rw [beatsN_none hpz hpx hl (by rw [hf]; rfl)]
          | true =>
            rw [beatsN_ok hpz hpx hl hf a2]
            have hin : i < n := by rw [← hn]; exact (List.getElem?_eq_some_iff.1 hz).1
            have hm : entAt ps i ∈ P := (h _).2 ⟨i, hin, (okAt_of hz).2 ⟨u, hpz⟩, rfl⟩
            have hpi : patL (entAt ps i).1 = u := by
              show patL (lowAt ps i) = u
              rw [lowAt_of hz]
              exact patL_some (by rw [pat_low]; exact hpz)
            have h9 := a3 _ hm (by rw [hpi]; exact hf)
            rw [hpi] at h9
            rcases h9 with e | e
            · rw [e]; exact aheadP_irrefl _
            · exact aheadP_asymm e
end Go.Proofs.YtkjgdfihhhdjaaaDoor
