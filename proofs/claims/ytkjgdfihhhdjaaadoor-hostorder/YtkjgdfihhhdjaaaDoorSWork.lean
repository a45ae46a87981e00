/- What is found is the document's best one; the law's num and works. -/
import Derived.Test.YtkjgdfihhhdjaaaDoorSTFnd
import Derived.Test.YtkjgdfihhhdjaaaDoorSPSplit
namespace Go.Proofs.YtkjgdfihhhdjaaaDoor
open Go.RowKit Go.Maps

def stepF (y : List B) (o : Option (B × Int)) (p : B × Int) : Option (B × Int) := if fitsS (patL p.1) y && (match o with | none => true | some b => aheadP (patL p.1) (patL b.1)) then some p else o
/-- The best one, one after another. -/
def bestF (y : List B) (P : List (B × Int)) : Option (B × Int) := P.foldl (stepF y) none
theorem best_snoc (y : List B) (P : List (B × Int)) (p : B × Int) : bestF y (P ++ [p]) = stepF y (bestF y P) p := by unfold bestF; rw [List.foldl_append]; rfl
def bestP (y : List B) (P : List (B × Int)) (o : Option (B × Int)) : Prop := match o with
  | none => ∀ p ∈ P, fitsS (patL p.1) y = false
  | some p => p ∈ P ∧ fitsS (patL p.1) y = true ∧ ∀ q ∈ P, fitsS (patL q.1) y = true → patL q.1 = patL p.1 ∨ aheadP (patL p.1) (patL q.1) = true
theorem best_spec (y : List B) : ∀ (n : Nat) (P : List (B × Int)), P.length = n → bestP y P (bestF y P)
  | 0, P, h => by
    obtain rfl : P = [] := List.eq_nil_of_length_eq_zero h
    exact fun p hp => by simp at hp
  | n + 1, P, h => by
    obtain ⟨R, p, rfl⟩ : ∃ R p, P = R ++ [p] := ⟨P.dropLast, P.getLast (by intro e; rw [e] at h; cases h), (List.dropLast_concat_getLast _).symm⟩
    have ih := best_spec y n R (by simpa using h)
    rw [best_snoc]
    unfold stepF
    cases hb : bestF y R with
    | none =>
      rw [hb] at ih
      have ih : ∀ p ∈ R, fitsS (patL p.1) y = false := ih
      dsimp only
      rw [Bool.and_true]
      cases hf : fitsS (patL p.1) y with
      | false =>
        rw [if_neg (by decide)]
        intro q hq
        rcases List.mem_append.1 hq with h1 | h1
        · exact ih q h1
        · simp at h1
          rw [h1]; exact hf
      | true =>
        rw [if_pos rfl]
        refine ⟨by simp, hf, fun q hq hfq => ?_⟩
        rcases List.mem_append.1 hq with h1 | h1
        · rw [ih q h1] at hfq; cases hfq
        · simp at h1
          rw [h1]; exact .inl rfl
    | some b =>
      rw [hb] at ih
      obtain ⟨h1, h2, h3⟩ : b ∈ R ∧ fitsS (patL b.1) y = true ∧ ∀ q ∈ R, fitsS (patL q.1) y = true → patL q.1 = patL b.1 ∨ aheadP (patL b.1) (patL q.1) = true := ih
      dsimp only
      cases hf : fitsS (patL p.1) y with
      | false =>
        rw [Bool.false_and, if_neg (by decide)]
        refine ⟨List.mem_append.2 (.inl h1), h2, fun q hq hfq => ?_⟩
        rcases List.mem_append.1 hq with h4 | h4
        · exact h3 q h4 hfq
        · simp at h4
          rw [h4, hf] at hfq; cases hfq
      | true =>
        rw [Bool.true_and]
        cases ha : aheadP (patL p.1) (patL b.1) with
        | true =>
          rw [if_pos rfl]
          refine ⟨by simp, hf, fun q hq hfq => ?_⟩
          rcases List.mem_append.1 hq with h4 | h4
          · rcases h3 q h4 hfq with e | e
            · exact .inr (e ▸ ha)
            · exact .inr (aheadP_trans ha e)
          · simp at h4
            rw [h4]; exact .inl rfl
        | false =>
          rw [if_neg (by decide)]
          refine ⟨List.mem_append.2 (.inl h1), h2, fun q hq hfq => ?_⟩
          rcases List.mem_append.1 hq with h4 | h4
          · exact h3 q h4 hfq
          · simp at h4
            rw [h4]
            rcases aheadP_total (patL p.1) (patL b.1) y hf h2 with e | e | e
            · exact .inl e
            · rw [ha] at e; cases e
            · exact .inr e
theorem Tab.best {w : World} {t : Nat} {P : List (B × Int)} {m : Option Nat} {v1 v2 : Value} {L : List B} (h : Tab w t P m v1 v2 L) {y : List B} (hy : noDot y) : findO (idsF P) y L = (bestF y P).map (·.2) := by
  have h1 := h.found hy
  have h2 := best_spec y P.length P rfl
  cases hf : findO (idsF P) y L with
  | none =>
    rw [hf] at h1
    have h1 : ∀ p ∈ P, fitsS (patL p.1) y = false := h1
    cases hb : bestF y P with
    | none => rfl
    | some p =>
      rw [hb] at h2
      have h2 : p ∈ P ∧ fitsS (patL p.1) y = true ∧ _ := h2
      rw [h1 p h2.1] at h2
      exact absurd h2.2.1 (by decide)
  | some i =>
    rw [hf] at h1
    obtain ⟨p, hp, hi, hfp, hbest⟩ : ∃ p ∈ P, p.2 = i ∧ fitsS (patL p.1) y = true ∧ ∀ q ∈ P, fitsS (patL q.1) y = true → q = p ∨ aheadP (patL p.1) (patL q.1) = true := h1
    cases hb : bestF y P with
    | none =>
      rw [hb] at h2
      have h2 : ∀ p ∈ P, fitsS (patL p.1) y = false := h2
      rw [h2 p hp] at hfp
      cases hfp
    | some b =>
      rw [hb] at h2
      obtain ⟨h3, h4, h5⟩ : b ∈ P ∧ fitsS (patL b.1) y = true ∧ ∀ q ∈ P, fitsS (patL q.1) y = true → patL q.1 = patL b.1 ∨ aheadP (patL b.1) (patL q.1) = true := h2
      have : b = p := by
        rcases hbest b h3 h4 with e | e
        · exact e
        · rcases h5 p hp hfp with e2 | e2
          · exact (h.apart hp h3 e2).symm
          · rw [aheadP_asymm e] at e2; cases e2
      rw [this, Option.map_some, hi]
def findN (P : List (B × Int)) (host : B) : Int × Nat := match labsH false host with
  | none => (0, 3)
  | some y => match bestF y P with
    | none => (0, 8)
    | some p => (p.2, 0)
theorem Tab.findN {w : World} {t : Nat} {P : List (B × Int)} {m : Option Nat} {v1 v2 : Value} {L : List B} (h : Tab w t P m v1 v2 L) (host : B) : findT P L host = .tuple #[.int .i64 (findN P host).1, errOf (findN P host).2] := by
  unfold findT Go.Proofs.YtkjgdfihhhdjaaaDoor.findN
  cases hl : labsH false host with
  | none => rfl
  | some y =>
    dsimp only
    rw [h.best (labs_nodot hl)]
    cases bestF y P <;> rfl
theorem find_num {w : World} {t : Nat} {P : List (B × Int)} {m : Option Nat} {v1 v2 : Value} {L : List B} (h : Tab w t P m v1 v2 L) (hmx : MxAt w) (host : B) (hh : host.length ≤ 9223372036854775807) :
    Calls Tryd.prog 25 #[.pointer (some ⟨t, 0, none⟩), .string (str host)] w fun e w' => e = .returned (.tuple #[.int .i64 (findN P host).1, errOf (findN P host).2]) ∧ Below w.heap.size w w' := by
  have := find_any h hmx host hh
  rw [h.findN host] at this
  exact this
theorem assert_errno (k : Int) (w : World) : (Instr.typeAssert (.iface 72 (.int .i64 k)) 23 72 true).run Tryd.prog w = .ok (.tuple #[.int .i64 k, .bool true]) w := by kernel_rfl
set_option maxRecDepth 20000 in
theorem num_any (k : Nat) (hk : k ≤ 1000) (w : World) : Calls Tryd.prog 12 #[errOf k] w fun e w' => e = .returned (.int .i64 (k : Int)) ∧ w' = w := by
  by_cases h : k = 0
  · subst h
    rw [errOf_zero]
    go_enter Tryd.func12, Tryd.ntmps12
    go_wp2
    go_ret
    exact ⟨rfl, rfl⟩
  · rw [errOf_pos h]
    have hta := assert_errno
    go_enter Tryd.func12, Tryd.ntmps12
    go_wp2
    go_ret
    exact ⟨rfl, rfl⟩
end Go.Proofs.YtkjgdfihhhdjaaaDoor
