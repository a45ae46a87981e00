/- Patterns by their keys, plain: what a tree of them finds is the best one. -/
import Derived.Test.YtdjjkcpnjocafaaDoorTCheckP
namespace Go.Proofs.YtdjjkcpnjocafaaDoor

/-- A segment but for its token. -/
inductive Ky where
  | plain (s : B)
  | par
  | rest
  deriving DecidableEq
def keyT (x : B) : Ky := if kindT x = 0 then .plain x else if kindT x = 1 then .par else .rest
def keysT (l : List B) : List Ky := l.map keyT
def Ky.kind : Ky → Nat
  | .plain _ => 0
  | .par => 1
  | .rest => 2
theorem keyT_kind (x : B) : (keyT x).kind = kindT x := by
  have := kindT_le x
  unfold keyT
  split
  · rename_i h; rw [h]; rfl
  · split
    · rename_i h; rw [h]; rfl
    · show 2 = _
      omega
theorem keyT_eq {x y : B} : keyT x = keyT y ↔ kindT x = kindT y ∧ (kindT x ≠ 0 ∨ x = y) := by
  constructor
  · intro h
    have hk : kindT x = kindT y := by rw [← keyT_kind, ← keyT_kind, h]
    refine ⟨hk, ?_⟩
    by_cases h0 : kindT x = 0
    · right
      have h1 : kindT y = 0 := by omega
      unfold keyT at h
      rw [if_pos h0, if_pos h1] at h
      injection h
    · exact .inl h0
  · rintro ⟨hk, h | h⟩
    · have h' : ¬ kindT y = 0 := by omega
      unfold keyT
      rw [if_neg h, if_neg h', hk]
    · rw [h]
theorem alike_keys : ∀ a b : List B, alikeT a b = true ↔ keysT a = keysT b
  | [], [] => by simp [alikeT, keysT]
  | [], y :: b => by simp [alikeT, keysT]
  | x :: a, [] => by simp [alikeT, keysT]
  | x :: a, y :: b => by
    have ih := alike_keys a b
    unfold alikeT
    show _ ↔ keyT x :: keysT a = keyT y :: keysT b
    rw [Bool.and_eq_true, Bool.and_eq_true, List.cons.injEq, ih, keyT_eq]
    simp
def fitsK : List Ky → List B → Bool
  | [], [] => true
  | [], _ :: _ => false
  | _ :: _, [] => false
  | .rest :: _, _ :: _ => true
  | .par :: l, y :: r => decide (y ≠ []) && fitsK l r
  | .plain x :: l, y :: r => decide (x = y) && fitsK l r
theorem fits_keys : ∀ (a : List B) (r : List B), (fitsT a r).isSome = fitsK (keysT a) r
  | [], [] => rfl
  | [], _ :: _ => rfl
  | _ :: _, [] => rfl
  | x :: a, y :: r => by
    have ih := fits_keys a r
    have hk := kindT_le x
    show (fitsT (x :: a) (y :: r)).isSome = fitsK (keyT x :: keysT a) (y :: r)
    unfold keyT fitsT
    by_cases h0 : kindT x = 0
    · rw [if_neg (by omega), if_neg (by omega), if_pos h0]
      by_cases e : x = y
      · rw [if_pos e, ih]
        simp [fitsK, e]
      · rw [if_neg e]
        simp [fitsK, e]
    · by_cases h1 : kindT x = 1
      · rw [if_neg (by omega), if_pos h1, if_neg h0, if_pos h1]
        by_cases e : y = []
        · rw [if_pos e]
          simp [fitsK, e]
        · rw [if_neg e, Option.isSome_map, ih]
          simp [fitsK, e]
      · rw [if_pos (by omega), if_neg h0, if_neg h1]
        rfl
def betterK : List Ky → List Ky → Bool
  | x :: l, y :: r => if x.kind = y.kind then betterK l r else decide (x.kind < y.kind)
  | _, _ => false
theorem better_keys : ∀ a b : List B, betterT a b = betterK (keysT a) (keysT b)
  | [], [] => rfl
  | [], _ :: _ => rfl
  | _ :: _, [] => rfl
  | x :: a, y :: b => by
    show (if kindT x = kindT y then betterT a b else decide (kindT x < kindT y)) = if (keyT x).kind = (keyT y).kind then betterK (keysT a) (keysT b) else decide ((keyT x).kind < (keyT y).kind)
    rw [keyT_kind, keyT_kind, better_keys a b]
/-- What a tree finds: the better way is gone to its end first. E: what ends at a row of keys. -/
def behK {α : Type} (E : List Ky → Option α) : List B → List Ky → Option α
  | [], k => E k
  | x :: r, k => ((behK E r (k ++ [.plain x])).orElse fun _ => if x = [] then none else behK E r (k ++ [.par])).orElse fun _ => E (k ++ [.rest])
theorem behK_none {α : Type} {E : List Ky → Option α} : ∀ (r : List B) (k : List Ky), (∀ q, E (k ++ q) = none) → behK E r k = none
  | [], k, h => by have := h []; rwa [List.append_nil] at this
  | x :: r, k, h => by
    unfold behK
    have h1 := behK_none (E := E) r (k ++ [.plain x]) (fun q => by rw [List.append_assoc]; exact h _)
    have h2 := behK_none (E := E) r (k ++ [.par]) (fun q => by rw [List.append_assoc]; exact h _)
    rw [h1, h2, h]
    simp
theorem fitsK_nil {q : List Ky} (h : fitsK q [] = true) : q = [] := by
  cases q with
  | nil => rfl
  | cons y l => cases y <;> simp [fitsK] at h
/-- What is found fits, and is better than any other one that fits; where nothing is found, nothing fits. -/
theorem behK_best {α : Type} {E : List Ky → Option α} (hr : ∀ k q, E (k ++ .rest :: q) ≠ none → q = []) : ∀ (r : List B) (k : List Ky),
    match behK E r k with
    | none => ∀ q, E (k ++ q) ≠ none → fitsK q r = false
    | some e => ∃ q, E (k ++ q) = some e ∧ fitsK q r = true ∧ ∀ q', E (k ++ q') ≠ none → fitsK q' r = true → q' = q ∨ betterK q q' = true
  | [], k => by
    unfold behK
    cases h : E k with
    | none =>
      intro q hq
      cases hf : fitsK q [] with
      | false => rfl
      | true =>
        rw [fitsK_nil hf, List.append_nil] at hq
        exact absurd h hq
    | some e => exact ⟨[], by rw [List.append_nil]; exact h, rfl, fun q' _ hf => .inl (fitsK_nil hf)⟩
  | x :: r, k => by
    have h1 := behK_best hr r (k ++ [.plain x])
    have h2 := behK_best hr r (k ++ [.par])
    have e0 : behK E (x :: r) k = ((behK E r (k ++ [.plain x])).orElse fun _ => if x = [] then none else behK E r (k ++ [.par])).orElse fun _ => E (k ++ [.rest]) := rfl
    rw [e0]
    cases e1 : behK E r (k ++ [.plain x]) with
    | some e =>
      rw [e1] at h1
      obtain ⟨q, a1, a2, a3⟩ := h1
      rw [List.append_assoc] at a1
      refine ⟨.plain x :: q, a1, by simp [fitsK, a2], fun q' hq' hf => ?_⟩
      cases q' with
      | nil => simp [fitsK] at hf
      | cons y l =>
        cases y with
        | plain z =>
          simp [fitsK] at hf
          obtain ⟨rfl, hf⟩ := hf
          rcases a3 l (by rw [List.append_assoc]; exact hq') hf with h | h
          · exact .inl (by rw [h])
          · right
            show (if _ then _ else _) = true
            rw [if_pos rfl]
            exact h
        | par => exact .inr rfl
        | rest => exact .inr rfl
    | none =>
      rw [e1] at h1
      have n1 : ∀ z l, E (k ++ .plain z :: l) ≠ none → fitsK (.plain z :: l) (x :: r) = false := by
        intro z l hz
        cases hf : fitsK (.plain z :: l) (x :: r) with
        | false => rfl
        | true =>
          simp [fitsK] at hf
          obtain ⟨rfl, hf⟩ := hf
          have := h1 l (by rw [List.append_assoc]; exact hz)
          rw [hf] at this
          cases this
      simp only [Option.orElse_none]
      by_cases hx : x = []
      · rw [if_pos hx]
        simp only [Option.orElse_none]
        have n2 : ∀ l, fitsK (.par :: l) (x :: r) = false := fun l => by simp [fitsK, hx]
        cases e3 : E (k ++ [.rest]) with
        | none =>
          intro q hq
          cases q with
          | nil => rfl
          | cons y l =>
            cases y with
            | plain z => exact n1 z l hq
            | par => exact n2 l
            | rest =>
              rw [hr k l hq] at hq
              exact absurd e3 hq
        | some e =>
          refine ⟨[.rest], e3, rfl, fun q' hq' hf => ?_⟩
          cases q' with
          | nil => simp [fitsK] at hf
          | cons y l =>
            cases y with
            | plain z => rw [n1 z l hq'] at hf; cases hf
            | par => rw [n2 l] at hf; cases hf
            | rest => exact .inl (by rw [hr k l hq'])
      · rw [if_neg hx]
        cases e2 : behK E r (k ++ [.par]) with
        | some e =>
          rw [e2] at h2
          obtain ⟨q, a1, a2, a3⟩ := h2
          rw [List.append_assoc] at a1
          refine ⟨.par :: q, a1, by simp [fitsK, a2, hx], fun q' hq' hf => ?_⟩
          cases q' with
          | nil => simp [fitsK] at hf
          | cons y l =>
            cases y with
            | plain z => rw [n1 z l hq'] at hf; cases hf
            | par =>
              simp [fitsK] at hf
              rcases a3 l (by rw [List.append_assoc]; exact hq') hf.2 with h | h
              · exact .inl (by rw [h])
              · right
                show (if _ then _ else _) = true
                rw [if_pos rfl]
                exact h
            | rest => exact .inr rfl
        | none =>
          rw [e2] at h2
          simp only [Option.orElse_none]
          have n2 : ∀ l, E (k ++ .par :: l) ≠ none → fitsK (.par :: l) (x :: r) = false := by
            intro l hz
            have := h2 l (by rw [List.append_assoc]; exact hz)
            simp [fitsK, this]
          cases e3 : E (k ++ [.rest]) with
          | none =>
            intro q hq
            cases q with
            | nil => rfl
            | cons y l =>
              cases y with
              | plain z => exact n1 z l hq
              | par => exact n2 l hq
              | rest =>
                rw [hr k l hq] at hq
                exact absurd e3 hq
          | some e =>
            refine ⟨[.rest], e3, rfl, fun q' hq' hf => ?_⟩
            cases q' with
            | nil => simp [fitsK] at hf
            | cons y l =>
              cases y with
              | plain z => rw [n1 z l hq'] at hf; cases hf
              | par => rw [n2 l hq'] at hf; cases hf
              | rest => exact .inl (by rw [hr k l hq'])
end Go.Proofs.YtdjjkcpnjocafaaDoor
