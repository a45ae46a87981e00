/- How the numbers of all Content-Length fields agree, told by values and told by elements; whether the one coding is chunked; plain. -/
import Derived.Test.YthakldcfpndabaaDoorCNum
import Derived.Test.YthakldcfpndabaaDoorHHas
namespace Go.Proofs.YthakldcfpndabaaDoor
open Go.RowKit

def elB (x : ByteArray) : Option Int := if numE 10 1099511627776 x = 0 then some (numN 10 1099511627776 x) else none
/-- The number that elements agree on, behind the number so far; nothing: they part. -/
def run (st : Option Int) : List ByteArray → Option (Option Int)
  | [] => some st
  | x :: l => match elB x with
    | none => none
    | some m => if st = none ∨ st = some m then run (some m) l else none
def oneN (v : ByteArray) : Option Int := match run none (listS v) with
  | some (some n) => some n
  | _ => none
def runV (st : Option Int) : List ByteArray → Option (Option Int)
  | [] => some st
  | v :: l => match oneN v with
    | none => none
    | some m => if st = none ∨ st = some m then runV (some m) l else none
def runD (st : Option Int) : List ByteArray → Option (Option Int)
  | [] => some st
  | v :: l => if listS v = [] then none else match run st (listS v) with
    | none => none
    | some s => runD s l
theorem run_keep {m : Int} : ∀ {l : List ByteArray} {r : Option Int}, run (some m) l = some r → r = some m
  | [], r, h => by simp [run] at h; exact h.symm
  | x :: l, r, h => by
    unfold run at h
    cases e : elB x with
    | none => rw [e] at h; cases h
    | some k =>
      rw [e] at h
      simp only at h
      split at h
      · rename_i hk
        have hk2 : m = k := by simpa using hk
        subst hk2
        exact run_keep h
      · cases h
theorem run_some (st : Option Int) {v : ByteArray} (hne : listS v ≠ []) : run st (listS v) = match oneN v with
    | none => none
    | some m => if st = none ∨ st = some m then some (some m) else none := by
  unfold oneN
  cases hl : listS v with
  | nil => exact absurd hl hne
  | cons x l =>
    unfold run
    cases e : elB x with
    | none => rfl
    | some k =>
      simp only [true_or, if_true]
      cases hr : run (some k) l with
      | none => simp only; split <;> rfl
      | some r =>
        obtain rfl := run_keep hr
        rfl
theorem runV_runD : ∀ (l : List ByteArray) (st : Option Int), runV st l = runD st l
  | [], st => rfl
  | v :: l, st => by
    unfold runV runD
    by_cases h : listS v = []
    · rw [if_pos h]
      have : oneN v = none := by unfold oneN; rw [h]; rfl
      rw [this]
    · rw [if_neg h, run_some st h]
      cases oneN v with
      | none => rfl
      | some m =>
        simp only
        split
        · exact runV_runD l _
        · rfl
theorem runV_keep {m : Int} : ∀ {l : List ByteArray} {r : Option Int}, runV (some m) l = some r → r = some m
  | [], r, h => by simp [runV] at h; exact h.symm
  | x :: l, r, h => by
    unfold runV at h
    cases e : oneN x with
    | none => rw [e] at h; cases h
    | some k =>
      rw [e] at h
      simp only at h
      split at h
      · rename_i hk
        have hk2 : m = k := by simpa using hk
        subst hk2
        exact runV_keep h
      · cases h
/-- What Length tells: the number, whether there is one, the error's number. -/
def lenT : Option (Option Int) → Int × Bool × Nat
  | none => (0, false, 3)
  | some none => (0, false, 0)
  | some (some n) => (n, true, 0)
def clN : ByteArray := ⟨#[67, 111, 110, 116, 101, 110, 116, 45, 76, 101, 110, 103, 116, 104]⟩
def teN : ByteArray := ⟨#[84, 114, 97, 110, 115, 102, 101, 114, 45, 69, 110, 99, 111, 100, 105, 110, 103]⟩
def chN : ByteArray := ⟨#[99, 104, 117, 110, 107, 101, 100]⟩
def lenF (fs : List (B × B)) : Option (Option Int) := runV none (valsB fs clN)
/-- All elements of all lists. -/
def elsB (vs : List ByteArray) : List ByteArray := vs.flatMap listS
def chkE : List ByteArray → Bool
  | [x] => sameB x chN
  | _ => false
def chkB (vs : List ByteArray) : Bool := chkE (elsB vs)
/-- What Chunked tells: whether it is, the error's number. -/
def chkT (vs : List ByteArray) : Bool × Nat := if vs = [] then (false, 0) else if chkB vs = true then (true, 0) else (false, 3)
def chkF (fs : List (B × B)) : Bool × Nat := chkT (valsB fs teN)
/-- A framing: its kind and its length; or the error. -/
def frmF (minor : Int) (fs : List (B × B)) (other : Int) : (Int × Int) × Nat :=
  if (lenT (lenF fs)).2.2 ≠ 0 ∨ (chkF fs).2 ≠ 0 ∨ ((chkF fs).1 = true ∧ ((lenT (lenF fs)).2.1 = true ∨ minor = 0)) then ((0, 0), 30)
  else if (chkF fs).1 = true then ((2, 0), 0)
  else if (lenT (lenF fs)).2.1 = true then ((1, (lenT (lenF fs)).1), 0)
  else ((other, 0), 0)
theorem elsB_len {k : Nat} : ∀ vs : List ByteArray, (∀ v ∈ vs, v.size ≤ k) → (elsB vs).length ≤ vs.length * (k + 1)
  | [], _ => by simp [elsB]
  | v :: vs, h => by
    have h1 := elsB_len vs (fun u hu => h u (by simp [hu]))
    have h2 := listS_many v
    have h3 := h v (by simp)
    simp only [elsB, List.flatMap_cons, List.length_append, List.length_cons] at h1 ⊢
    rw [Nat.add_mul]
    omega
theorem chkB_bad {vs : List ByteArray} {x : ByteArray} (h : x ∈ elsB vs) (hx : sameB x chN = false) : chkB vs = false := by
  unfold chkB
  generalize elsB vs = E at h
  rcases E with _ | ⟨y, _ | ⟨z, r⟩⟩
  · rfl
  · simp at h
    rw [← h]; exact hx
  · rfl
theorem chkB_good {vs : List ByteArray} (h : ∀ x ∈ elsB vs, sameB x chN = true) : chkB vs = decide ((elsB vs).length = 1) := by
  unfold chkB
  generalize elsB vs = E at h
  rcases E with _ | ⟨y, _ | ⟨z, r⟩⟩
  · rfl
  · rw [chkE, h y (by simp)]; rfl
  · simp [chkE]
theorem numL_bd {most : Int} : ∀ (l : List UInt8) (n r : Int), 0 ≤ n → n ≤ most → numL 10 most l n = some r → 0 ≤ r ∧ r ≤ most
  | [], n, r, h0, h1, h => by
    simp only [numL, Option.some.injEq] at h
    omega
  | b :: l, n, r, h0, h1, h => by
    unfold numL at h
    split at h
    · cases h
    · rename_i hb
      have hx := hexV_bd (b.toNat : Int)
      exact numL_bd l _ r (by omega) (by omega) h
theorem elB_nonneg {x : ByteArray} {n : Int} (h : elB x = some n) : 0 ≤ n ∧ n ≤ 1099511627776 := by
  unfold elB at h
  split at h
  · rename_i he
    unfold numE at he
    rw [if_neg (by decide)] at he
    split at he
    · cases he
    · rename_i hd
      cases hl : numL 10 1099511627776 x.data.toList 0 with
      | none => rw [hl] at he; cases he
      | some m =>
        unfold numN at h
        rw [if_neg (by decide), if_neg hd, hl] at h
        simp only [Option.getD_some, Option.some.injEq] at h
        subst h
        exact numL_bd _ _ _ (Int.le_refl _) (by decide) hl
  · cases h
theorem run_bd : ∀ {l : List ByteArray} {n : Int}, run none l = some (some n) → 0 ≤ n ∧ n ≤ 1099511627776
  | [], n, h => by simp [run] at h
  | x :: l, n, h => by
    unfold run at h
    cases e : elB x with
    | none => rw [e] at h; cases h
    | some k =>
      rw [e] at h
      simp only [true_or, if_true] at h
      have := run_keep h
      simp only [Option.some.injEq] at this
      subst this
      exact elB_nonneg e
theorem oneN_bd {v : ByteArray} {n : Int} (h : oneN v = some n) : 0 ≤ n ∧ n ≤ 1099511627776 := by
  unfold oneN at h
  split at h
  · rename_i m hm
    simp only [Option.some.injEq] at h
    subst h
    exact run_bd hm
  · cases h
theorem runV_bd : ∀ {l : List ByteArray} {n : Int}, runV none l = some (some n) → 0 ≤ n ∧ n ≤ 1099511627776
  | [], n, h => by simp [runV] at h
  | x :: l, n, h => by
    unfold runV at h
    cases e : oneN x with
    | none => rw [e] at h; cases h
    | some k =>
      rw [e] at h
      simp only [true_or, if_true] at h
      have := runV_keep h
      simp only [Option.some.injEq] at this
      subst this
      exact oneN_bd e
end Go.Proofs.YthakldcfpndabaaDoor
