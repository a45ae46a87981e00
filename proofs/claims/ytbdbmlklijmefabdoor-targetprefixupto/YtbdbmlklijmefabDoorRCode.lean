/- The document's digits and codes; texts of path bytes and codes. -/
import Derived.Test.YtbdbmlklijmefabDoorRByte
import Derived.Test.YtbdbmlklijmefabDoorOrder
namespace Go.Proofs.YtbdbmlklijmefabDoor
open Go.RowKit

/-- A digit's value, or -1. -/
def hexI (c : UInt8) : Int := match hexN c with
  | some x => (x : Int)
  | none => -1
def digN (i : Nat) : Nat := if i < 10 then 48 + i else 87 + i
theorem hex_match (c : UInt8) (i : Nat) (h : i < 16) : hexN c = some i ↔ (c.toNat = digN i ∨ (65 ≤ c.toNat ∧ c.toNat ≤ 70 ∧ c.toNat + 32 = digN i)) := by
  unfold hexN digN
  simp only [UInt8.le_iff_toNat_le]
  have e1 : (48 : UInt8).toNat = 48 := rfl
  have e2 : (57 : UInt8).toNat = 57 := rfl
  have e3 : (97 : UInt8).toNat = 97 := rfl
  have e4 : (102 : UInt8).toNat = 102 := rfl
  have e5 : (65 : UInt8).toNat = 65 := rfl
  have e6 : (70 : UInt8).toNat = 70 := rfl
  rw [e1, e2, e3, e4, e5, e6]
  split
  · rw [Option.some.injEq]; split <;> omega
  · split
    · rw [Option.some.injEq]; split <;> omega
    · split
      · rw [Option.some.injEq]; split <;> omega
      · simp only [reduceCtorEq, false_iff]
        split <;> omega
theorem hex_yes {c : UInt8} {i : Nat} (h : hexN c = some i) : hexI c = (i : Int) := by unfold hexI; rw [h]
theorem hex_no {c : UInt8} (h : ∀ j, j < 16 → hexN c ≠ some j) : hexI c = -1 := by
  unfold hexI
  cases e : hexN c with
  | none => rfl
  | some x => exact absurd e (h x (hexN_lt e))
theorem dig_at (i : Nat) (hi : i < 16) : ∀ h : i < ({ data := #[48, 49, 50, 51, 52, 53, 54, 55, 56, 57, 97, 98, 99, 100, 101, 102] } : ByteArray).size, (({ data := #[48, 49, 50, 51, 52, 53, 54, 55, 56, 57, 97, 98, 99, 100, 101, 102] } : ByteArray)[i]'h).toNat = digN i := by
  intro h
  have key : ∀ K : Fin 16, ((#[48, 49, 50, 51, 52, 53, 54, 55, 56, 57, 97, 98, 99, 100, 101, 102] : Array UInt8)[K.val]?).map (·.toNat) = some (digN K.val) := by decide
  have h2 := key ⟨i, hi⟩
  have h3 : (#[48, 49, 50, 51, 52, 53, 54, 55, 56, 57, 97, 98, 99, 100, 101, 102] : Array UInt8)[i]? = some ((#[48, 49, 50, 51, 52, 53, 54, 55, 56, 57, 97, 98, 99, 100, 101, 102] : Array UInt8)[i]'h) := Array.getElem?_eq_getElem h
  simp only at h2
  rw [h3] at h2
  exact Option.some.inj h2
theorem hexI_bd (c : UInt8) : -1 ≤ hexI c ∧ hexI c < 16 := by
  unfold hexI
  cases e : hexN c with
  | none => simp
  | some x =>
    have := hexN_lt e
    simp only
    omega
/-- The byte of a code that begins here, or -1. -/
def codeI (l : B) : Int := match l with
  | c :: a :: b :: _ => (match codeOf c a b with
    | some v => (v.toNat : Int)
    | none => -1)
  | _ => -1
theorem codeI_short {l : B} (h : l.length < 3) : codeI l = -1 := by
  match l, h with
  | [], _ => rfl
  | [_], _ => rfl
  | [_, _], _ => rfl
  | _ :: _ :: _ :: r, h => exact absurd h (by simp)
theorem drop3 {s : B} {i : Nat} (h : i + 2 < s.length) : s.drop i = s[i] :: s[i + 1] :: s[i + 2] :: s.drop (i + 3) := by
  rw [List.drop_eq_getElem_cons (by omega), List.drop_eq_getElem_cons (by omega), List.drop_eq_getElem_cons (by omega)]
theorem codeI_at {c a b : UInt8} {r : B} : codeI (c :: a :: b :: r) = if c = 37 ∧ 0 ≤ hexI a ∧ 0 ≤ hexI b then hexI a * 16 + hexI b else -1 := by
  unfold codeI codeOf
  simp only
  by_cases h : c = 37
  · rw [if_pos h]
    unfold hexI
    cases ha : hexN a with
    | none => simp
    | some x =>
      cases hb : hexN b with
      | none => simp
      | some y =>
        have h1 := hexN_lt ha
        have h2 := hexN_lt hb
        simp only
        rw [if_pos ⟨h, by omega, by omega⟩, UInt8.toNat_ofNat']
        omega
  · rw [if_neg h, if_neg (fun q => h q.1)]
theorem codeI_bd (l : B) : -1 ≤ codeI l ∧ codeI l < 256 := by
  unfold codeI
  split
  · split
    · rename_i v _
      have := v.toNat_lt
      omega
    · omega
  · omega
end Go.Proofs.YtbdbmlklijmefabDoor
