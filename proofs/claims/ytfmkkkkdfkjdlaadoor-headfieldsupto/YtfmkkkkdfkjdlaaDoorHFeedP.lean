/- The document's feed, plain: bytes one after another until the head is whole or wrong. -/
import Derived.Test.YtfmkkkkdfkjdlaaDoorHNew
namespace Go.Proofs.YtfmkkkkdfkjdlaaDoor
open Go.RowKit

def endedH (h : HS) : Bool := h.done || h.err != 0
def feedH (h : HS) : B → HS
  | [] => h
  | c :: l => if endedH h = true then h else feedH (byteH h c) l
def feedHN (h : HS) : B → Nat
  | [] => 0
  | c :: l => if endedH h = true then 0 else feedHN (byteH h c) l + 1
theorem feedH_ended {h : HS} (he : endedH h = true) : ∀ l : B, feedH h l = h ∧ feedHN h l = 0
  | [] => ⟨rfl, rfl⟩
  | c :: l => by unfold feedH feedHN; rw [if_pos he, if_pos he]; exact ⟨rfl, rfl⟩
theorem feedHN_le (l : B) : ∀ h : HS, feedHN h l ≤ l.length := by
  induction l with
  | nil => intro h; exact Nat.le_refl _
  | cons c l ih =>
    intro h
    unfold feedHN
    split
    · exact Nat.zero_le _
    · have := ih (byteH h c)
      simp only [List.length_cons]
      omega
/-- What holds of every head that is read. -/
structure InvH (h : HS) : Prop where
  most : h.most ≤ 65536
  line : h.line.length ≤ h.len
  lines : h.lines.length ≤ h.len
  len : h.err = 0 → h.len ≤ 65536
theorem newH_inv {resp : Bool} {most : Int} (h : most ≤ 65536) : InvH (newH resp most) := ⟨h, Nat.le_refl _, Nat.le_refl _, fun _ => Nat.zero_le _⟩
theorem kindN_ne (n : Nat) : kindN n ≠ 0 := by unfold kindN; split <;> decide
theorem byteH_inv {h : HS} (c : UInt8) (hi : InvH h) : InvH (byteH h c) := by
  obtain ⟨h1, h2, h3, h4⟩ := hi
  unfold byteH
  split
  · exact ⟨h1, Nat.le_succ_of_le h2, Nat.le_succ_of_le h3, fun e => by simp at e⟩
  · rename_i hm
    have hl : h.len + 1 ≤ 65536 := by omega
    split
    · split
      · split
        · exact ⟨h1, Nat.zero_le _, Nat.le_succ_of_le h3, fun _ => hl⟩
        · exact ⟨h1, Nat.zero_le _, by simp; exact h3, fun _ => hl⟩
      · exact ⟨h1, Nat.le_succ_of_le h2, Nat.le_succ_of_le h3, fun _ => hl⟩
    · split
      · exact ⟨h1, Nat.le_succ_of_le h2, Nat.le_succ_of_le h3, fun _ => hl⟩
      · split
        · split
          · exact ⟨h1, by simp; exact h2, Nat.le_succ_of_le h3, fun _ => hl⟩
          · exact ⟨h1, Nat.le_succ_of_le h2, Nat.le_succ_of_le h3, fun _ => hl⟩
        · split
          · exact ⟨h1, by simp; exact h2, Nat.le_succ_of_le h3, fun _ => hl⟩
          · exact ⟨h1, Nat.le_succ_of_le h2, Nat.le_succ_of_le h3, fun _ => hl⟩
theorem feedH_inv (l : B) : ∀ h : HS, InvH h → InvH (feedH h l) := by
  induction l with
  | nil => intro h hi; exact hi
  | cons c l ih =>
    intro h hi
    unfold feedH
    split
    · exact hi
    · exact ih _ (byteH_inv c hi)
theorem feedH_step {h : HS} {l : B} {j : Nat} {c : UInt8} (hc : l[j]? = some c) (he : endedH h = false) : feedH h (l.drop j) = feedH (byteH h c) (l.drop (j + 1)) ∧ feedHN h (l.drop j) = feedHN (byteH h c) (l.drop (j + 1)) + 1 := by
  have hlt : j < l.length := (List.getElem?_eq_some_iff.1 hc).1
  rw [List.getElem?_eq_getElem hlt] at hc
  obtain rfl := Option.some.inj hc
  rw [List.drop_eq_getElem_cons hlt]
  constructor
  · rw [feedH, if_neg (by rw [he]; simp)]
  · rw [feedHN, if_neg (by rw [he]; simp)]
end Go.Proofs.YtfmkkkkdfkjdlaaDoor
