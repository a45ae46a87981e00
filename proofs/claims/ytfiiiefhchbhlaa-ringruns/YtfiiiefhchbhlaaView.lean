/- What a ring holds, as a list: plain lists and numbers. -/
import Derived.Laws.CopyOwn
namespace Go.Proofs.Ytfiiiefhchbhlaa

def posn (S F i : Nat) : Nat := if F + i < S then F + i else F + i - S
def view (L : List Int) (F C : Nat) : List Int := ((L ++ L).drop F).take C

theorem posn_lt {S F i : Nat} (hF : F < S) (hi : i ≤ S) : posn S F i < S := by unfold posn; split <;> omega
theorem view_get (L : List Int) (F C i : Nat) (_hF : F < L.length) (_hC : C ≤ L.length) : (view L F C)[i]? = if i < C then L[posn L.length F i]? else none := by
  unfold view posn
  rw [List.getElem?_take]
  split
  · rw [List.getElem?_drop, List.getElem?_append]
    split
    · rfl
    · rfl
  · rfl
theorem view_length (L : List Int) (F C : Nat) (hF : F < L.length) (hC : C ≤ L.length) : (view L F C).length = C := by
  simp [view]; omega
theorem view_zero (L : List Int) (F : Nat) : view L F 0 = [] := by simp [view]
theorem view_at (L : List Int) (F C i : Nat) (hF : F < L.length) (hC : C ≤ L.length) (hi : i < C) : L.getD (posn L.length F i) 0 = (view L F C).getD i 0 := by
  simp only [List.getD]
  rw [view_get L F C i hF hC, if_pos hi]
theorem view_skip (L : List Int) (F C n : Nat) (hF : F < L.length) (hC : C ≤ L.length) (hn : n ≤ C) : view L (posn L.length F n) (C - n) = (view L F C).drop n := by
  apply List.ext_getElem?
  intro i
  have hp := posn_lt hF (show n ≤ L.length by omega)
  rw [List.getElem?_drop, view_get _ _ _ _ hp (by omega), view_get _ _ _ _ hF hC]
  by_cases h : i < C - n
  · rw [if_pos h, if_pos (by omega)]
    congr 1
    unfold posn
    split <;> split <;> (try split) <;> omega
  · rw [if_neg h, if_neg (by omega)]
theorem view_whole (L : List Int) (F C n : Nat) (hF : F < L.length) (_hC : C ≤ L.length) (hn : n ≤ C) :
    (L.drop F).take n ++ L.take (n - ((L.drop F).take n).length) = (view L F C).take n := by
  unfold view
  rw [List.take_take, Nat.min_eq_left hn, List.drop_append_of_le_length (by omega), List.take_append]
  congr 2
  simp; omega

theorem splice_get {α : Type} (L : List α) (off : Nat) (cs : List α) (h : off + cs.length ≤ L.length) (j : Nat) :
    (splice L off cs)[j]? = if j < off then L[j]? else if j < off + cs.length then cs[j - off]? else L[j]? := by
  unfold splice
  rw [List.getElem?_append]
  simp only [List.length_take]
  by_cases h1 : j < off
  · rw [if_pos (by omega), if_pos h1, List.getElem?_take, if_pos h1]
  · rw [if_neg (by omega), if_neg h1, List.getElem?_append]
    have e : min off L.length = off := by omega
    rw [e]
    by_cases h2 : j < off + cs.length
    · rw [if_pos (by omega), if_pos h2]
    · rw [if_neg (by omega), if_neg h2, List.getElem?_drop]
      congr 1; omega
theorem splice_map {α β : Type} (f : α → β) (L : List α) (off : Nat) (cs : List α) : splice (L.map f) off (cs.map f) = (splice L off cs).map f := by
  simp [splice, List.map_drop, List.map_take]
theorem splice_nil {α : Type} (L : List α) (off : Nat) : splice L off [] = L := by simp [splice]
theorem splice_all {α : Type} (L cs : List α) (h : L.length = cs.length) : splice L 0 cs = cs := by simp [splice, h]
theorem splice_two {α : Type} (Z X Y : List α) (h : Z.length = X.length + Y.length) : splice (splice Z 0 X) X.length Y = X ++ Y := by
  apply List.ext_getElem?
  intro j
  rw [splice_get _ _ _ (by rw [length_splice _ _ _ (by omega)]; omega), splice_get _ _ _ (by omega), List.getElem?_append]
  by_cases h1 : j < X.length
  · rw [if_pos h1, if_neg (by omega), if_pos (by omega), if_pos h1]; congr 1
  · rw [if_neg h1, if_neg h1]
    by_cases h2 : j < X.length + Y.length
    · rw [if_pos h2]
    · rw [if_neg h2, if_neg (by omega), if_neg (by omega), List.getElem?_eq_none (by omega), List.getElem?_eq_none (by omega)]

/-- The bytes behind a Write: first behind what is there, then from the room's head on. -/
def wrote (L : List Int) (F C : Nat) (b : List Int) : List Int :=
  splice (splice L (posn L.length F C) (b.take (L.length - posn L.length F C))) 0 (b.drop (L.length - posn L.length F C))
theorem wrote_length (L : List Int) (F C : Nat) (b : List Int) (hF : F < L.length) (hb : C + b.length ≤ L.length) : (wrote L F C b).length = L.length := by
  have hp := posn_lt hF (show C ≤ L.length by omega)
  have h1 : (splice L (posn L.length F C) (b.take (L.length - posn L.length F C))).length = L.length := length_splice _ _ _ (by simp; omega)
  unfold wrote
  rw [length_splice _ _ _ (by rw [h1]; simp; omega), h1]
theorem wrote_view (L : List Int) (F C : Nat) (b : List Int) (hF : F < L.length) (hb : C + b.length ≤ L.length) : view (wrote L F C b) F (C + b.length) = view L F C ++ b := by
  have hp := posn_lt hF (show C ≤ L.length by omega)
  have h1 : (splice L (posn L.length F C) (b.take (L.length - posn L.length F C))).length = L.length := length_splice _ _ _ (by simp; omega)
  have hw := wrote_length L F C b hF hb
  apply List.ext_getElem?
  intro i
  rw [view_get _ _ _ _ (by omega) (by omega), List.getElem?_append, view_length _ _ _ hF (by omega), view_get _ _ _ _ hF (by omega), hw]
  by_cases hi : i < C + b.length
  · rw [if_pos hi]
    unfold wrote
    rw [splice_get _ _ _ (by rw [h1]; simp; omega), splice_get _ _ _ (by simp; omega)]
    simp only [List.length_take, List.length_drop]
    by_cases hc : i < C
    · rw [if_pos hc, if_pos hc, if_neg (by omega)]
      have hpi : ¬ posn L.length F i < 0 + (b.length - (L.length - posn L.length F C)) ∧ ¬ (posn L.length F C ≤ posn L.length F i ∧ posn L.length F i < posn L.length F C + min (L.length - posn L.length F C) b.length) := by
        unfold posn; split <;> split <;> omega
      rw [if_neg hpi.1]
      by_cases h3 : posn L.length F i < posn L.length F C
      · rw [if_pos h3]
      · rw [if_neg h3, if_neg (by omega)]
    · rw [if_neg hc, if_neg (by omega)]
      by_cases h4 : i - C < L.length - posn L.length F C
      · have hpi : posn L.length F i = posn L.length F C + (i - C) ∧ ¬ posn L.length F i < 0 + (b.length - (L.length - posn L.length F C)) := by
          revert h4
          unfold posn; split <;> split <;> omega
        rw [if_neg hpi.2, if_neg (by omega), if_pos (by omega), List.getElem?_take, if_pos (by omega)]
        congr 1; omega
      · have hpi : posn L.length F i + (L.length - posn L.length F C) = i - C := by
          revert h4
          unfold posn; split <;> split <;> omega
        rw [if_pos (by omega), List.getElem?_drop]
        congr 1; omega
  · rw [if_neg hi, if_neg (by omega), List.getElem?_eq_none (by omega)]
end Go.Proofs.Ytfiiiefhchbhlaa
