/- The only value of a name; whether a list of it has an element; on both sides. -/
import Derived.Test.YthakldcfpndabaaDoorHVals
namespace Go.Proofs.YthakldcfpndabaaDoor
open Go.RowKit

def oneB (L : List ByteArray) : ByteArray × Nat := match L with | [] => (⟨#[]⟩, 8) | [x] => (x, 0) | _ => (⟨#[]⟩, 6)
def hasB (L : List ByteArray) (el : ByteArray) : Bool := L.any (fun v => (listS v).any (fun x => sameB x el))
theorem row_see {W : World} {b : Nat} {v : Value} {L : List ByteArray} (h : RowB W b v L) (n : Nat) (hn : L.length = n) : ∃ q d, v = .slice q n d ∧ ∀ j x, L[j]? = some x → ∃ g, q = some ⟨g, 0, none⟩ ∧ W.cell? ⟨g, j, none⟩ = some (.string x) := by
  unfold RowB at h
  by_cases h0 : 0 < L.length
  · obtain ⟨g, cap, e, hc⟩ := own_cellL h h0
    exact ⟨_, cap, by rw [e, hn], fun j x hj => ⟨g, rfl, hc j x hj⟩⟩
  · obtain ⟨q, d, e⟩ := own_slice h
    refine ⟨q, d, by rw [e, hn], fun j x hj => ?_⟩
    have := (List.getElem?_eq_some_iff.1 hj).1
    omega
theorem cutL_many : ∀ l : List UInt8, (cutL l).length ≤ l.length + 1
  | [] => by simp [cutL]
  | c :: l => by
    have ih := cutL_many l
    unfold cutL
    split
    · simp only [List.length_cons]; omega
    · split
      · simp
      · rename_i h; rw [h] at ih; simp only [List.length_cons] at ih ⊢; omega
theorem trimL_len (l : List UInt8) : (trimL l).length ≤ l.length := by
  unfold trimL
  rw [List.length_reverse]
  refine Nat.le_trans (List.dropWhile_suffix _).length_le ?_
  rw [List.length_reverse]
  exact (List.dropWhile_suffix _).length_le
theorem listS_many (s : ByteArray) : (listS s).length ≤ s.size + 1 := by
  unfold listS listL
  rw [List.length_map]
  refine Nat.le_trans (List.length_filter_le _ _) ?_
  rw [List.length_map]
  exact cutL_many _
theorem listS_small {s x : ByteArray} (h : x ∈ listS s) : x.size ≤ s.size := by
  unfold listS listL at h
  obtain ⟨l, hl, rfl⟩ := List.mem_map.1 h
  obtain ⟨l', hl', rfl⟩ := List.mem_map.1 (List.mem_filter.1 hl).1
  exact Nat.le_trans (trimL_len _) (cutL_len _ _ hl')
theorem vals_small {fs : List (B × B)} {nm x : ByteArray} (hz : szB fs) (h : x ∈ valsB fs nm) : x.size ≤ 1048576 := by
  unfold valsB at h
  obtain ⟨f, hf, rfl⟩ := List.mem_map.1 h
  rw [str_size]
  exact (hz f (List.mem_filter.1 hf).1).2
theorem any_next {α : Type} {L : List α} {f : α → Bool} {i : Nat} {x : α} (h : L[i]? = some x) (h1 : (L.take i).any f = false) (h2 : f x = false) : (L.take (i + 1)).any f = false := by
  rw [List.take_add_one, h, List.any_append, h1]
  simp [h2]
theorem any_here {α : Type} {L : List α} {f : α → Bool} {i : Nat} {x : α} (h : L[i]? = some x) (h2 : f x = true) : L.any f = true := List.any_eq_true.2 ⟨x, List.mem_of_getElem? h, h2⟩
end Go.Proofs.YthakldcfpndabaaDoor
