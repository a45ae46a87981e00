/- The words of a status, and the gateway's own responses: the program's. -/
import Derived.Test.YtnlmjlfoeodleaaGreatDoorWFns
namespace Go.Proofs.YtnlmjlfoeodleaaGreatDoor
open Go.RowKit

def reasonL : List (Int × B) → Int → B
  | [], _ => []
  | x :: l, s => if x.1 = s then x.2 else reasonL l s
def reasonT : List (Int × B) := [(200, [79, 75]), (400, [66, 97, 100, 32, 82, 101, 113, 117, 101, 115, 116]), (401, [85, 110, 97, 117, 116, 104, 111, 114, 105, 122, 101, 100]), (403, [70, 111, 114, 98, 105, 100, 100, 101, 110]), (404, [78, 111, 116, 32, 70, 111, 117, 110, 100]), (413, [67, 111, 110, 116, 101, 110, 116, 32, 84, 111, 111, 32, 76, 97, 114, 103, 101]), (417, [69, 120, 112, 101, 99, 116, 97, 116, 105, 111, 110, 32, 70, 97, 105, 108, 101, 100]), (429, [84, 111, 111, 32, 77, 97, 110, 121, 32, 82, 101, 113, 117, 101, 115, 116, 115]), (431, [82, 101, 113, 117, 101, 115, 116, 32, 72, 101, 97, 100, 101, 114, 32, 70, 105, 101, 108, 100, 115, 32, 84, 111, 111, 32, 76, 97, 114, 103, 101]), (502, [66, 97, 100, 32, 71, 97, 116, 101, 119, 97, 121]), (503, [83, 101, 114, 118, 105, 99, 101, 32, 85, 110, 97, 118, 97, 105, 108, 97, 98, 108, 101]), (504, [71, 97, 116, 101, 119, 97, 121, 32, 84, 105, 109, 101, 111, 117, 116])]
def reasonB (s : Int) : B := reasonL reasonT s
theorem reason_cases (s : Int) : s = 200 ∨ s = 400 ∨ s = 401 ∨ s = 403 ∨ s = 404 ∨ s = 413 ∨ s = 417 ∨ s = 429 ∨ s = 431 ∨ s = 502 ∨ s = 503 ∨ s = 504 ∨ (¬ s = 200 ∧ ¬ s = 400 ∧ ¬ s = 401 ∧ ¬ s = 403 ∧ ¬ s = 404 ∧ ¬ s = 413 ∧ ¬ s = 417 ∧ ¬ s = 429 ∧ ¬ s = 431 ∧ ¬ s = 502 ∧ ¬ s = 503 ∧ ¬ s = 504) := by omega
theorem reason_none {s : Int} (h : ¬ s = 200 ∧ ¬ s = 400 ∧ ¬ s = 401 ∧ ¬ s = 403 ∧ ¬ s = 404 ∧ ¬ s = 413 ∧ ¬ s = 417 ∧ ¬ s = 429 ∧ ¬ s = 431 ∧ ¬ s = 502 ∧ ¬ s = 503 ∧ ¬ s = 504) : reasonB s = [] := by
  obtain ⟨h0, h1, h2, h3, h4, h5, h6, h7, h8, h9, h10, h11⟩ := h
  have q : ∀ {a b : Int}, ¬ b = a → ¬ a = b := fun h e => h e.symm
  simp only [reasonB, reasonT, reasonL, q h0, q h1, q h2, q h3, q h4, q h5, q h6, q h7, q h8, q h9, q h10, q h11, if_false]
def locB (s k : Int) : Bool := decide (s ≠ 200) && decide (reasonB s ≠ []) && minB k
theorem reason_bounds {s : Int} (h : reasonB s ≠ []) : (∃ n : Nat, s = (n : Int) ∧ 100 ≤ n ∧ n ≤ 999) ∧ (reasonB s).length ≤ 31 := by
  rcases reason_cases s with rfl | rfl | rfl | rfl | rfl | rfl | rfl | rfl | rfl | rfl | rfl | rfl | h2
  · exact ⟨⟨200, rfl, by omega, by omega⟩, by decide⟩
  · exact ⟨⟨400, rfl, by omega, by omega⟩, by decide⟩
  · exact ⟨⟨401, rfl, by omega, by omega⟩, by decide⟩
  · exact ⟨⟨403, rfl, by omega, by omega⟩, by decide⟩
  · exact ⟨⟨404, rfl, by omega, by omega⟩, by decide⟩
  · exact ⟨⟨413, rfl, by omega, by omega⟩, by decide⟩
  · exact ⟨⟨417, rfl, by omega, by omega⟩, by decide⟩
  · exact ⟨⟨429, rfl, by omega, by omega⟩, by decide⟩
  · exact ⟨⟨431, rfl, by omega, by omega⟩, by decide⟩
  · exact ⟨⟨502, rfl, by omega, by omega⟩, by decide⟩
  · exact ⟨⟨503, rfl, by omega, by omega⟩, by decide⟩
  · exact ⟨⟨504, rfl, by omega, by omega⟩, by decide⟩
  · exact absurd (reason_none h2) h
theorem str_empty {t : B} (h : t ≠ []) : ((str t).toList == []) = false ∧ (str t).toList.isEmpty = false := by
  have e : (str t).toList = t := by rw [ByteArray.toList_eq]
  rw [e]
  exact ⟨by simpa using h, by simpa using h⟩
def bodyL (s : Int) : B := told 10 s.toNat ++ 32 :: (reasonB s ++ [10])
def ctB : B := [67, 111, 110, 116, 101, 110, 116, 45, 84, 121, 112, 101]
def tpB : B := [116, 101, 120, 116, 47, 112, 108, 97, 105, 110]
def clBw : B := [67, 111, 110, 116, 101, 110, 116, 45, 76, 101, 110, 103, 116, 104]
def cnB : B := [67, 111, 110, 110, 101, 99, 116, 105, 111, 110]
def coB : B := [99, 108, 111, 115, 101]
def fldL (s : Int) (last : Bool) : List (B × B) := [(ctB, tpB), (clBw, told 10 (bodyL s).length)] ++ (if last then [(cnB, coB)] else [])
/-- A text as bytes of its own. -/
theorem bytes_of (s : B) (w : World) : ∃ c W, (convert 9 32 (.string (str s))).run Tryz.prog w = .ok (.slice (some ⟨w.heap.size, 0, none⟩) s.length c) W ∧ ArgAt W (some ⟨w.heap.size, 0, none⟩) s ∧ Below w.heap.size w W ∧ W.heap.size = w.heap.size + 1 := by
  have h := run_bytes_of_string (P := Tryz.prog) w 9 32 5 (str s) Tryz.underlying9 Tryz.underlying32 Tryz.underlying5
  rw [str_size] at h
  refine ⟨_, _, h, fun i y hi => ⟨_, _, rfl, ?_⟩, ?_, by simp⟩
  · rw [Nat.zero_add]
    have h1 : w.drew.heap.size = w.heap.size := rfl
    have h2 := heap_alloc_new w.drew (.cells (bytesRow (str s) (grownCap w s.length 0 5)) 5 ((bytesRow (str s) (grownCap w s.length 0 5)).size, (bytesRow (str s) (grownCap w s.length 0 5)).size + 1))
    rw [h1] at h2
    simp only [World.cell?, h2]
    have hlt := (List.getElem?_eq_some_iff.1 hi).1
    unfold bytesRow
    simp [Array.getElem?_append, hlt]
    rw [Option.some.inj ((List.getElem?_eq_getElem hlt).symm.trans hi)]
  · exact (Below.refl _ w).drew.alloc (Nat.le_refl _) _
theorem conv_arg {w : World} {g c : Nat} {l : B} (h : ArgAt w (some ⟨g, 0, none⟩) l) : (convert 32 9 (.slice (some ⟨g, 0, none⟩) l.length c)).run Tryz.prog w = .ok (.string (str l)) w := by
  refine run_convert_bytes_back (P := Tryz.prog) w 32 9 5 ⟨g, 0, none⟩ c l Tryz.underlying32 Tryz.underlying5 Tryz.underlying9 (fun j hj => ?_)
  obtain ⟨g', o', e, hc⟩ := h j _ (List.getElem?_eq_getElem hj)
  rw [add_off]
  cases e
  rwa [Nat.zero_add] at hc
theorem fldC_two (a b : B × B) : fldC [a, b] = [.string (str a.1), .string (str a.2), .string (str b.1), .string (str b.2)] := rfl
theorem fldC_uno (a : B × B) : fldC [a] = [.string (str a.1), .string (str a.2)] := rfl
theorem own_two (w : World) (a b : B × B) (base : Nat) (hb : base ≤ w.heap.size) : OwnF (w.alloc (.cells #[.string (str a.1), .string (str a.2), .string (str b.1), .string (str b.2)] 88 (0, 0))) base (.slice (some ⟨w.heap.size, 0, none⟩) 2 2) [a, b] :=
  ⟨rfl, .inr ⟨w.heap.size, 2, _, rfl, hb, heap_alloc_new w _, Nat.le_refl _, by unfold maxLen; decide, rfl, rfl⟩⟩
/-- A response's block, kept. -/
structure RespAt (w W : World) (c0 c1 c2 c3 : Value) : Prop where
  low : Below w.heap.size w W
  blk : W.heap[w.heap.size]? = some (.cells #[c0, c1, c2, c3] 62 (0, 0))
theorem RespAt.next {w W W' : World} {c0 c1 c2 c3 : Value} (h : RespAt w W c0 c1 c2 c3) (hb : Below W.heap.size W W') : RespAt w W' c0 c1 c2 c3 := ⟨h.low.trans (hb.mono h.low.size), (hb.block _ (lt_of_heap h.blk)).trans h.blk⟩
theorem RespAt.next2 {w W W' : World} {N : Nat} {c0 c1 c2 c3 : Value} (h : RespAt w W c0 c1 c2 c3) (hN : w.heap.size < N) (hb : Below N W W') : RespAt w W' c0 c1 c2 c3 := ⟨h.low.trans (hb.mono (Nat.le_of_lt hN)), (hb.block _ hN).trans h.blk⟩
theorem argAt_low {g N : Nat} {W W' : World} {l : B} (h : ArgAt W (some ⟨g, 0, none⟩) l) (hb : Below N W W') (hg : g < N) : ArgAt W' (some ⟨g, 0, none⟩) l := by
  intro i y hi
  obtain ⟨g', o', e, hc⟩ := h i y hi
  exact ⟨g', o', e, (hb.cell (p := ⟨g', o' + i, none⟩) (by cases e; exact hg)).trans hc⟩
end Go.Proofs.YtnlmjlfoeodleaaGreatDoor
