/- The document's paths as they are meant, without dot segments. -/
import Derived.Test.YtbdbmlklijmefabDoorRSeg
namespace Go.Proofs.YtbdbmlklijmefabDoor
open Go.RowKit

theorem strCells_str (s : B) : Lib.strCells (str s) = Lib.byteCells s := by
  simp [Lib.strCells, Lib.byteCells]
theorem OwnS.cap {w : World} {base n c : Nat} {p : Option Addr} {ns : List B} (h : OwnS w base (.slice p n c) ns) : n ≤ c := by
  rcases h.2 with ⟨h1, h2⟩ | ⟨g, cap, cur, h1, h2, h3, h4, _⟩
  · cases h1; exact Nat.le_refl _
  · cases h1; exact h4
theorem OwnS.at {w : World} {base n c j : Nat} {p : Option Addr} {ns : List B} {t : B} (h : OwnS w base (.slice p n c) ns) (hj : ns[j]? = some t) : ∃ g o, p = some ⟨g, o, none⟩ ∧ w.cell? ⟨g, o + j, none⟩ = some (.string (str t)) := by
  have hlt : j < ns.length := (List.getElem?_eq_some_iff.1 hj).1
  rcases h.2 with ⟨h1, h2⟩ | ⟨g, cap, cur, h1, h2, h3, h4, _, h6, h7⟩
  · omega
  · refine ⟨g, 0, by cases h1; rfl, ?_⟩
    have e : (cur.toList.take (ns.length * 1))[j]? = some (.string (str t)) := by
      rw [h7]
      simp [strC, hj]
    rw [List.getElem?_take, if_pos (by omega)] at e
    simp only [Nat.zero_add]
    simp only [World.cell?, h3]
    simpa using e
theorem OwnS.less {w : World} {base k c : Nat} {p : Option Addr} {ns : List B} {t : B} (h : OwnS w base (.slice p (k + 1) c) (ns ++ [t])) (hk : ns.length = k) : OwnS w base (.slice p k c) ns := by
  rcases h.2 with ⟨h1, h2⟩ | ⟨g, cap, cur, h1, h2, h3, h4, h5, h6, h7⟩
  · simp at h2
  · simp only [Value.slice.injEq] at h1
    obtain ⟨rfl, _, rfl⟩ := h1
    refine ⟨by simp [strC], .inr ⟨g, c, cur, by rw [hk], h2, h3, by simp at h4; omega, h5, h6, ?_⟩⟩
    have e : (cur.toList.take ((ns ++ [t]).length * 1)).take (ns.length * 1) = strC ns := by
      rw [h7]
      simp [strC]
    rw [List.take_take] at e
    rw [← e]
    congr 1
    simp
theorem meant_len : ∀ s : B, (meantB s).length ≤ s.length
  | [] => Nat.le_refl _
  | [_] => Nat.le_refl _
  | [_, _] => Nat.le_refl _
  | c :: a :: b :: r => by
    rw [meantB]
    split
    · have := meant_len (a :: b :: r)
      simp at this ⊢
      omega
    · have := meant_len r
      rename_i v _
      have h3 : (if unres v = true then [v] else codeB v).length ≤ 3 := by split <;> simp [codeB]
      rw [List.length_append]
      simp
      omega
theorem segs_join_len (s : B) : (joinS (segs s)).length ≤ s.length := by
  obtain ⟨a, _, h⟩ := join_segs s
  conv => rhs; rw [h]
  simp
theorem join_drop : ∀ l : List B, (joinS l.dropLast).length ≤ (joinS l).length := by
  intro l
  rcases List.eq_nil_or_concat l with rfl | ⟨a, b, rfl⟩
  · simp
  · simp [join_app]
theorem dots_len : ∀ (L out o : List B), dotsL L out = some o → (joinS o).length ≤ (joinS out).length + (joinS L).length
  | [], out, o, h => by simp [dotsL] at h; subst h; simp
  | t :: r, out, o, h => by
    have ej : (joinS (t :: r)).length = t.length + 1 + (joinS r).length := by simp [joinS]; omega
    have hd := join_drop out
    rw [dotsL] at h
    split at h
    · split at h
      · cases h
        rw [join_app, List.length_append, ej]
        simp [joinS]
        omega
      · have := dots_len r _ _ h
        omega
    · split at h
      · split at h
        · cases h
        · split at h
          · cases h
            rw [join_app, List.length_append, ej]
            simp [joinS] at hd ⊢
            omega
          · have := dots_len r _ _ h
            omega
      · have := dots_len r _ _ h
        rw [join_app, List.length_append] at this
        have e2 : (joinS [t]).length = t.length + 1 := by simp [joinS]
        omega
theorem dots_one {r out : List B} : dotsL ([46] :: r) out = dotsL r (if r = [] then out ++ [[]] else out) := by
  rw [dotsL, if_pos rfl]
  split
  · next h => rw [h]; rfl
  · rfl
theorem dots_nil2 {r : List B} : dotsL ([46, 46] :: r) [] = none := by
  rw [dotsL, if_neg (by decide), if_pos rfl, if_pos rfl]
theorem dots_two {r out : List B} {x : B} : dotsL ([46, 46] :: r) (out ++ [x]) = dotsL r (if r = [] then out ++ [[]] else out) := by
  rw [dotsL, if_neg (by decide), if_pos rfl, if_neg (by simp), List.dropLast_concat]
  split
  · next h => rw [h]; rfl
  · rfl
theorem dots_else {r out : List B} {t : B} (h1 : t ≠ [46]) (h2 : t ≠ [46, 46]) : dotsL (t :: r) out = dotsL r (out ++ [t]) := by rw [dotsL, if_neg h1, if_neg h2]
end Go.Proofs.YtbdbmlklijmefabDoor
