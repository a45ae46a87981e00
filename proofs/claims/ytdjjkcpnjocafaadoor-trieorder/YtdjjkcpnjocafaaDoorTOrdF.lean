/- Find, case by case. -/
import Derived.Test.YtdjjkcpnjocafaaDoorTOrdP
import Derived.Test.YtdjjkcpnjocafaaDoorTLFits
namespace Go.Proofs.YtdjjkcpnjocafaaDoor
open Go.RowKit

abbrev err8 : Value := .iface 71 (.int .i64 8)
theorem errOf8 : errOf 8 = err8 := rfl
section
variable {w : World} {t : Nat} {P : List (B × Int)} {M : Nat}
theorem find_f (h : ∃ G es v, Tr w t P M G es v) (hmx : MxAt w) (path : B) (hp : path.length ≤ 140737488355328) (hb : begB 47 path = false) : Calls Tryd.prog 13 #[.pointer (some ⟨t, 0, none⟩), .string (str path)] w fun e w' => e = .returned (.tuple #[.int .i64 0, .slice none 0 0, err3]) ∧ Below w.heap.size w w' := by
  obtain ⟨G, es, v, h⟩ := h
  refine (find_any h hmx path hp).mono ?_
  rintro e w' ⟨hbw, ⟨_, he⟩ | ⟨h1, _⟩ | ⟨h1, _⟩⟩
  · exact ⟨he, hbw⟩
  · rw [hb] at h1; cases h1
  · rw [hb] at h1; cases h1
theorem find_n (h : ∃ G es v, Tr w t P M G es v) (hmx : MxAt w) (path : B) (hp : path.length ≤ 140737488355328) (hb : begB 47 path = true) (hn : ∀ p ∈ P, fitsT (cutT p.1.tail) (cutT path.tail) = none) : Calls Tryd.prog 13 #[.pointer (some ⟨t, 0, none⟩), .string (str path)] w fun e w' => e = .returned (.tuple #[.int .i64 0, .slice none 0 0, err8]) ∧ Below w.heap.size w w' := by
  obtain ⟨G, es, v, h⟩ := h
  refine (find_any h hmx path hp).mono ?_
  rintro e w' ⟨hbw, ⟨h1, _⟩ | ⟨_, _, he⟩ | ⟨_, p, F, q, d, h2, h3, _⟩⟩
  · rw [hb] at h1; cases h1
  · exact ⟨he, hbw⟩
  · rw [hn p h2] at h3; cases h3
theorem find_y (h : ∃ G es v, Tr w t P M G es v) (hmx : MxAt w) (path : B) (hp : path.length ≤ 140737488355328) (hb : begB 47 path = true) {Q : List (B × Int)} (hPQ : ∀ x, x ∈ P ↔ x ∈ Q) {p : B × Int} {F : List (B × B)} {L : Nat} (hL : F.length = L) (hpQ : p ∈ Q) (hf : fitsT (cutT p.1.tail) (cutT path.tail) = some F)
    (bp : ∀ x ∈ Q, (fitsT (cutT x.1.tail) (cutT path.tail)).isSome = true → x = p ∨ betterT (cutT p.1.tail) (cutT x.1.tail) = true) : Calls Tryd.prog 13 #[.pointer (some ⟨t, 0, none⟩), .string (str path)] w fun e w' => Below w.heap.size w w' ∧ ∃ q d, e = .returned (.tuple #[.int .i64 p.2, .slice q L d, .nilIface]) ∧ FAt w' q F := by
  obtain ⟨G, es, v, h⟩ := h
  refine (find_any h hmx path hp).mono ?_
  rintro e w' ⟨hbw, ⟨h1, _⟩ | ⟨_, h1, _⟩ | ⟨_, p2, F2, q, d, h2, h3, h4, he, ho⟩⟩
  · rw [hb] at h1; cases h1
  · rw [h1 p ((hPQ p).2 hpQ)] at hf; cases hf
  · have e1 : p2 = p := found_same hPQ h2 hpQ (by rw [h3]; rfl) (by rw [hf]; rfl) h4 bp
    subst e1
    rw [hf] at h3
    injection h3 with h3
    subst h3
    rw [hL] at he ho
    exact ⟨hbw, q, d, he, ho.fat⟩
end
theorem idxP_rev {l : List B} (x : B × Int) : x ∈ idxP l ↔ x ∈ (idxP l).reverse := List.mem_reverse.symm
theorem fitsO_of {a path : B} (ha : checkP a = true) (hb : begB 47 path = true) : fitsO a path = some (fitsT (cutT a.tail) (cutT path.tail)) := by
  unfold fitsO
  rw [ha, hb]
  rfl
theorem fitsO_not {a path : B} (hb : begB 47 path = false) : fitsO a path = none := by
  unfold fitsO
  rw [hb, Bool.and_false]
  rfl
theorem beatsO_of {a b path : B} {F F2 : List (B × B)} (ha : fitsO a path = some (some F)) (hb : fitsO b path = some (some F2)) : beatsO a b path = (betterT (cutT a.tail) (cutT b.tail), 0) := by
  unfold beatsO
  rw [ha, hb]
theorem mx_ord {w0 w : World} (h : MxAt w0) (hb : Below w0.heap.size w0 w) : MxAt w := h.next hb
/-- Two texts of a row that are read. -/
structure TwoS (U : World) (g o i j : Nat) (X Y : ByteArray) : Prop where
  a0 : U.cell? ⟨g, o + i, none⟩ = some (.string X)
  a1 : U.cell? ⟨g, o + j, none⟩ = some (.string Y)
end Go.Proofs.YtdjjkcpnjocafaaDoor
