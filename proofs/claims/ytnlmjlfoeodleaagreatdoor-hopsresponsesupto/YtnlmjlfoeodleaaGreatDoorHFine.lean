/- The document's own: fields that may stand in a head. -/
import Derived.Test.YtnlmjlfoeodleaaGreatDoorPRel
import Derived.Test.YtnlmjlfoeodleaaGreatDoorCTrim
namespace Go.Proofs.YtnlmjlfoeodleaaGreatDoor
open Go.RowKit

theorem late_skip {P : Program} {ops : Array Oper} {Q : Exit → Act → World → Prop} {md : Region.Mode} {S : World → Prop} {D : Nat → Bool} {i : Nat} {oi : Oper} {fuel : Nat} {listed : Array Bool} {a : Act} {w : World} (d : Option Tmp) (hi : ops[i]? = some oi) (hd : oi.dst = d)
    (hs : Region.noSelect ops = true) (hf : Region.free md ops listed i = true) (hr : (Region.ready md ops listed).contains i = true) (hD : lateB md ops D i = true) (hn : noneLateB D listed = true)
    (hQ : ∀ c a w, Q (.panic c) (a.put d undef) w → Q (.panic c) a w) (hw : Region.wanted oi (yielded ops a.tmps) = false) (hS : S w)
    (h : wpAnyD P md ops Q S D fuel (listed.setIfInBounds i true) (a.put d undef) w) : wpAnyD P md ops Q S D (fuel + 1) listed a w := by
  subst hd; exact wpAnyD_take hi hs hf hr hD hn hQ (Or.inr ⟨hw, rfl⟩) hS h
/-- A row of fields that is handed in. -/
def FAt (w : World) (p : Option Addr) (fs : List (B × B)) : Prop := ∀ j f, fs[j]? = some f → ∃ g o, p = some ⟨g, o, none⟩ ∧ w.cell? ⟨g, o + j * 2, none⟩ = some (.string (str f.1)) ∧ w.cell? ⟨g, o + j * 2 + 1, none⟩ = some (.string (str f.2))
theorem FAt.next {w w' : World} {p : Option Addr} {fs : List (B × B)} (h : FAt w p fs) (hb : Below w.heap.size w w') : FAt w' p fs := by
  intro j f hj
  obtain ⟨g, o, e, h1, h2⟩ := h j f hj
  exact ⟨g, o, e, cell_keep hb h1, cell_keep hb h2⟩
theorem OwnF.fat {w : World} {b n c : Nat} {p : Option Addr} {fs : List (B × B)} (h : OwnF w b (.slice p n c) fs) : FAt w p fs := by
  intro j f hj
  obtain ⟨g, o, e, h1, h2⟩ := h.at hj
  exact ⟨g, o, e, by rw [Nat.mul_comm]; exact h1, by rw [Nat.mul_comm]; exact h2⟩
def okF (f : B × B) : Bool := isTok (str f.1) && allB 2 f.2 && decide (trimL f.2 = f.2)
def fineB (fs : List (B × B)) : Bool := decide (fs.length ≤ 64) && fs.all okF
theorem isTok_str (n : B) : isTok (str n) = true ↔ n ≠ [] ∧ allB 0 n = true := by
  unfold isTok allTo
  rw [str_size]
  have e : (str n).data.toList.take n.length = n := by simp
  rw [e]
  unfold allB
  have e2 : (fun b : UInt8 => tokB (b.toNat : Int)) = clsB 0 := rfl
  rw [e2]
  simp
structure RdF (U : World) (g o : Nat) (N V : ByteArray) : Prop where
  a0 : U.cell? ⟨g, o, none⟩ = some (.string N)
  a1 : U.cell? ⟨g, o + 1, none⟩ = some (.string V)
theorem all_false {fs : List (B × B)} {i : Nat} {f : B × B} (h : fs[i]? = some f) (hf : okF f = false) : fs.all okF = false := by
  rw [List.all_eq_false]
  exact ⟨f, List.mem_of_getElem? h, by rw [hf]; simp⟩
end Go.Proofs.YtnlmjlfoeodleaaGreatDoor
