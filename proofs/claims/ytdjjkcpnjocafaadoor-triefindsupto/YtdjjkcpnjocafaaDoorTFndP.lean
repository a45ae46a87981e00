/- A trie and the document's row side by side. -/
import Derived.Test.YtdjjkcpnjocafaaDoorTRFind
namespace Go.Proofs.YtdjjkcpnjocafaaDoor
open Go.RowKit

def Fnd (w0 w : World) (t : Nat) (Pt Pr : List (B × Int)) (M : Nat) (vr : Value) : Prop :=
  ∃ X : Nat → Prop, TrX w X t Pt M ∧ OwnP w w0.heap.size vr Pr ∧ (∀ i, X i → w0.heap.size ≤ i ∧ i < w.heap.size ∧ vr.ownBlock ≠ some i) ∧ Below w0.heap.size w0 w
section
variable {w0 w w' : World} {t : Nat} {Pt Pr : List (B × Int)} {M : Nat} {vr : Value}
theorem Fnd.low (h : Fnd w0 w t Pt Pr M vr) : Below w0.heap.size w0 w := by
  obtain ⟨_, _, _, _, h⟩ := h
  exact h
theorem Fnd.row (h : Fnd w0 w t Pt Pr M vr) : OwnP w w0.heap.size vr Pr := by
  obtain ⟨_, _, h, _⟩ := h
  exact h
theorem Fnd.tr (h : Fnd w0 w t Pt Pr M vr) : ∃ G es v, Tr w t Pt M G es v := by
  obtain ⟨_, ⟨G, es, v, h, _⟩, _⟩ := h
  exact ⟨G, es, v, h⟩
theorem Fnd.next (h : Fnd w0 w t Pt Pr M vr) (hb : Below w.heap.size w w') : Fnd w0 w' t Pt Pr M vr := by
  obtain ⟨X, h1, h3, h4, h6⟩ := h
  exact ⟨X, h1.keep (fun i _ hl => hb.block i hl), h3.keep hb, fun i hi => ⟨(h4 i hi).1, Nat.lt_of_lt_of_le (h4 i hi).2.1 hb.size, (h4 i hi).2.2⟩, below_out h6 hb⟩
theorem Fnd.add (h : Fnd w0 w t Pt Pr M vr) (hmx : MxAt w) (hM : M + 64 < 1000000) (hP : Pt.length ≤ 1000000) (p : B) (hp : p.length ≤ 4398046511104) (id : Int) :
    Calls Tryd.prog 8 #[.pointer (some ⟨t, 0, none⟩), .string (str p), .int .i64 id] w fun e w' => e = .returned (errOf (addE Pt p)) ∧ Fnd w0 w' t (addP Pt p id) Pr (M + 64) vr := by
  obtain ⟨X, h1, h3, h4, h6⟩ := h
  refine (addX_any h1 hmx hM hP p hp id).mono ?_
  rintro e w' ⟨he, k1, k2⟩
  refine ⟨he, _, k1, h3.keepB (fun g e1 => k2.block g (h3.lt e1) (fun ha => (h4 g ha).2.2 e1)), fun i hi => ?_, h6.trans (k2.below h6.size (fun i hi => (h4 i hi).1))⟩
  rcases hi with hi | ⟨hi1, hi2⟩
  · exact ⟨(h4 i hi).1, Nat.lt_of_lt_of_le (h4 i hi).2.1 k2.size, (h4 i hi).2.2⟩
  · exact ⟨Nat.le_trans h6.size hi1, hi2, fun e1 => by have := h3.lt e1; omega⟩
/-- A new row of the document's. -/
theorem Fnd.turn {Pr' : List (B × Int)} {vr' : Value} (h : Fnd w0 w t Pt Pr M vr) (hb : Below w.heap.size w w') (ho : OwnP w' w.heap.size vr' Pr') : Fnd w0 w' t Pt Pr' M vr' := by
  obtain ⟨X, h1, h3, h4, h6⟩ := h
  exact ⟨X, h1.keep (fun i _ hl => hb.block i hl), ho.lower h6.size, fun i hi => ⟨(h4 i hi).1, Nat.lt_of_lt_of_le (h4 i hi).2.1 hb.size, fun e1 => by have h9 := own_ge ho e1; have h8 := (h4 i hi).2.1; omega⟩, below_out h6 hb⟩
theorem Fnd.start {w1 : World} (h1 : Tr w1 w0.heap.size [] 0 (G0 w0.heap.size) [] (.slice none 0 0)) (hb1 : Below w0.heap.size w0 w1) : Fnd w0 w1 w0.heap.size [] [] 0 (.slice none 0 0) := by
  have hlt := (h1.tree.node [] _ h1.root).2.lt
  refine ⟨fun i => i = w0.heap.size, ⟨_, _, _, h1, fun i hi => ft_new hi⟩, OwnR.nil _ _, fun i hi => ?_, hb1⟩
  subst hi
  exact ⟨Nat.le_refl _, hlt, by simp [Value.ownBlock]⟩
/-- The document's Add beside the program's. -/
theorem Fnd.radd {p : B} {id : Int} (h : Fnd w0 w t (addP Pr p id) Pr M vr) (hfine : ∀ x ∈ Pr, checkP x.1 = true) (hP : Pr.length ≤ 1000000) (hp : p.length ≤ 4398046511104) (pr : Option Addr) (n c : Nat) (hn : Pr.length = n) (hv : vr = .slice pr n c) :
    Calls Tryd.prog 9 #[.slice pr n c, .string (str p), .int .i64 id] w fun e w' => ∃ q m d, e = .returned (.tuple #[.slice q m d, .int .i64 (addE Pr p : Int)]) ∧ (addP Pr p id).length = m ∧ Fnd w0 w' t (addP Pr p id) (addP Pr p id) M (.slice q m d) := by
  subst hv
  refine (radd_any Pr hfine hP p hp id pr n c _ hn w h.row).mono ?_
  rintro e w' ⟨hb, ⟨h1, he⟩ | ⟨h1, q, d, he, ho⟩⟩
  · have e1 : addP Pr p id = Pr := by unfold addP; rw [if_neg h1]
    rw [e1] at h ⊢
    exact ⟨pr, n, c, he, hn, h.next hb⟩
  · have e1 : addP Pr p id = Pr ++ [(p, id)] := by unfold addP; rw [if_pos h1]
    rw [e1] at h ⊢
    refine ⟨q, Pr.length + 1, d, by rw [h1]; exact he, by simp, h.turn hb ho⟩
end
section
variable {w : World} {P : List (B × Int)} {base : Nat}
theorem rfind_f (hfine : ∀ x ∈ P, checkP x.1 = true) (hap : ∀ (i j : Nat) (p q : B × Int), P[i]? = some p → P[j]? = some q → keysP p.1 = keysP q.1 → i = j) (path : B) (hp : path.length ≤ 4294967280) (pr : Option Addr) (n c : Nat) (hn : P.length = n) (hnn : n ≤ 1000000) (hR : OwnP w base (.slice pr n c) P) (hb : begB 47 path = false) : Calls Tryd.prog 14 #[.slice pr n c, .string (str path)] w fun e w' => e = .returned (.tuple #[.int .i64 0, .slice none 0 0, .int .i64 3]) ∧ Below w.heap.size w w' := by
  refine (rfind_any P hfine hap path hp pr n c base hn hnn w hR).mono ?_
  rintro e w' ⟨hbw, ⟨_, he⟩ | ⟨h1, _⟩ | ⟨h1, _⟩⟩
  · exact ⟨he, hbw⟩
  · rw [hb] at h1; cases h1
  · rw [hb] at h1; cases h1
theorem rfind_n (hfine : ∀ x ∈ P, checkP x.1 = true) (hap : ∀ (i j : Nat) (p q : B × Int), P[i]? = some p → P[j]? = some q → keysP p.1 = keysP q.1 → i = j) (path : B) (hp : path.length ≤ 4294967280) (pr : Option Addr) (n c : Nat) (hn : P.length = n) (hnn : n ≤ 1000000) (hR : OwnP w base (.slice pr n c) P) (hb : begB 47 path = true) (hno : ∀ p ∈ P, fitsT (cutT p.1.tail) (cutT path.tail) = none) : Calls Tryd.prog 14 #[.slice pr n c, .string (str path)] w fun e w' => e = .returned (.tuple #[.int .i64 0, .slice none 0 0, .int .i64 8]) ∧ Below w.heap.size w w' := by
  refine (rfind_any P hfine hap path hp pr n c base hn hnn w hR).mono ?_
  rintro e w' ⟨hbw, ⟨h1, _⟩ | ⟨_, _, he⟩ | ⟨_, p, F, q, d, h2, h3, _⟩⟩
  · rw [hb] at h1; cases h1
  · exact ⟨he, hbw⟩
  · rw [hno p h2] at h3; cases h3
theorem rfind_y (hfine : ∀ x ∈ P, checkP x.1 = true) (hap : ∀ (i j : Nat) (p q : B × Int), P[i]? = some p → P[j]? = some q → keysP p.1 = keysP q.1 → i = j) (path : B) (hp : path.length ≤ 4294967280) (pr : Option Addr) (n c : Nat) (hn : P.length = n) (hnn : n ≤ 1000000) (hR : OwnP w base (.slice pr n c) P) (hb : begB 47 path = true) {p : B × Int} {F : List (B × B)} {L : Nat} (hL : F.length = L) (hpm : p ∈ P) (hf : fitsT (cutT p.1.tail) (cutT path.tail) = some F)
    (bp : ∀ x ∈ P, (fitsT (cutT x.1.tail) (cutT path.tail)).isSome = true → x = p ∨ betterT (cutT p.1.tail) (cutT x.1.tail) = true) : Calls Tryd.prog 14 #[.slice pr n c, .string (str path)] w fun e w' => Below w.heap.size w w' ∧ ∃ q d, e = .returned (.tuple #[.int .i64 p.2, .slice q L d, .int .i64 0]) ∧ FAt w' q F := by
  refine (rfind_any P hfine hap path hp pr n c base hn hnn w hR).mono ?_
  rintro e w' ⟨hbw, ⟨h1, _⟩ | ⟨_, h1, _⟩ | ⟨_, p2, F2, q, d, h2, h3, h4, he, ho⟩⟩
  · rw [hb] at h1; cases h1
  · rw [h1 p hpm] at hf; cases hf
  · have e1 : p2 = p := found_same (fun x => Iff.rfl) h2 hpm (by rw [h3]; rfl) (by rw [hf]; rfl) h4 bp
    subst e1
    rw [hf] at h3
    injection h3 with h3
    subst h3
    rw [hL] at he ho
    exact ⟨hbw, q, d, he, ho.fat⟩
end
/-- Which error Check tells. -/
def chkN (p : B) : Nat := if checkP p then 0 else 3
theorem chk_prog (p : B) (hp : p.length ≤ 4398046511104) (w : World) (hmx : MxAt w) : Calls Tryd.prog 11 #[.string (str p)] w fun e w' => e = .returned (errOf (chkN p)) ∧ Below w.heap.size w w' := by
  refine (check_any p hp w hmx).mono ?_
  rintro e w' ⟨he, hb⟩
  refine ⟨?_, hb⟩
  rw [he]
  unfold chkN
  split <;> rfl
theorem chk_doc (p : B) (hp : p.length ≤ 4398046511104) (w : World) : Calls Tryd.prog 12 #[.string (str p)] w fun e w' => e = .returned (.int .i64 (chkN p : Int)) ∧ Below w.heap.size w w' := by
  refine (rcheck_any p hp w).mono ?_
  rintro e w' ⟨he, hb⟩
  refine ⟨?_, hb⟩
  rw [he]
  unfold chkN
  split <;> rfl
/-- A pattern and its number that are read. -/
structure OneL (U : World) (g o i : Nat) (X : ByteArray) (D : Int) : Prop where
  a0 : U.cell? ⟨g, o + i * 2, none⟩ = some (.string X)
  a1 : U.cell? ⟨g, o + i * 2 + 1, none⟩ = some (.int .i64 D)
theorem addP_len (P : List (B × Int)) (p : B) (id : Int) : (addP P p id).length ≤ P.length + 1 := by
  unfold addP
  split <;> simp
end Go.Proofs.YtdjjkcpnjocafaaDoor
