/- A whole body; the law's small functions. -/
import Derived.Test.YtllbdpiihiohoaaDoorKLast
import Derived.Laws.AppendOwnNone
namespace Go.Proofs.YtllbdpiihiohoaaDoor
open Go.RowKit

theorem FedG.below {F G : Nat → Prop} {w w' : World} {g N : Nat} {s : KS} {l : B} {v : Value} (h : FedG F w w' g s l G v) (hF : ∀ k, F k → N ≤ k) (hN : N ≤ w.heap.size) : Below N w w' := h.only.below hF hN
theorem feed_as {F : Nat → Prop} {w : World} {g : Nat} {s : KS} (h : RdAt F w g s) (hi : InvK s) (l : B) (p : Option Addr) (n c : Nat) (hn : l.length = n) (hnc : n ≤ c) (ha : ArgAt w p l) (hp : ArgOut F p l) (hl : n ≤ 281474976710656) {N M : Nat} {b : Bool} {E : Value} (h1 : feedN s l = N) (h2 : (feedB s l).length = M) (h3 : decide ((feedK s l).st = 11) = b) (h4 : errOf (feedK s l).err = E) :
    Calls Tryd.prog 29 #[.pointer (some ⟨g, 0, none⟩), .slice p n c] w fun e w' => ∃ q d G, e = .returned (.tuple #[.int .i64 (N : Int), .slice q M d, .bool b, E]) ∧ FedG F w w' g s l G (.slice q M d) := by
  refine (feed_any h hi l p n c hn hnc ha hp hl).mono ?_
  rintro e w' ⟨q, d, rfl, G, hG⟩
  subst h1 h2 h3 h4
  exact ⟨q, d, G, rfl, hG⟩
def wholeE (s : KS) : Nat := if s.err ≠ 0 then s.err else if s.st = 11 then 0 else 31
theorem assertE (v : Value) (w : World) : (Instr.typeAssert (.iface 47 v) 27 47 true).run Tryd.prog w = .ok (.tuple #[v, .bool true]) w := by kernel_rfl
/-- A copy of bytes that were handed in. -/
theorem wpList_copy {w : World} {ops : Array Oper} {rest : List Oper} {o : Oper} {a : Act} {Q : Exit → Act → World → Prop} (hgd : o.guard = none) (s x : Operand)
    (ho : o.op = .call { callee := .builtin .append, args := #[s, x], argTypes := #[24, 24] }) (hs : a.eval s = .slice none 0 0) (L : B) (p : Option Addr) (n c : Nat) (hx : a.eval x = .slice p n c) (hn : L.length = n) (hA : ArgAt w p L) (hp : p = none → c = 0) (hl : n ≤ 140737488355328)
    (h : ∀ q d w', Own w' w.heap.size (.slice q n d) L → Below w.heap.size w w' → (n = 0 → q = none ∧ d = 0) → (0 < n → ∃ g, q = some ⟨g, 0, none⟩) → wpList Tryd.prog ops Q rest (a.put o.dst (.slice q n d)) w') : wpList Tryd.prog ops Q (o :: rest) a w := by
  obtain ⟨i0, hi0, hz0, hz1, hz2⟩ := info_parts infoB
  cases p with
  | none =>
    have hL : L = [] := by
      cases L with
      | nil => rfl
      | cons y r => obtain ⟨_, _, e, _⟩ := hA 0 y rfl; cases e
    subst hL
    obtain rfl : n = 0 := by simpa using hn.symm
    obtain rfl := hp rfl
    exact wpList_append_own_none hgd s x 24 ho w.heap.size 5 i0 1 Tryd.underlying24 hi0 (.slice none 0 0) 0 [] hs ⟨rfl, .inl ⟨rfl, rfl⟩⟩ hx (h none 0 w (Own.nil _ _) (Below.refl _ _) (fun _ => ⟨rfl, rfl⟩) (fun h => absurd h (by omega)))
  | some ad =>
    refine wpList_append_own_at w hgd s x 24 ho w.heap.size 5 i0 _ 1 1 Tryd.underlying24 hi0 hz0 hz1 hz2 rfl (by decide) (.slice none 0 0) 0 [] hs ⟨rfl, .inl ⟨rfl, rfl⟩⟩ ad n c (Lib.byteCells L) hx (by simp [Lib.byteCells, hn]) (fun j u hj => ?_) (fun u hu => ?_) (by unfold maxLen; omega) (by omega) (Nat.le_refl _) ?_
    · unfold Lib.byteCells at hj
      rw [List.getElem?_map] at hj
      cases hy : L[j]? with
      | none => rw [hy] at hj; cases hj
      | some y =>
        rw [hy] at hj
        obtain rfl := Option.some.inj hj
        obtain ⟨g, o2, e, hc⟩ := hA j y hy
        obtain rfl := Option.some.inj e
        have : (⟨g, o2, none⟩ : Addr).add j = ⟨g, o2 + j, none⟩ := by unfold Addr.add; split <;> simp_all
        rw [this]
        exact hc
    · unfold Lib.byteCells at hu
      obtain ⟨c, _, rfl⟩ := List.mem_map.1 hu
      rfl
    · intro v' w' hown hgr hnil _
      rw [Nat.zero_add, List.nil_append] at hown
      have hsome : 0 < n → ∃ g cp, v' = .slice (some ⟨g, 0, none⟩) n cp := fun hp => by
        rcases hown.2 with ⟨_, h0⟩ | ⟨g, cap, cur, h1, _⟩
        · omega
        · exact ⟨g, cap, h1⟩
      obtain ⟨q, d, rfl⟩ := own_slice hown
      refine h q d w' (by unfold Own; rw [hn]; exact hown) (below_grown hgr) (fun h0 => ?_) (fun h0 => ?_)
      · have := hnil.2 ⟨rfl, h0⟩
        simp only [Value.slice.injEq] at this
        exact ⟨this.1, this.2.2⟩
      · obtain ⟨g, cp, e⟩ := hsome h0
        simp only [Value.slice.injEq] at e
        exact ⟨g, e.1⟩
structure RdL (U : World) (g o g' o' : Nat) (N V : ByteArray) : Prop where
  a0 : U.cell? ⟨g, o, none⟩ = some (.string N)
  a1 : U.cell? ⟨g, o + 1, none⟩ = some (.string V)
  b0 : U.cell? ⟨g', o', none⟩ = some (.string N)
  b1 : U.cell? ⟨g', o' + 1, none⟩ = some (.string V)
theorem OwnF.fat {w : World} {b n c : Nat} {p : Option Addr} {fs : List (B × B)} (h : OwnF w b (.slice p n c) fs) : FAt w p fs := fun j f hj => by
  obtain ⟨g, o, e, h1, h2⟩ := h.at hj
  exact ⟨g, o, e, by rw [Nat.mul_comm]; exact h1, by rw [Nat.mul_comm]; exact h2⟩
theorem const_arg (w : World) (C : Array Value) (L : B) (fr : Nat × Nat) (hC : C = (Lib.byteCells L).toArray) : ArgAt (w.alloc (.cells C 5 fr)) (some ⟨w.heap.size, 0, none⟩) L := by
  subst hC
  intro i y hi
  refine ⟨w.heap.size, 0, rfl, ?_⟩
  have h1 := heap_alloc_new w (.cells (Lib.byteCells L).toArray 5 fr)
  rw [Nat.zero_add]
  simp only [World.cell?, h1]
  simp [Lib.byteCells, hi]
def wkA : B := [51, 13, 10, 97, 98, 99, 13, 10, 48, 13, 10, 13, 10, 88]
def wkB : B := [51, 10, 97, 98, 99]
def wkH : B := [104, 101, 108, 108, 111]
theorem wk_a : (feedK (newK 10) wkA).err = 0 ∧ (feedK (newK 10) wkA).st = 11 ∧ feedB (newK 10) wkA = [97, 98, 99] ∧ (feedK (newK 10) wkA).tr = [] ∧ feedN (newK 10) wkA = 13 := by decide +kernel
theorem wk_b : (feedK (newK 10) wkB).err = 31 ∧ feedN (newK 10) wkB = 2 := by decide +kernel
theorem wk_h : encK wkH = [53, 13, 10, 104, 101, 108, 108, 111, 13, 10] := by decide +kernel
end Go.Proofs.YtllbdpiihiohoaaDoor
