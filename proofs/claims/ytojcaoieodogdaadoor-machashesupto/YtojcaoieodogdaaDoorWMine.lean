/- A slice of words of one's own, and a word appended to it. -/
import Derived.Test.YtojcaoieodogdaaDoorAppend
import Derived.Test.YtojcaoieodogdaaDoorOrder
namespace Go.Proofs.YtojcaoieodogdaaDoor
open Go.RowKit

/-- A new slice of the words l. -/
structure MineW (w w' : World) (pa : Option Addr) (cap : Nat) (l : List Int) : Prop where
  below : Below w.heap.size w w'
  fits : l.length ≤ cap
  most : cap ≤ maxLen
  nothing : pa = none → l = [] ∧ cap = 0
  row : ∀ a, pa = some a → ∃ b cur, a = ⟨b, 0, none⟩ ∧ w.heap.size ≤ b ∧ w'.heap[b]? = some (.cells cur 56 (0, 0)) ∧ cur.size = cap ∧ cur.toList.take l.length = l.map (Value.int .u32)
theorem info36 : (Tryd.prog.info? 56).map (fun i => (i.zero, i.size, i.bytes)) = some (some (.int .u32 0), 1, 4) := by kernel_rfl
theorem mineW_nil (w : World) : MineW w w none 0 [] := ⟨Below.refl _ _, Nat.le_refl _, Nat.zero_le _, fun _ => ⟨rfl, rfl⟩, fun a ha => by simp at ha⟩
theorem mineW_of {w w' : World} {v : Value} {l : List Int} (ho : w'.ownsRow w.heap.size 56 1 v l.length (l.map (Value.int .u32))) (hg : Below w.heap.size w w') :
    ∃ pa cap, v = .slice pa l.length cap ∧ MineW w w' pa cap l := by
  obtain ⟨_, h2⟩ := ho
  rcases h2 with ⟨rfl, h0⟩ | ⟨g, cap, cur, rfl, h3, h4, h5, h6, h7, h8⟩
  · obtain rfl : l = [] := List.eq_nil_of_length_eq_zero h0
    exact ⟨none, 0, rfl, hg, Nat.le_refl _, Nat.zero_le _, fun _ => ⟨rfl, rfl⟩, fun a ha => by simp at ha⟩
  · refine ⟨_, cap, rfl, hg, h5, h6, fun h => by simp at h, ?_⟩
    intro a ha
    simp only [Option.some.injEq] at ha
    exact ⟨g, cur, ha.symm, h3, h4, by simpa using h7, by simpa using h8⟩
theorem MineW.owns {w w' : World} {pa : Option Addr} {cap : Nat} {l : List Int} (h : MineW w w' pa cap l) : w'.ownsRow w.heap.size 56 1 (.slice pa l.length cap) l.length (l.map (Value.int .u32)) := by
  refine ⟨by simp, ?_⟩
  cases pa with
  | none => obtain ⟨rfl, rfl⟩ := h.nothing rfl; exact .inl ⟨rfl, rfl⟩
  | some a =>
    obtain ⟨b, cur, rfl, h1, h2, h3, h4⟩ := h.row a rfl
    exact .inr ⟨b, cap, cur, rfl, h1, h2, h.fits, h.most, by simpa using h3, by simpa using h4⟩
theorem MineW.cell {w w' : World} {pa : Option Addr} {cap : Nat} {l : List Int} (h : MineW w w' pa cap l) {k : Nat} (hk : k < l.length) : ∃ b, pa = some ⟨b, 0, none⟩ ∧ w.heap.size ≤ b ∧ w'.cell? ⟨b, k, none⟩ = some (.int .u32 (l[k]?.getD 0)) := by
  cases pa with
  | none => obtain ⟨rfl, _⟩ := h.nothing rfl; simp at hk
  | some a =>
    obtain ⟨b, cur, rfl, h1, h2, h3, h4⟩ := h.row a rfl
    refine ⟨b, rfl, h1, ?_⟩
    have e : (cur.toList.take l.length)[k]? = some (.int .u32 (l[k]?.getD 0)) := by rw [h4]; simp [hk]
    rw [List.getElem?_take, if_pos hk] at e
    simp only [World.cell?, h2]
    simpa using e
theorem MineW.next {w w' w2 : World} {pa : Option Addr} {cap : Nat} {l : List Int} (h : MineW w w' pa cap l) (hb : Below w'.heap.size w' w2) : MineW w w2 pa cap l := by
  refine ⟨h.below.trans (hb.mono h.below.size), h.fits, h.most, h.nothing, fun a ha => ?_⟩
  obtain ⟨b, cur, h0, h1, h2, h3⟩ := h.row a ha
  exact ⟨b, cur, h0, h1, (hb.block b (lt_of_heap h2)).trans h2, h3⟩
theorem MineW.drew {w w' : World} {pa : Option Addr} {cap : Nat} {l : List Int} (h : MineW w w' pa cap l) : MineW w w'.drew pa cap l := ⟨h.below.drew, h.fits, h.most, h.nothing, h.row⟩
theorem MineW.drewN {w w' : World} {pa : Option Addr} {cap : Nat} {l : List Int} (h : MineW w w' pa cap l) (n : Nat) : MineW w (w'.drewN n) pa cap l := ⟨below_drewN h.below n, h.fits, h.most, h.nothing, h.row⟩
/-- append(l, x), as a step of a region that draws its order: x lies in a block of its own. -/
theorem wp_append_word {o : Oper} {a : Act} {w0 w : World} {K : Act → World → Prop} {Q : Exit → Act → World → Prop} (s x : Operand)
    (ho : o.op = .call { callee := .builtin .append, args := #[s, x], argTypes := #[53, 53] })
    (pa : Option Addr) (N cap : Nat) (hs : a.eval s = .slice pa N cap) (l : List Int) (hN : l.length = N) (hm : MineW w0 w pa cap l) (b : Nat) (hx : a.eval x = .slice (some ⟨b, 0, none⟩) 1 1) (y : Int) (hv : w.cell? ⟨b, 0, none⟩ = some (.int .u32 y)) (hlen : N ≤ 1000)
    (h : ∀ pa' cap' w', MineW w0 w' pa' cap' (l ++ [y]) → K (a.put o.dst (.slice pa' (N + 1) cap')) w') : Oper.wp Tryd.prog o a w K Q := by
  subst hN
  obtain ⟨i, h2, h3, h4, h5⟩ := info_parts info36
  have hu : Tryd.prog.underlying 53 = some (.slice 56) := by kernel_rfl
  have hown := hm.owns
  have hsz := hm.below.size
  refine wp_append_own w s x 53 ho w0.heap.size 56 i (.int .u32 0) 1 4 hu h2 h3 h4 h5 rfl (by decide) _ _ _ hs hown ⟨b, 0, none⟩ 1 1 [.int .u32 y] hx rfl
    (by
      intro j u hj
      match j, hj with
      | 0, hj =>
        simp only [List.getElem?_cons_zero, Option.some.injEq] at hj
        subst hj
        have hplain : (⟨b, 0, none⟩ : Addr).add 0 = ⟨b, 0, none⟩ := by unfold Addr.add; split <;> simp_all
        rw [hplain]
        exact hv) (fun u hu => by simp only [List.mem_singleton] at hu; subst hu; rfl) (by unfold maxLen; omega) (by omega) hsz ?_
  intro v' w' hown' hgrow _
  have hb : Below w0.heap.size w0 w' := hm.below.grown hgrow hsz (fun k hk => (hown.lt k hk).1)
  have e : l.map (Value.int .u32) ++ [Value.int .u32 y] = (l ++ [y]).map (Value.int .u32) := by simp
  rw [e, show l.length + 1 = (l ++ [y]).length by simp] at hown'
  obtain ⟨pa', cap', rfl, hm'⟩ := mineW_of hown' hb
  have := h pa' cap' w' hm'
  rwa [show l.length + 1 = (l ++ [y]).length by simp] at this
theorem step_append_word {ops : Array Oper} {o : Oper} {a : Act} {w0 w : World} {K : Act → World → Prop} {Q : Exit → Act → World → Prop} {E : Prop} (hgd : o.guard = none) (s x : Operand)
    (ho : o.op = .call { callee := .builtin .append, args := #[s, x], argTypes := #[53, 53] })
    (pa : Option Addr) (N cap : Nat) (hs : a.eval s = .slice pa N cap) (l : List Int) (hN : l.length = N) (hm : MineW w0 w pa cap l) (b : Nat) (hx : a.eval x = .slice (some ⟨b, 0, none⟩) 1 1) (y : Int) (hv : w.cell? ⟨b, 0, none⟩ = some (.int .u32 y)) (hlen : N ≤ 1000)
    (h : ∀ pa' cap' w', MineW w0 w' pa' cap' (l ++ [y]) → K (a.put o.dst (.slice pa' (N + 1) cap')) w') : if Region.wanted o (yielded ops a.tmps) = true then Oper.wp Tryd.prog o a w K Q else E := by
  rw [if_pos (by simp [Region.wanted, hgd])]
  exact wp_append_word s x ho pa N cap hs l hN hm b hx y hv hlen h
theorem wpList_append_word {ops : Array Oper} {rest : List Oper} {o : Oper} {a : Act} {w0 w : World} {Q : Exit → Act → World → Prop} (hgd : o.guard = none) (s x : Operand)
    (ho : o.op = .call { callee := .builtin .append, args := #[s, x], argTypes := #[53, 53] })
    (pa : Option Addr) (N cap : Nat) (hs : a.eval s = .slice pa N cap) (l : List Int) (hN : l.length = N) (hm : MineW w0 w pa cap l) (b : Nat) (hx : a.eval x = .slice (some ⟨b, 0, none⟩) 1 1) (y : Int) (hv : w.cell? ⟨b, 0, none⟩ = some (.int .u32 y)) (hlen : N ≤ 1000)
    (h : ∀ pa' cap' w', MineW w0 w' pa' cap' (l ++ [y]) → wpList Tryd.prog ops Q rest (a.put o.dst (.slice pa' (N + 1) cap')) w') : wpList Tryd.prog ops Q (o :: rest) a w :=
  wpList_plain hgd fun _ hK => wp_append_word s x ho pa N cap hs l hN hm b hx y hv hlen fun pa' cap' w' hm' => hK _ _ (h pa' cap' w' hm')
/-- One of two may come up. -/
theorem any_two {P : Program} {md : Region.Mode} {ops : Array Oper} {Q : Exit → Act → World → Prop} {i j : Nat} {oi oj : Oper} {fuel : Nat} {listed : Array Bool} {a : Act} {w : World} (hr : Region.ready md ops listed = [i, j]) (hi : ops[i]? = some oi) (hj : ops[j]? = some oj)
    (h1 : ∀ K' : Act → World → Prop, (∀ a w, wpAny P md ops Q fuel (listed.setIfInBounds i true) a w → K' a w) → if Region.wanted oi (yielded ops a.tmps) = true then Oper.wp P oi a w K' Q else K' (a.put oi.dst undef) w)
    (h2 : ∀ K' : Act → World → Prop, (∀ a w, wpAny P md ops Q fuel (listed.setIfInBounds j true) a w → K' a w) → if Region.wanted oj (yielded ops a.tmps) = true then Oper.wp P oj a w K' Q else K' (a.put oj.dst undef) w) :
    wpAny P md ops Q (fuel + 1) listed a w := by
  refine ⟨fun h0 => (by rw [hr] at h0; cases h0), fun k hk => ?_⟩
  rw [hr] at hk
  simp only [List.mem_cons, List.not_mem_nil, or_false] at hk
  rcases hk with rfl | rfl
  · exact wpOp_step hi h1
  · exact wpOp_step hj h2
end Go.Proofs.YtojcaoieodogdaaDoor
