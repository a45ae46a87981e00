/- The document's reader of chunked bodies: a trailer's line that ends. -/
import Derived.Test.YtnlmjlfoeodleaaGreatDoorDAdd
import Derived.Test.YtnlmjlfoeodleaaGreatDoorKSl
namespace Go.Proofs.YtnlmjlfoeodleaaGreatDoor
open Go.RowKit

theorem conv_arg {W : World} {q : Option Addr} {X : B} {k d : Nat} (ha : ArgAt W q X) (hk : X.length = k) : (convert 32 9 (.slice q k d)).run Tryz.prog W = .ok (.string (str X)) W := by
  cases q with
  | none =>
    have hX : X = [] := by
      cases X with
      | nil => rfl
      | cons y r => obtain ⟨_, _, e, _⟩ := ha 0 y rfl; cases e
    subst hX
    exact run_convert_bytes_nil W 32 5 Tryz.underlying32 Tryz.underlying5 k d 9 Tryz.underlying9
  | some ad =>
    subst hk
    refine run_convert_bytes_back W 32 9 5 ad d X Tryz.underlying32 Tryz.underlying5 Tryz.underlying9 (fun j hj => ?_)
    obtain ⟨g, o, e, hc⟩ := ha j X[j] (List.getElem?_eq_getElem hj)
    obtain rfl := Option.some.inj e
    rw [show (⟨g, o, none⟩ : Addr).add j = ⟨g, o + j, none⟩ by unfold Addr.add; split <;> simp_all]
    exact hc
theorem exec_sl {a : Act} {o : Oper} (x : Operand) (lo hi : Option Operand) (ho : o.op = .slice 32 x lo hi none) (xv v : Value) (lv hv : Option Value) (hx : a.eval x = xv) (hl : lo.map a.eval = lv) (hh : hi.map a.eval = hv)
    (hr : ∀ W, (Instr.sliceAt 32 xv lv hv none).run Tryz.prog W = .ok v W) (w : World) : (execOp a.eval o).run Tryz.prog w = .ok (.value v) w := by
  unfold execOp
  simp only [ho, Option.map_none, hx, hl, hh, Sem.run_bind, hr, Result.andThen_ok]
  rfl
theorem exec_cv {a : Act} {o : Oper} (x : Operand) (ho : o.op = .convert 32 9 x) (xv v : Value) (hx : a.eval x = xv) (w : World) (hr : (convert 32 9 xv).run Tryz.prog w = .ok v w) : (execOp a.eval o).run Tryz.prog w = .ok (.value v) w := by
  unfold execOp
  simp only [ho, hx, Sem.run_bind, hr, Result.andThen_ok]
  rfl
theorem wpAnyD_twoD {P : Program} {ops : Array Oper} {Q : Exit → Act → World → Prop} {md : Region.Mode} {S : World → Prop} {D : Nat → Bool} {i j : Nat} {oi oj : Oper} {fuel : Nat} {listed : Array Bool} {a : Act} {w : World} (hr : Region.ready md ops listed = [i, j]) (hoi : ops[i]? = some oi) (hoj : ops[j]? = some oj)
    (h1 : ∀ K' : Act → World → Prop, (∀ a w, ((D i = false → S w) ∧ wpAnyD P md ops Q S D fuel (listed.setIfInBounds i true) a w) → K' a w) → if Region.wanted oi (yielded ops a.tmps) = true then Oper.wp P oi a w K' Q else K' (a.put oi.dst undef) w)
    (h2 : ∀ K' : Act → World → Prop, (∀ a w, ((D j = false → S w) ∧ wpAnyD P md ops Q S D fuel (listed.setIfInBounds j true) a w) → K' a w) → if Region.wanted oj (yielded ops a.tmps) = true then Oper.wp P oj a w K' Q else K' (a.put oj.dst undef) w) :
    wpAnyD P md ops Q S D (fuel + 1) listed a w := by
  refine ⟨fun h0 => (by rw [hr] at h0; cases h0), fun k hk => ?_⟩
  rw [hr] at hk
  simp only [List.mem_cons, List.not_mem_nil, or_false] at hk
  rcases hk with rfl | rfl
  · exact wpOp_step hoi h1
  · exact wpOp_step hoj h2
/-- What the line's end reads. -/
structure RdTd (U : World) (g : Nat) (v : Value) (lp : Option Addr) (line : B) : Prop where
  c7 : U.cell? ⟨g, 7, none⟩ = some v
  arg : ArgAt U lp line
theorem cut_split {l : B} (h : (cutF 58 l).2.2 = true) : l = (cutF 58 l).1 ++ 58 :: (cutF 58 l).2.1 := by
  induction l with
  | nil => simp [cutF] at h
  | cons y r ih =>
    unfold cutF at h ⊢
    by_cases hy : y = 58
    · simp [hy]
    · simp only [hy] at h ⊢
      simp at h ⊢
      exact ih h
theorem fat_cells {w : World} {ad : Addr} {L : List (B × B)} (h : FAt w (some ad) L) : ∀ j u, (fldC L)[j]? = some u → w.cell? (ad.add j) = some u := by
  intro j u hj
  have hlt : j < L.length * 2 := by rw [← fldC_len]; exact (List.getElem?_eq_some_iff.1 hj).1
  have hj2 : j / 2 < L.length := by omega
  obtain ⟨g, o, e, h1, h2⟩ := h (j / 2) L[j / 2] (List.getElem?_eq_getElem hj2)
  obtain rfl := Option.some.inj e
  obtain ⟨k1, k2⟩ := fldC_at L (j / 2) L[j / 2] (List.getElem?_eq_getElem hj2)
  rw [show (⟨g, o, none⟩ : Addr).add j = ⟨g, o + j, none⟩ by unfold Addr.add; split <;> simp_all]
  rcases Nat.mod_two_eq_zero_or_one j with h0 | h0
  · rw [show 2 * (j / 2) = j by omega] at k1
    rw [k1] at hj
    rw [← Option.some.inj hj, show o + j = o + j / 2 * 2 by omega]
    exact h1
  · rw [show 2 * (j / 2) + 1 = j by omega] at k2
    rw [k2] at hj
    rw [← Option.some.inj hj, show o + j = o + j / 2 * 2 + 1 by omega]
    exact h2
/-- A copy of fields that were handed in. -/
theorem wpList_copyF {w : World} {ops : Array Oper} {rest : List Oper} {o : Oper} {a : Act} {Q : Exit → Act → World → Prop} (hgd : o.guard = none) (s x : Operand)
    (ho : o.op = .call { callee := .builtin .append, args := #[s, x], argTypes := #[33, 33] }) (hs : a.eval s = .slice none 0 0) (L : List (B × B)) (p : Option Addr) (n c : Nat) (hx : a.eval x = .slice p n c) (hn : L.length = n) (hA : FAt w p L) (hp : p = none → c = 0) (hl : n ≤ 1048576)
    (h : ∀ q d w', OwnF w' w.heap.size (.slice q n d) L → Below w.heap.size w w' → wpList Tryz.prog ops Q rest (a.put o.dst (.slice q n d)) w') : wpList Tryz.prog ops Q (o :: rest) a w := by
  obtain ⟨i0, hi0, hz0, hz1, hz2⟩ := info_parts infoF
  cases p with
  | none =>
    have hL : L = [] := by
      cases L with
      | nil => rfl
      | cons y r => obtain ⟨_, _, e, _⟩ := hA 0 y rfl; cases e
    subst hL
    obtain rfl : n = 0 := by simpa using hn.symm
    obtain rfl := hp rfl
    exact wpList_append_own_none hgd s x 33 ho w.heap.size 88 i0 2 Tryz.underlying33 hi0 (.slice none 0 0) 0 [] hs ⟨rfl, .inl ⟨rfl, rfl⟩⟩ hx (h none 0 w (OwnF.nil _ _) (Below.refl _ _))
  | some ad =>
    refine wpList_append_own_at w hgd s x 33 ho w.heap.size 88 i0 _ 2 32 Tryz.underlying33 hi0 hz0 hz1 hz2 rfl (by decide) (.slice none 0 0) 0 [] hs ⟨rfl, .inl ⟨rfl, rfl⟩⟩ ad n c (fldC L) hx (by rw [fldC_len, hn]) (fat_cells hA) (fldC_one L) (by unfold maxLen; omega) (by omega) (Nat.le_refl _) ?_
    intro v' w' hown hgr _ _
    rw [Nat.zero_add, List.nil_append] at hown
    obtain ⟨q, d, rfl⟩ := own_slice hown
    exact h q d w' (by unfold OwnF; rw [hn]; exact hown) ⟨hgr.os, hgr.tape, hgr.output, hgr.size, fun k hk => hgr.block k hk (by simp [Value.ownBlock])⟩
end Go.Proofs.YtnlmjlfoeodleaaGreatDoor
