/- Appends to rows of one's own, in a region that draws its order. -/
import Derived.Test.YtllbdpiihiohoaaDoorBLaw
import Derived.Test.YtllbdpiihiohoaaDoorKCut
namespace Go.Proofs.YtllbdpiihiohoaaDoor
open Go.RowKit

theorem wp_append_own_none {P : Program} {w : World} {o : Oper} {a : Act} {K : Act → World → Prop} {Q : Exit → Act → World → Prop} (s x : Operand) (t : TypeId)
    (ho : o.op = .call { callee := .builtin .append, args := #[s, x], argTypes := #[t, t] })
    (base : Nat) (e : TypeId) (i : TypeInfo) (size : Nat) (ht : P.underlying t = some (.slice e)) (hi : P.info? e = some i)
    (v : Value) (n : Nat) (xs : List Value) (hs : a.eval s = v) (hown : w.ownsRow base e size v n xs) (hx : a.eval x = .slice none 0 0)
    (h : K (a.put o.dst v) w) : o.wp P a w K Q := by
  have hrun := run_append_owned_none (P := P) (w := w) base t o.type e i size ht hi v n xs hown
  unfold Oper.wp
  simp [execOp, ho, resolve, invoke, builtin, hs, hx, hrun, Result.andThen]
  exact h
/-- Bytes of any slice laid behind a row of one's own. -/
theorem wp_append_any {w : World} {o : Oper} {a : Act} {K : Act → World → Prop} {Q : Exit → Act → World → Prop} (s x : Operand)
    (ho : o.op = .call { callee := .builtin .append, args := #[s, x], argTypes := #[24, 24] }) (base : Nat) (v : Value) (n : Nat) (acc L : B) (hs : a.eval s = v) (hown : Own w base v acc) (hacc : acc.length = n) (p : Option Addr) (m c : Nat) (hx : a.eval x = .slice p m c) (hm : L.length = m) (hA : ArgAt w p L) (hp : p = none → c = 0) (hl : n + m ≤ 140737488355328) (hbase : base ≤ w.heap.size)
    (h : ∀ q d w', Own w' base (.slice q (n + m) d) (acc ++ L) → w.grownBy w' v.ownBlock → ((Value.slice q (n + m) d).ownBlock = v.ownBlock ∨ (Value.slice q (n + m) d).ownBlock = some w.heap.size) → K (a.put o.dst (.slice q (n + m) d)) w') : o.wp Tryd.prog a w K Q := by
  obtain ⟨i0, hi0, hz0, hz1, hz2⟩ := info_parts infoB
  cases p with
  | none =>
    have hL : L = [] := by
      cases L with
      | nil => rfl
      | cons y r => obtain ⟨_, _, e, _⟩ := hA 0 y rfl; cases e
    subst hL
    obtain rfl : m = 0 := by simpa using hm.symm
    obtain rfl := hp rfl
    obtain ⟨q, d, rfl⟩ := own_slice hown
    rw [hacc] at hown hs
    have hown' : w.ownsRow base 5 1 (.slice q n d) n (Lib.byteCells acc) := by unfold Own at hown; rw [hacc] at hown; exact hown
    refine wp_append_own_none s x 24 ho base 5 i0 1 Tryd.underlying24 hi0 (.slice q n d) n (Lib.byteCells acc) hs hown' hx ?_
    have h9 := h q d w (by rw [List.append_nil]; exact hown) ⟨rfl, rfl, rfl, Nat.le_refl _, fun _ _ _ => rfl⟩ (.inl (by rw [hacc]; cases q <;> rfl))
    exact h9
  | some ad =>
    have hown' : w.ownsRow base 5 1 v n (Lib.byteCells acc) := by unfold Own at hown; rw [hacc] at hown; exact hown
    by_cases hL : L = []
    · subst hL
      obtain rfl : m = 0 := by simpa using hm.symm
      refine wp_append_own_at s x 24 ho base 5 i0 _ 1 1 Tryd.underlying24 hi0 hz0 hz1 hz2 rfl (by decide) v n (Lib.byteCells acc) hs hown' ad 0 c [] hx rfl (fun j u hj => by simp at hj) (fun u hu => by simp at hu) (by unfold maxLen; omega) (by omega) hbase ?_
      intro v' w' h1 h2 h4
      obtain ⟨q, d, rfl⟩ := own_slice h1
      exact h q d w' (by unfold Own; rw [List.append_nil, hacc]; simpa using h1) h2 h4
    · obtain ⟨g, o2, rfl⟩ := hA.plain ad rfl hL
      refine wp_append_own_at s x 24 ho base 5 i0 _ 1 1 Tryd.underlying24 hi0 hz0 hz1 hz2 rfl (by decide) v n (Lib.byteCells acc) hs hown' ⟨g, o2, none⟩ m c (Lib.byteCells L) hx (by simp only [Lib.byteCells, List.length_map, hm, Nat.mul_one]) (arg_news hA) (byte_one L) (by unfold maxLen; omega) (by omega) hbase ?_
      intro v' w' h1 h2 h4
      obtain ⟨q, d, rfl⟩ := own_slice h1
      exact h q d w' (Own.put (by rw [hacc]; exact h1) rfl hm) h2 h4
theorem wp_app_S {w : World} {o : Oper} {a : Act} {K : Act → World → Prop} {Q : Exit → Act → World → Prop} (sl x : Operand)
    (ho : o.op = .call { callee := .builtin .append, args := #[sl, x], argTypes := #[24, 9] }) (base : Nat) (v : Value) (n k m : Nat) (acc s : B) (hs : a.eval sl = v) (hown : Own w base v acc) (hacc : acc.length = n) (hk : s.length = k) (hm : n + k = m) (hx : a.eval x = .string (str s)) (hl : m ≤ 140737488355328) (hbase : base ≤ w.heap.size)
    (h : ∀ q d w', Own w' base (.slice q m d) (acc ++ s) → w.grownBy w' v.ownBlock → K (a.put o.dst (.slice q m d)) w') : o.wp Tryd.prog a w K Q := by
  obtain ⟨i0, hi0, hz0, hz1, hz2⟩ := info_parts infoB
  have hz : (str s).size = k := by rw [str_size, hk]
  refine wp_append_own_string sl x 24 9 ho base 5 i0 Tryd.underlying24 Tryd.underlying9 hi0 hz0 hz1 hz2 v n (Lib.byteCells acc) hs (by have h8 := hown; unfold Own at h8; rw [hacc] at h8; exact h8) (str s) hx (by rw [hz]; unfold maxLen; omega) (by rw [hz]; omega) hbase ?_
  intro v' w' hown' hgr
  have ho3 := Own.app hacc hown'
  rw [hz, hm] at hown'
  obtain ⟨q, d, rfl⟩ := own_slice hown'
  exact h q d w' ho3 hgr
end Go.Proofs.YtllbdpiihiohoaaDoor
