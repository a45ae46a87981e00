/- A chunk written: Encode. -/
import Derived.Test.YtllbdpiihiohoaaDoorKCalls
import Derived.Test.YtllbdpiihiohoaaDoorKHex
import Derived.Laws.MakeOwn
namespace Go.Proofs.YtllbdpiihiohoaaDoor
open Go.RowKit

theorem wpList_append_own_str {P : Program} {w : World} {ops : Array Oper} {rest : List Oper} {o : Oper} {a : Act} {Q : Exit → Act → World → Prop} (hgd : o.guard = none) (sl x : Operand) (t u : TypeId)
    (ho : o.op = .call { callee := .builtin .append, args := #[sl, x], argTypes := #[t, u] })
    (base : Nat) (e : TypeId) (i : TypeInfo) (ht : P.underlying t = some (.slice e)) (hu : P.underlying u = some .string) (hi : P.info? e = some i) (hz : i.zero = some (.int .u8 0))
    (hsize : i.size = 1) (hby : i.bytes = 1)
    (v : Value) (n : Nat) (xs : List Value) (hs : a.eval sl = v) (hown : w.ownsRow base e 1 v n xs) (s : ByteArray) (hx : a.eval x = .string s)
    (h63 : n + s.size ≤ maxLen) (hbytes : n + s.size ≤ 140737488355328) (hbase : base ≤ w.heap.size)
    (h : ∀ v' w', w'.ownsRow base e 1 v' (n + s.size) (xs ++ Lib.strCells s) → w.grownBy w' v.ownBlock → wpList P ops Q rest (a.put o.dst v') w') : wpList P ops Q (o :: rest) a w := by
  refine wpList_plain hgd fun K hK => ?_
  exact wp_append_own_string sl x t u ho base e i ht hu hi hz hsize hby v n xs hs hown s hx h63 hbytes hbase (fun v' w' h1 h2 => hK _ _ (h v' w' h1 h2))
theorem Own.app {w' : World} {base n : Nat} {v' : Value} {acc t : B} (hn : acc.length = n) (h : w'.ownsRow base 5 1 v' (n + (str t).size) (Lib.byteCells acc ++ Lib.strCells (str t))) : Own w' base v' (acc ++ t) := by
  unfold Own
  rw [cells_app, List.length_append, hn, ← strCells_str, ← str_size]
  exact h
theorem mk_row (w : World) (n : Nat) (hn : n ≤ 140737488355328) : ∃ w', (Instr.makeSlice 24 (.int .i64 0) (.int .i64 (n : Int))).run Tryd.prog w = .ok (.slice (some ⟨w.heap.size, 0, none⟩) 0 n) w' ∧ Own w' w.heap.size (.slice (some ⟨w.heap.size, 0, none⟩) 0 n) [] ∧ Below w.heap.size w w' := by
  obtain ⟨i0, hi0, hz0, hz1, hz2⟩ := info_parts infoB
  obtain ⟨w', h1, h2, h3⟩ := run_make_own (P := Tryd.prog) w w.heap.size 24 5 i0 _ 1 Tryd.underlying24 hi0 hz0 hz1 .i64 .i64 n (by rw [hz2]; omega) (by unfold maxLen; omega) (Nat.le_refl _)
  exact ⟨w', h1, h2, below_grown h3⟩
theorem own_base {w : World} {b b' : Nat} {v : Value} {acc : B} (h : Own w b v acc) (hb : b' ≤ b) : Own w b' v acc := by
  refine ⟨h.1, ?_⟩
  rcases h.2 with h1 | ⟨g, cap, cur, h1, h2, h3⟩
  · exact .inl h1
  · exact .inr ⟨g, cap, cur, h1, Nat.le_trans hb h2, h3⟩
/-- What the walks ask of the library's table. -/
structure EnvK (w : World) : Prop where
  bit : w.cell? ⟨3, 15, none⟩ = some (.int .u8 4)
theorem EnvK.next {w w' : World} (h : EnvK w) (hb : Below w.heap.size w w') : EnvK w' := ⟨cell_keep hb h.bit⟩
def encK (l : B) : B := if l = [] then [] else told 16 l.length ++ [13, 10] ++ l ++ [13, 10]
theorem toldL_len16 : ∀ (f n : Nat) (l : B), n < 16 ^ f → (toldL 16 f n l).length ≤ f + l.length
  | 0, n, l, _ => by simp [toldL]
  | f + 1, n, l, h => by
    rw [toldL]
    split
    · simp; omega
    · have h1 : n / 16 < 16 ^ f := by
        rw [Nat.div_lt_iff_lt_mul (by omega)]
        rw [Nat.pow_succ] at h
        exact h
      have := toldL_len16 f (n / 16) (digC (n % 16) :: l) h1
      rw [List.length_cons] at this
      omega
theorem told_len16 (n : Nat) (h : n < 9223372036854775808) : (told 16 n).length ≤ 64 := by
  have := toldL_len16 64 n [] (Nat.lt_trans h (by decide))
  simpa [told] using this
end Go.Proofs.YtllbdpiihiohoaaDoor
