/- The document's own: a head as bytes. -/
import Derived.Test.YtnlmjlfoeodleaaGreatDoorHFine
import Derived.Test.YtnlmjlfoeodleaaGreatDoorCTold
import Derived.Test.YtnlmjlfoeodleaaGreatDoorPRead
import Derived.Maps.AppendAt
namespace Go.Proofs.YtnlmjlfoeodleaaGreatDoor
open Go.RowKit

def headW (first : B) (fs : List (B × B)) : B := preW first fs ++ [10]
theorem headW_eq (first : B) (fs : List (B × B)) : headW first fs = (first ++ [13, 10]) ++ fs.flatMap fieldW ++ [13, 10] := by unfold headW preW; simp
theorem wpList_append_own_str {P : Program} {w : World} {ops : Array Oper} {rest : List Oper} {o : Oper} {a : Act} {Q : Exit → Act → World → Prop} (hgd : o.guard = none) (sl x : Operand) (t u : TypeId)
    (ho : o.op = .call { callee := .builtin .append, args := #[sl, x], argTypes := #[t, u] })
    (base : Nat) (e : TypeId) (i : TypeInfo) (ht : P.underlying t = some (.slice e)) (hu : P.underlying u = some .string) (hi : P.info? e = some i) (hz : i.zero = some (.int .u8 0))
    (hsize : i.size = 1) (hby : i.bytes = 1)
    (v : Value) (n : Nat) (xs : List Value) (hs : a.eval sl = v) (hown : w.ownsRow base e 1 v n xs) (s : ByteArray) (hx : a.eval x = .string s)
    (h63 : n + s.size ≤ maxLen) (hbytes : n + s.size ≤ 140737488355328) (hbase : base ≤ w.heap.size)
    (h : ∀ v' w', w'.ownsRow base e 1 v' (n + s.size) (xs ++ Lib.strCells s) → w.grownBy w' v.ownBlock → wpList P ops Q rest (a.put o.dst v') w') : wpList P ops Q (o :: rest) a w := by
  refine wpList_plain hgd fun K hK => ?_
  exact wp_append_own_string sl x t u ho base e i ht hu hi hz hsize hby v n xs hs hown s hx h63 hbytes hbase (fun v' w' h1 h2 => hK _ _ (h v' w' h1 h2))
theorem Own.app {w' : World} {base n : Nat} {v' : Value} {acc t : B} (hn : acc.length = n) (h : w'.ownsRow base 5 1 v' (n + (str t).size) (Lib.byteCells acc ++ Lib.strCells (str t))) : Own w' base v' (acc ++ t) := by
  unfold Own
  rw [cells_app, List.length_append, hn, ← strCells_str, ← str_size]
  exact h
theorem ret_sb {v : Value} {a b : Bool} (h : a = b) : Ending.returned (.tuple #[v, .bool a]) = .returned (.tuple #[v, .bool b]) := by rw [h]
theorem fieldW_len (f : B × B) : (fieldW f).length = f.1.length + f.2.length + 4 := by unfold fieldW; simp; omega
theorem flat_len : ∀ fs : List (B × B), (∀ f ∈ fs, f.1.length ≤ 1048576 ∧ f.2.length ≤ 1048576) → (fs.flatMap fieldW).length ≤ fs.length * 2097156
  | [], _ => by simp
  | f :: l, h => by
    have := flat_len l (fun x hx => h x (by simp [hx]))
    have := h f (by simp)
    simp only [List.flatMap_cons, List.length_append, fieldW_len, List.length_cons]
    omega
theorem take_flat {fs : List (B × B)} {i : Nat} {f : B × B} (h : fs[i]? = some f) : (fs.take (i + 1)).flatMap fieldW = (fs.take i).flatMap fieldW ++ fieldW f := by
  rw [List.take_add_one, h]; simp
end Go.Proofs.YtnlmjlfoeodleaaGreatDoor
