/- Rows of texts of one's own; what stands behind each slash. -/
import Derived.Test.YtbdbmlklijmefabDoorRMeant
namespace Go.Proofs.YtbdbmlklijmefabDoor
open Go.RowKit

def strC (ns : List B) : List Value := ns.map fun t => .string (str t)
/-- A row of texts of one's own. -/
def OwnS (w : World) (base : Nat) (v : Value) (ns : List B) : Prop := w.ownsRow base 9 1 v ns.length (strC ns)
theorem OwnS.nil (w : World) (base : Nat) : OwnS w base (.slice none 0 0) [] := ⟨rfl, .inl ⟨rfl, rfl⟩⟩
theorem OwnS.put {w' : World} {base : Nat} {v' : Value} {acc : List B} {t : B} (h : w'.ownsRow base 9 1 v' (acc.length + 1) (strC acc ++ [.string (str t)])) : OwnS w' base v' (acc ++ [t]) := by
  unfold OwnS
  rw [List.length_append, show strC (acc ++ [t]) = strC acc ++ [.string (str t)] from by simp [strC]]
  exact h
theorem OwnS.below {w w' : World} {base : Nat} {v : Value} {acc : List B} (h : OwnS w base v acc) (hb : base ≤ w.heap.size) (hg : w.grownBy w' v.ownBlock) : Below base w w' :=
  ⟨hg.os, hg.tape, hg.output, hg.size, fun k hk => hg.block k (by omega) (fun e => own_ne h hk e.symm)⟩
theorem OwnS.keep {w w' : World} {base : Nat} {v : Value} {acc : List B} (h : OwnS w base v acc) (hb : Below w.heap.size w w') : OwnS w' base v acc := by
  refine ⟨h.1, ?_⟩
  rcases h.2 with h1 | ⟨g, cap, cur, h1, h2, h3, h4⟩
  · exact .inl h1
  · exact .inr ⟨g, cap, cur, h1, h2, (hb.block g (lt_of_heap h3)).trans h3, h4⟩
theorem OwnS.alloc {w : World} {base : Nat} {v : Value} {acc : List B} (h : OwnS w base v acc) (o : Obj) : OwnS (w.alloc o) base v acc := h.keep (below_new w o)
theorem infoS : (Tryd.prog.info? 9).map (fun i => (i.zero, i.size, i.bytes)) = some (some (.string ⟨#[]⟩), 1, 16) := by kernel_rfl
/-- What stands behind each slash, from the left. -/
def segsL : B → List B
  | [] => []
  | c :: l => if c = 47 then l.takeWhile (fun y => decide (y ≠ 47)) :: segsL l else segsL l
theorem cutAt_segs : ∀ l : B, cutAt 47 l = l.takeWhile (fun y => decide (y ≠ 47)) :: segsL l
  | [] => rfl
  | b :: l => by
    have ih := cutAt_segs l
    by_cases h : b = 47
    · simp only [cutAt, segsL, if_pos h]
      rw [ih, List.takeWhile_cons, if_neg (by simp [h])]
    · simp only [cutAt, segsL, if_neg h]
      rw [ih, List.takeWhile_cons, if_pos (by simp [h])]
theorem segs_eq (l : B) : segs l = segsL l := by
  unfold segs
  rw [cutAt_segs]
  rfl
theorem tw_at {l : B} {m : Nat} (h : ∀ y ∈ l.take m, y ≠ 47) (he : l.length ≤ m ∨ l[m]? = some 47) : l.takeWhile (fun y => decide (y ≠ 47)) = l.take m := by
  induction m generalizing l with
  | zero =>
    cases l with
    | nil => rfl
    | cons b l =>
      rcases he with he | he
      · simp at he
      · simp at he
        rw [List.takeWhile_cons, if_neg (by simp [he])]
        rfl
  | succ m ih =>
    cases l with
    | nil => rfl
    | cons b l =>
      rw [List.takeWhile_cons, if_pos (by simpa using h b (by simp)), List.take_succ_cons]
      congr 1
      refine ih (fun y hy => h y (by simp [hy])) ?_
      rcases he with he | he
      · left; simp at he; omega
      · right; simpa using he
theorem segsL_len : ∀ l : B, (segsL l).length ≤ l.length
  | [] => Nat.le_refl _
  | c :: l => by
    have := segsL_len l
    unfold segsL
    split <;> simp <;> omega
end Go.Proofs.YtbdbmlklijmefabDoor
