/- Rows of bytes that were made of a text (they bear a mark behind their last cell), and what is appended to them. -/
import Derived.Test.YtnlmjlfoeodleaaGreatDoorWLocal
import Derived.Lib.FrozenHead
namespace Go.Proofs.YtnlmjlfoeodleaaGreatDoor
open Go.RowKit

/-- No cell of a row of n cells lies in the marked stretch. -/
def Free (fz : Nat × Nat) (n : Nat) : Prop := ∀ j, j < n → ¬ (fz.1 ≤ j ∧ j < fz.2)
def OwnM (w : World) (base : Nat) (v : Value) (acc : B) : Prop :=
  ∃ g cap cur fz, v = .slice (some ⟨g, 0, none⟩) acc.length cap ∧ base ≤ g ∧ w.heap[g]? = some (.cells cur 5 fz) ∧ Free fz cur.size ∧ acc.length ≤ cap ∧ cap ≤ maxLen ∧ cur.size = cap ∧ cur.toList.take acc.length = Lib.byteCells acc
theorem OwnM.keep {w w' : World} {base : Nat} {v : Value} {acc : B} (h : OwnM w base v acc) (hb : Below w.heap.size w w') : OwnM w' base v acc := by
  obtain ⟨g, cap, cur, fz, h1, h2, h3, h4⟩ := h
  exact ⟨g, cap, cur, fz, h1, h2, (hb.block g (lt_of_heap h3)).trans h3, h4⟩
theorem OwnM.arg {w : World} {base : Nat} {v : Value} {acc : B} (h : OwnM w base v acc) : ∃ g cap, v = .slice (some ⟨g, 0, none⟩) acc.length cap ∧ base ≤ g ∧ ArgAt w (some ⟨g, 0, none⟩) acc := by
  obtain ⟨g, cap, cur, fz, h1, h2, h3, _, _, _, _, h8⟩ := h
  refine ⟨g, cap, h1, h2, fun i y hi => ⟨g, 0, rfl, ?_⟩⟩
  have hlt := (List.getElem?_eq_some_iff.1 hi).1
  have e : (cur.toList.take acc.length)[i]? = some (.int .u8 (y.toNat : Int)) := by
    rw [h8]
    simp [Lib.byteCells, hi]
  rw [List.getElem?_take, if_pos hlt] at e
  rw [Nat.zero_add]
  simp only [World.cell?, h3]
  simpa using e
theorem OwnM.below {w w' : World} {base : Nat} {v : Value} {acc : B} (h : OwnM w base v acc) (hb : base ≤ w.heap.size) (hg : w.grownBy w' v.ownBlock) : Below base w w' := by
  obtain ⟨g, cap, cur, fz, rfl, h2, h3, _⟩ := h
  exact ⟨hg.os, hg.tape, hg.output, hg.size, fun k hk => hg.block k (by omega) (fun e => by have h9 := Option.some.inj (show some k = some g from e); omega)⟩
theorem storeM (P : Program) (g o : Nat) (t : TypeId) (fz : Nat × Nat) : ∀ (vs : List Value) (i : Nat) (cur : Array Value) (w : World), w.heap[g]? = some (.cells cur t fz) → Free fz cur.size → o + i + vs.length ≤ cur.size → (∀ v ∈ vs, v.oneCell' = true) →
    (storeCells ⟨g, o, none⟩ vs i).run P w = .ok () (w.setRow g (cur.toList.take (o + i) ++ vs ++ cur.toList.drop (o + i + vs.length)).toArray)
  | [], i, cur, w, hg, _, _, _ => by
    simp only [storeCells, List.append_nil, List.length_nil, Nat.add_zero, List.take_append_drop, Array.toArray_toList]
    rw [setRow_self w g cur t fz hg]
    rfl
  | v :: rest, i, cur, w, hg, hfz, hl, h1 => by
    have hi : o + i < cur.size := by simp at hl; omega
    have hadd : (⟨g, o, none⟩ : Addr).add i = ⟨g, o + i, none⟩ := by unfold Addr.add; split <;> simp_all
    have hcell : w.cell? ⟨g, o + i, none⟩ = some cur[o + i] := by simp [World.cell?, hg, hi]
    have hfro : w.frozen? ⟨g, o + i, none⟩ = false := by
      have h9 := hfz (o + i) hi
      obtain ⟨lo, hi'⟩ := fz
      simp only [World.frozen?, hg, Bool.and_eq_false_iff, decide_eq_false_iff_not]
      simp only at h9
      omega
    have hst : (store ((⟨g, o, none⟩ : Addr).add i) v).run P w = .ok () (w.setRow g (cur.setIfInBounds (o + i) v)) := by
      rw [hadd, run_store P w _ v _ (h1 v (by simp)), hcell]
      simp [hfro, setCell_eq_setRow w g (o + i) cur t fz v hg]
    have ih := storeM P g o t fz rest (i + 1) (cur.setIfInBounds (o + i) v) (w.setRow g (cur.setIfInBounds (o + i) v)) (setRow_heap w g cur _ t _ hg) (by simpa using hfz) (by simp at hl ⊢; omega) (fun x hx => h1 x (by simp [hx]))
    simp only [storeCells, Sem.run_bind, hst, Result.andThen_ok, ih, setRow_setRow]
    congr 3
    have e := list_seg_step cur.toList (o + i) v rest (by simp at hl ⊢; omega)
    simpa [Array.toList_setIfInBounds, Nat.add_assoc] using e
theorem appendM (w : World) (base : Nat) (v : Value) (acc : B) (hown : OwnM w base v acc) (s : B) (ty : TypeId) (hbytes : acc.length + s.length ≤ 140737488355328) (hbase : base ≤ w.heap.size) :
    ∃ v' w', (Builtin.append_ #[32, 9] ty #[v, .string (str s)]).run Tryz.prog w = .ok v' w' ∧ OwnM w' base v' (acc ++ s) ∧ w.grownBy w' v.ownBlock := by
  obtain ⟨i0, hi0, hz0, hz1, hz2⟩ := info_parts infoB
  obtain ⟨g, cap, cur, fz, rfl, hbg, hg, hfz, hnc, hcm, hcs, htake⟩ := hown
  have hxl : (Lib.byteCells acc).length = acc.length := by simp [Lib.byteCells]
  have hsz : (str s).size = s.length := str_size s
  by_cases hroom : acc.length + (str s).size ≤ cap
  · have hf := Lib.run_firstCells_string (P := Tryz.prog) w 1 (str s)
    have hst := storeM Tryz.prog g acc.length 5 fz (Lib.strCells (str s)) 0 cur w hg hfz (by rw [Lib.strCells_length]; omega) (Lib.strCells_oneCell (str s))
    simp only [Nat.add_zero, Lib.strCells_length] at hst
    have hr : (Builtin.append_ #[32, 9] ty #[.slice (some ⟨g, 0, none⟩) acc.length cap, .string (str s)]).run Tryz.prog w = .ok (.slice (some ⟨g, 0, none⟩) (acc.length + (str s).size) cap) (w.setRow g (cur.toList.take acc.length ++ Lib.strCells (str s) ++ cur.toList.drop (acc.length + (str s).size)).toArray) := by
      simp [Builtin.append_, run_underlying Tryz.underlying32, run_underlying Tryz.underlying9, sizeOf, typeInfo, hi0, hz1, Builtin.lenOf, hroom, hf, Addr.add_lit, hst]
    refine ⟨_, _, hr, ⟨g, cap, _, fz, by rw [List.length_append, hsz], hbg, setRow_heap w g cur _ _ _ hg, ?_, by rw [List.length_append]; omega, hcm, ?_, ?_⟩, ⟨rfl, rfl, rfl, by simp, fun k _ hk => setRow_other w g k _ (fun e => hk (by simp [Value.ownBlock, e]))⟩⟩
    · refine fun j hj => hfz j ?_
      simp only [List.size_toArray, List.length_append, List.length_take, List.length_drop, Array.length_toList, Lib.strCells_length] at hj
      omega
    · simp only [List.size_toArray, List.length_append, List.length_take, List.length_drop, Array.length_toList, Lib.strCells_length]
      omega
    · rw [htake, strCells_str, ← cells_app]
      have e : (Lib.byteCells (acc ++ s)).length = (acc ++ s).length := by simp [Lib.byteCells]
      rw [← e]
      exact List.take_left
  · have holds : ∀ j u, (Lib.byteCells acc)[j]? = some u → w.cell? ((⟨g, 0, none⟩ : Addr).add j) = some u := by
      intro j u hu
      rw [add_off]
      simp only [World.cell?, hg]
      have hlt := (List.getElem?_eq_some_iff.1 hu).1
      rw [← htake, List.getElem?_take, if_pos (by omega)] at hu
      simpa using hu
    have hr := Lib.run_append_grow_string (P := Tryz.prog) w 32 9 ty 5 i0 (.int .u8 0) Tryz.underlying32 Tryz.underlying9 hi0 hz0 ⟨g, 0, none⟩ acc.length cap (Lib.byteCells acc) (by rw [hz1]; simpa using hxl) holds (str s) (by omega) (by omega) (by rw [hz2]; exact growslice_fits (by omega) (by omega))
    have hge := grownCap_ge w (acc.length + (str s).size) cap 5
    have hcm2 : grownCap w (acc.length + (str s).size) cap 5 ≤ maxLen := grownCap_le_maxLen w (acc.length + (str s).size) cap 5 (by unfold maxLen; omega)
    refine ⟨_, _, hr, ⟨w.heap.size, _, _, (0, 0), by rw [List.length_append, hsz], hbase, heap_alloc_new w.drew _, fun j _ h => by simp at h, by rw [List.length_append, ← hsz]; exact hge, hcm2, ?_, ?_⟩, ⟨rfl, rfl, rfl, by simp, fun k hk _ => heap_alloc_old w.drew _ hk⟩⟩
    · have hz1' : (Value.int IntKind.u8 0).cells.size = 1 := rfl
      simp only [Array.size_append, List.size_toArray, size_zeroCells, hz1', hxl, Lib.strCells_length]
      omega
    · simp only [Array.toList_append]
      rw [strCells_str, ← cells_app]
      have e : (Lib.byteCells (acc ++ s)).length = (acc ++ s).length := by simp [Lib.byteCells]
      rw [← e]
      exact List.take_left
theorem wpList_append_M {w : World} {ops : Array Oper} {rest : List Oper} {o : Oper} {a : Act} {Q : Exit → Act → World → Prop} (hgd : o.guard = none) (sl x : Operand)
    (ho : o.op = .call { callee := .builtin .append, args := #[sl, x], argTypes := #[32, 9] }) (base : Nat) (v : Value) (acc s : B) (hs : a.eval sl = v) (hown : OwnM w base v acc) (hx : a.eval x = .string (str s))
    (hbytes : acc.length + s.length ≤ 140737488355328) (hbase : base ≤ w.heap.size)
    (h : ∀ v' w', OwnM w' base v' (acc ++ s) → w.grownBy w' v.ownBlock → wpList Tryz.prog ops Q rest (a.put o.dst v') w') : wpList Tryz.prog ops Q (o :: rest) a w := by
  refine wpList_plain hgd fun K hK => ?_
  obtain ⟨v', w', hr, h2, h3⟩ := appendM w base v acc hown s o.type hbytes hbase
  unfold Oper.wp execOp
  simp only [ho, resolve, invoke, builtin, Sem.run_bind, Sem.run_pure, Result.andThen_ok, List.map_toArray, List.map_cons, List.map_nil, hs, hx, hr]
  exact hK _ _ (h v' w' h2 h3)
theorem wp_append_M {w : World} {o : Oper} {a : Act} {K : Act → World → Prop} {Q : Exit → Act → World → Prop} (sl x : Operand)
    (ho : o.op = .call { callee := .builtin .append, args := #[sl, x], argTypes := #[32, 9] }) (base : Nat) (v : Value) (acc s : B) (hs : a.eval sl = v) (hown : OwnM w base v acc) (hx : a.eval x = .string (str s))
    (hbytes : acc.length + s.length ≤ 140737488355328) (hbase : base ≤ w.heap.size)
    (h : ∀ v' w', OwnM w' base v' (acc ++ s) → w.grownBy w' v.ownBlock → K (a.put o.dst v') w') : o.wp Tryz.prog a w K Q := by
  obtain ⟨v', w', hr, h2, h3⟩ := appendM w base v acc hown s o.type hbytes hbase
  unfold Oper.wp execOp
  simp only [ho, resolve, invoke, builtin, Sem.run_bind, Sem.run_pure, Result.andThen_ok, List.map_toArray, List.map_cons, List.map_nil, hs, hx, hr]
  exact h v' w' h2 h3
/-- A text as bytes of its own, that can be written on. -/
theorem bytes_ofM (s : B) (w : World) (hs : s.length ≤ 140737488355328) : ∃ v W, (convert 9 32 (.string (str s))).run Tryz.prog w = .ok v W ∧ OwnM W w.heap.size v s ∧ Below w.heap.size w W := by
  have h := run_bytes_of_string (P := Tryz.prog) w 9 32 5 (str s) Tryz.underlying9 Tryz.underlying32 Tryz.underlying5
  rw [str_size] at h
  have hge := grownCap_ge w s.length 0 5
  have hcs : (bytesRow (str s) (grownCap w s.length 0 5)).size = grownCap w s.length 0 5 := by
    have hsz : (str s).size = s.length := str_size s
    unfold bytesRow
    simp
    omega
  refine ⟨_, _, h, ⟨w.heap.size, grownCap w s.length 0 5, bytesRow (str s) (grownCap w s.length 0 5), _, rfl, Nat.le_refl _, heap_alloc_new w.drew _, fun j hj hf => ?_, hge, grownCap_le_maxLen w s.length 0 5 (by unfold maxLen; omega), hcs, ?_⟩, (Below.refl _ w).drew.alloc (Nat.le_refl _) _⟩
  · have h9 : (bytesRow (str s) (grownCap w s.length 0 5)).size ≤ j := hf.1
    omega
  · unfold bytesRow
    have e : (Lib.byteCells s).length = s.length := by simp [Lib.byteCells]
    rw [← e]
    simp [Lib.byteCells]
theorem ownM_slice {w : World} {base : Nat} {v : Value} {acc : B} (h : OwnM w base v acc) : ∃ q c, v = .slice q acc.length c := by
  obtain ⟨g, cap, _, _, h1, _⟩ := h
  exact ⟨_, cap, h1⟩
end Go.Proofs.YtnlmjlfoeodleaaGreatDoor
