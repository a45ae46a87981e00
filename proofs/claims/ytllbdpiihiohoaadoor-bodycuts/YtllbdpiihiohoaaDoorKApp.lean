/- A text laid behind a row of bytes, of any length that was handed in; what stood there stays. -/
import Derived.Test.YtllbdpiihiohoaaDoorKBackP
import Derived.Deep.DeepAppendWide
namespace Go.Proofs.YtllbdpiihiohoaaDoor
open Go.RowKit

theorem arg_prefix {w : World} {p : Option Addr} {a b : B} (h : ArgAt w p (a ++ b)) : ArgAt w p a := by
  have := arg_take h a.length
  rw [List.take_left] at this
  exact this
theorem Own.toM {w : World} {base n c : Nat} {p : Option Addr} {acc : B} (h : Own w base (.slice p n c) acc) (h0 : acc ≠ []) : OwnM w base (.slice p n c) acc := by
  rcases h.2 with ⟨h1, h2⟩ | ⟨g, cap, cur, h1, h2, h3, h4, h5, h6, h7⟩
  · exact absurd (List.eq_nil_of_length_eq_zero h2) h0
  · refine ⟨g, cap, cur, _, h1, h2, h3, fun j _ hj => by simp at hj, h4, by simpa using h5, by simpa using h6, by simpa using h7⟩
theorem appendW (w : World) (base : Nat) (v : Value) (acc : B) (hown : OwnM w base v acc) (s : B) (ty : TypeId) (hbytes : acc.length + s.length ≤ 140737489403904) (hbase : base ≤ w.heap.size) :
    ∃ v' w', (Builtin.append_ #[24, 9] ty #[v, .string (str s)]).run Tryd.prog w = .ok v' w' ∧ OwnM w' base v' (acc ++ s) ∧ w.grownBy w' v.ownBlock ∧ ∀ q c, v = .slice q acc.length c → ArgAt w' q acc := by
  obtain ⟨i0, hi0, hz0, hz1, hz2⟩ := info_parts infoB
  obtain ⟨g, cap, cur, fz, rfl, hbg, hg, hfz, hnc, hcm, hcs, htake⟩ := hown
  have hxl : (Lib.byteCells acc).length = acc.length := by simp [Lib.byteCells]
  have hsz : (str s).size = s.length := str_size s
  by_cases hroom : acc.length + (str s).size ≤ cap
  · have hf := Lib.run_firstCells_string (P := Tryd.prog) w 1 (str s)
    have hst := storeM Tryd.prog g acc.length 5 fz (Lib.strCells (str s)) 0 cur w hg hfz (by rw [Lib.strCells_length]; omega) (Lib.strCells_oneCell (str s))
    simp only [Nat.add_zero, Lib.strCells_length] at hst
    have hr : (Builtin.append_ #[24, 9] ty #[.slice (some ⟨g, 0, none⟩) acc.length cap, .string (str s)]).run Tryd.prog w = .ok (.slice (some ⟨g, 0, none⟩) (acc.length + (str s).size) cap) (w.setRow g (cur.toList.take acc.length ++ Lib.strCells (str s) ++ cur.toList.drop (acc.length + (str s).size)).toArray) := by
      simp [Builtin.append_, run_underlying Tryd.underlying24, run_underlying Tryd.underlying9, sizeOf, typeInfo, hi0, hz1, Builtin.lenOf, hroom, hf, Addr.add_lit, hst]
    have hM : OwnM (w.setRow g (cur.toList.take acc.length ++ Lib.strCells (str s) ++ cur.toList.drop (acc.length + (str s).size)).toArray) base (.slice (some ⟨g, 0, none⟩) (acc.length + (str s).size) cap) (acc ++ s) := by
      refine ⟨g, cap, _, fz, by rw [List.length_append, hsz], hbg, setRow_heap w g cur _ _ _ hg, ?_, by rw [List.length_append]; omega, hcm, ?_, ?_⟩
      · refine fun j hj => hfz j ?_
        simp only [List.size_toArray, List.length_append, List.length_take, List.length_drop, Array.length_toList, Lib.strCells_length] at hj
        omega
      · simp only [List.size_toArray, List.length_append, List.length_take, List.length_drop, Array.length_toList, Lib.strCells_length]
        omega
      · rw [htake, strCells_str, ← cells_app]
        have e : (Lib.byteCells (acc ++ s)).length = (acc ++ s).length := by simp [Lib.byteCells]
        rw [← e]
        exact List.take_left
    refine ⟨_, _, hr, hM, ⟨rfl, rfl, rfl, by simp, fun k _ hk => setRow_other w g k _ (fun e => hk (by simp [Value.ownBlock, e]))⟩, fun q c e => ?_⟩
    obtain ⟨g2, cap2, e2, _, hA⟩ := hM.arg
    simp only [Value.slice.injEq] at e e2
    rw [← e.1, e2.1]
    exact arg_prefix hA
  · have holds : ∀ j u, (Lib.byteCells acc)[j]? = some u → w.cell? ((⟨g, 0, none⟩ : Addr).add j) = some u := by
      intro j u hu
      rw [add_off]
      simp only [World.cell?, hg]
      have hlt := (List.getElem?_eq_some_iff.1 hu).1
      rw [← htake, List.getElem?_take, if_pos (by omega)] at hu
      simpa using hu
    have hr := Lib.run_append_grow_string (P := Tryd.prog) w 24 9 ty 5 i0 (.int .u8 0) Tryd.underlying24 Tryd.underlying9 hi0 hz0 ⟨g, 0, none⟩ acc.length cap (Lib.byteCells acc) (by rw [hz1]; simpa using hxl) holds (str s) (by omega) (by omega) (by rw [hz2]; exact growslice_fits_wide (by omega) (by omega))
    have hge := grownCap_ge w (acc.length + (str s).size) cap 5
    have hcm2 : grownCap w (acc.length + (str s).size) cap 5 ≤ maxLen := grownCap_le_maxLen w (acc.length + (str s).size) cap 5 (by unfold maxLen; omega)
    refine ⟨_, _, hr, ⟨w.heap.size, _, _, (0, 0), by rw [List.length_append, hsz], hbase, heap_alloc_new w.drew _, fun j _ h => by simp at h, by rw [List.length_append, ← hsz]; exact hge, hcm2, ?_, ?_⟩, ⟨rfl, rfl, rfl, by simp, fun k hk _ => heap_alloc_old w.drew _ hk⟩, fun q c e => ?_⟩
    · have hz1' : (Value.int IntKind.u8 0).cells.size = 1 := rfl
      simp only [Array.size_append, List.size_toArray, size_zeroCells, hz1', hxl, Lib.strCells_length]
      omega
    · simp only [Array.toList_append]
      rw [strCells_str, ← cells_app]
      have e : (Lib.byteCells (acc ++ s)).length = (acc ++ s).length := by simp [Lib.byteCells]
      rw [← e]
      exact List.take_left
    · simp only [Value.slice.injEq] at e
      rw [← e.1]
      intro i y hi
      refine ⟨g, 0, rfl, ?_⟩
      have h9 := holds i (.int .u8 (y.toNat : Int)) (by simp [Lib.byteCells, hi])
      rw [add_off] at h9
      rw [Nat.zero_add]
      have hb : Below w.heap.size w (w.drew.alloc (.cells ((Lib.byteCells acc).toArray ++ (Lib.strCells (str s)).toArray ++ Builtin.zeroCells (Value.int IntKind.u8 0).cells (grownCap w (acc.length + (str s).size) cap 5 - (acc.length + (str s).size))) 5)) := (Below.refl _ w).drew.alloc (Nat.le_refl _) _
      exact cell_keep hb h9
theorem wpList_append_W {w : World} {ops : Array Oper} {rest : List Oper} {o : Oper} {a : Act} {Q : Exit → Act → World → Prop} (hgd : o.guard = none) (sl x : Operand)
    (ho : o.op = .call { callee := .builtin .append, args := #[sl, x], argTypes := #[24, 9] }) (base : Nat) (q : Option Addr) (n c : Nat) (acc s : B) (hs : a.eval sl = .slice q n c) (hn : acc.length = n) (hown : OwnM w base (.slice q n c) acc) (hx : a.eval x = .string (str s))
    (hbytes : acc.length + s.length ≤ 140737489403904) (hbase : base ≤ w.heap.size)
    (h : ∀ q' d w', OwnM w' base (.slice q' (n + s.length) d) (acc ++ s) → w.grownBy w' (Value.slice q n c).ownBlock → ArgAt w' q acc → wpList Tryd.prog ops Q rest (a.put o.dst (.slice q' (n + s.length) d)) w') : wpList Tryd.prog ops Q (o :: rest) a w := by
  refine wpList_plain hgd fun K hK => ?_
  obtain ⟨v', w', hr, h2, h3, h4⟩ := appendW w base _ acc hown s o.type hbytes hbase
  obtain ⟨q', d, rfl⟩ := ownM_slice h2
  rw [List.length_append, hn] at h2 hr
  unfold Oper.wp execOp
  simp only [ho, resolve, invoke, builtin, Sem.run_bind, Sem.run_pure, Result.andThen_ok, List.map_toArray, List.map_cons, List.map_nil, hs, hx, hr]
  exact hK _ _ (h q' d w' h2 h3 (h4 q c (by rw [hn])))
theorem OwnM.cap {w : World} {base n c : Nat} {q : Option Addr} {acc : B} (h : OwnM w base (.slice q n c) acc) : n ≤ c := by
  obtain ⟨g, cap, cur, fz, h1, _, _, _, h5, _⟩ := h
  simp only [Value.slice.injEq] at h1
  omega
theorem OwnM.arg2 {w : World} {base n c : Nat} {q : Option Addr} {acc : B} (h : OwnM w base (.slice q n c) acc) : ArgAt w q acc := by
  obtain ⟨g, cap, e, _, hA⟩ := h.arg
  simp only [Value.slice.injEq] at e
  rw [e.1]
  exact hA
theorem OwnM.nil {w : World} {base n c : Nat} {q : Option Addr} {acc : B} (h : OwnM w base (.slice q n c) acc) : q = none → c = 0 := by
  rintro rfl
  obtain ⟨g, cap, cur, fz, h1, _⟩ := h
  cases h1
end Go.Proofs.YtllbdpiihiohoaaDoor
