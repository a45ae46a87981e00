/- The last chunk written: fields that may be written, the size of their lines, Last. -/
import Derived.Test.YtnlmjlfoeodleaaGreatDoorKEnc
import Derived.Lib.SlBytesConst
import Derived.Lib.FrozenHead
import Derived.Laws.AppendOwnNone
namespace Go.Proofs.YtnlmjlfoeodleaaGreatDoor
open Go.RowKit

/-- No cell of a row of n cells lies in the marked stretch. -/
def Free (fz : Nat × Nat) (n : Nat) : Prop := ∀ j, j < n → ¬ (fz.1 ≤ j ∧ j < fz.2)
def OwnM (w : World) (base : Nat) (v : Value) (acc : B) : Prop :=
  ∃ g cap cur fz, v = .slice (some ⟨g, 0, none⟩) acc.length cap ∧ base ≤ g ∧ w.heap[g]? = some (.cells cur 5 fz) ∧ Free fz cur.size ∧ acc.length ≤ cap ∧ cap ≤ maxLen ∧ cur.size = cap ∧ cur.toList.take acc.length = Lib.byteCells acc
theorem OwnM.keep {w w' : World} {base : Nat} {v : Value} {acc : B} (h : OwnM w base v acc) (hb : Below w.heap.size w w') : OwnM w' base v acc := by
  obtain ⟨g, cap, cur, fz, h1, h2, h3, h4⟩ := h
  exact ⟨g, cap, cur, fz, h1, h2, (hb.block g (lt_of_heap h3)).trans h3, h4⟩
theorem OwnM.arg {w : World} {base : Nat} {v : Value} {acc : B} (h : OwnM w base v acc) : ∃ g cap, v = .slice (some ⟨g, 0, none⟩) acc.length cap ∧ base ≤ g ∧ ArgAt w (some ⟨g, 0, none⟩) acc := by
  obtain ⟨g, cap, cur, fz, h1, h2, h3, _, _, _, _, h8⟩ := h
  refine ⟨g, cap, h1, h2, fun i y hi => ⟨g, 0, rfl, ?_⟩⟩
  have hlt := (List.getElem?_eq_some_iff.1 hi).1
  have e : (cur.toList.take acc.length)[i]? = some (.int .u8 (y.toNat : Int)) := by
    rw [h8]
    simp [Lib.byteCells, hi]
  rw [List.getElem?_take, if_pos hlt] at e
  rw [Nat.zero_add]
  simp only [World.cell?, h3]
  simpa using e
theorem OwnM.below {w w' : World} {base : Nat} {v : Value} {acc : B} (h : OwnM w base v acc) (hb : base ≤ w.heap.size) (hg : w.grownBy w' v.ownBlock) : Below base w w' := by
  obtain ⟨g, cap, cur, fz, rfl, h2, h3, _⟩ := h
  exact ⟨hg.os, hg.tape, hg.output, hg.size, fun k hk => hg.block k (by omega) (fun e => by have h9 := Option.some.inj (show some k = some g from e); omega)⟩
theorem storeM (P : Program) (g o : Nat) (t : TypeId) (fz : Nat × Nat) : ∀ (vs : List Value) (i : Nat) (cur : Array Value) (w : World), w.heap[g]? = some (.cells cur t fz) → Free fz cur.size → o + i + vs.length ≤ cur.size → (∀ v ∈ vs, v.oneCell' = true) →
    (storeCells ⟨g, o, none⟩ vs i).run P w = .ok () (w.setRow g (cur.toList.take (o + i) ++ vs ++ cur.toList.drop (o + i + vs.length)).toArray)
  | [], i, cur, w, hg, _, _, _ => by
    simp only [storeCells, List.append_nil, List.length_nil, Nat.add_zero, List.take_append_drop, Array.toArray_toList]
    rw [setRow_self w g cur t fz hg]
    rfl
  | v :: rest, i, cur, w, hg, hfz, hl, h1 => by
    have hi : o + i < cur.size := by simp at hl; omega
    have hadd : (⟨g, o, none⟩ : Addr).add i = ⟨g, o + i, none⟩ := by unfold Addr.add; split <;> simp_all
    have hcell : w.cell? ⟨g, o + i, none⟩ = some cur[o + i] := by simp [World.cell?, hg, hi]
    have hfro : w.frozen? ⟨g, o + i, none⟩ = false := by
      have h9 := hfz (o + i) hi
      obtain ⟨lo, hi'⟩ := fz
      simp only [World.frozen?, hg, Bool.and_eq_false_iff, decide_eq_false_iff_not]
      simp only at h9
      omega
    have hst : (store ((⟨g, o, none⟩ : Addr).add i) v).run P w = .ok () (w.setRow g (cur.setIfInBounds (o + i) v)) := by
      rw [hadd, run_store P w _ v _ (h1 v (by simp)), hcell]
      simp [hfro, setCell_eq_setRow w g (o + i) cur t fz v hg]
    have ih := storeM P g o t fz rest (i + 1) (cur.setIfInBounds (o + i) v) (w.setRow g (cur.setIfInBounds (o + i) v)) (setRow_heap w g cur _ t _ hg) (by simpa using hfz) (by simp at hl ⊢; omega) (fun x hx => h1 x (by simp [hx]))
    simp only [storeCells, Sem.run_bind, hst, Result.andThen_ok, ih, setRow_setRow]
    congr 3
    have e := list_seg_step cur.toList (o + i) v rest (by simp at hl ⊢; omega)
    simpa [Array.toList_setIfInBounds, Nat.add_assoc] using e
theorem appendM (w : World) (base : Nat) (v : Value) (acc : B) (hown : OwnM w base v acc) (s : B) (ty : TypeId) (hbytes : acc.length + s.length ≤ 140737488355328) (hbase : base ≤ w.heap.size) :
    ∃ v' w', (Builtin.append_ #[32, 9] ty #[v, .string (str s)]).run Tryz.prog w = .ok v' w' ∧ OwnM w' base v' (acc ++ s) ∧ w.grownBy w' v.ownBlock := by
  obtain ⟨i0, hi0, hz0, hz1, hz2⟩ := info_parts infoB
  obtain ⟨g, cap, cur, fz, rfl, hbg, hg, hfz, hnc, hcm, hcs, htake⟩ := hown
  have hxl : (Lib.byteCells acc).length = acc.length := by simp [Lib.byteCells]
  have hsz : (str s).size = s.length := str_size s
  by_cases hroom : acc.length + (str s).size ≤ cap
  · have hf := Lib.run_firstCells_string (P := Tryz.prog) w 1 (str s)
    have hst := storeM Tryz.prog g acc.length 5 fz (Lib.strCells (str s)) 0 cur w hg hfz (by rw [Lib.strCells_length]; omega) (Lib.strCells_oneCell (str s))
    simp only [Nat.add_zero, Lib.strCells_length] at hst
    have hr : (Builtin.append_ #[32, 9] ty #[.slice (some ⟨g, 0, none⟩) acc.length cap, .string (str s)]).run Tryz.prog w = .ok (.slice (some ⟨g, 0, none⟩) (acc.length + (str s).size) cap) (w.setRow g (cur.toList.take acc.length ++ Lib.strCells (str s) ++ cur.toList.drop (acc.length + (str s).size)).toArray) := by
      simp [Builtin.append_, run_underlying Tryz.underlying32, run_underlying Tryz.underlying9, sizeOf, typeInfo, hi0, hz1, Builtin.lenOf, hroom, hf, Addr.add_lit, hst]
    refine ⟨_, _, hr, ⟨g, cap, _, fz, by rw [List.length_append, hsz], hbg, setRow_heap w g cur _ _ _ hg, ?_, by rw [List.length_append]; omega, hcm, ?_, ?_⟩, ⟨rfl, rfl, rfl, by simp, fun k _ hk => setRow_other w g k _ (fun e => hk (by simp [Value.ownBlock, e]))⟩⟩
    · refine fun j hj => hfz j ?_
      simp only [List.size_toArray, List.length_append, List.length_take, List.length_drop, Array.length_toList, Lib.strCells_length] at hj
      omega
    · simp only [List.size_toArray, List.length_append, List.length_take, List.length_drop, Array.length_toList, Lib.strCells_length]
      omega
    · rw [htake, strCells_str, ← cells_app]
      have e : (Lib.byteCells (acc ++ s)).length = (acc ++ s).length := by simp [Lib.byteCells]
      rw [← e]
      exact List.take_left
  · have holds : ∀ j u, (Lib.byteCells acc)[j]? = some u → w.cell? ((⟨g, 0, none⟩ : Addr).add j) = some u := by
      intro j u hu
      rw [add_off]
      simp only [World.cell?, hg]
      have hlt := (List.getElem?_eq_some_iff.1 hu).1
      rw [← htake, List.getElem?_take, if_pos (by omega)] at hu
      simpa using hu
    have hr := Lib.run_append_grow_string (P := Tryz.prog) w 32 9 ty 5 i0 (.int .u8 0) Tryz.underlying32 Tryz.underlying9 hi0 hz0 ⟨g, 0, none⟩ acc.length cap (Lib.byteCells acc) (by rw [hz1]; simpa using hxl) holds (str s) (by omega) (by omega) (by rw [hz2]; exact growslice_fits (by omega) (by omega))
    have hge := grownCap_ge w (acc.length + (str s).size) cap 5
    have hcm2 : grownCap w (acc.length + (str s).size) cap 5 ≤ maxLen := grownCap_le_maxLen w (acc.length + (str s).size) cap 5 (by unfold maxLen; omega)
    refine ⟨_, _, hr, ⟨w.heap.size, _, _, (0, 0), by rw [List.length_append, hsz], hbase, heap_alloc_new w.drew _, fun j _ h => by simp at h, by rw [List.length_append, ← hsz]; exact hge, hcm2, ?_, ?_⟩, ⟨rfl, rfl, rfl, by simp, fun k hk _ => heap_alloc_old w.drew _ hk⟩⟩
    · have hz1' : (Value.int IntKind.u8 0).cells.size = 1 := rfl
      simp only [Array.size_append, List.size_toArray, size_zeroCells, hz1', hxl, Lib.strCells_length]
      omega
    · simp only [Array.toList_append]
      rw [strCells_str, ← cells_app]
      have e : (Lib.byteCells (acc ++ s)).length = (acc ++ s).length := by simp [Lib.byteCells]
      rw [← e]
      exact List.take_left
theorem wpList_append_M {w : World} {ops : Array Oper} {rest : List Oper} {o : Oper} {a : Act} {Q : Exit → Act → World → Prop} (hgd : o.guard = none) (sl x : Operand)
    (ho : o.op = .call { callee := .builtin .append, args := #[sl, x], argTypes := #[32, 9] }) (base : Nat) (v : Value) (acc s : B) (hs : a.eval sl = v) (hown : OwnM w base v acc) (hx : a.eval x = .string (str s))
    (hbytes : acc.length + s.length ≤ 140737488355328) (hbase : base ≤ w.heap.size)
    (h : ∀ v' w', OwnM w' base v' (acc ++ s) → w.grownBy w' v.ownBlock → wpList Tryz.prog ops Q rest (a.put o.dst v') w') : wpList Tryz.prog ops Q (o :: rest) a w := by
  refine wpList_plain hgd fun K hK => ?_
  obtain ⟨v', w', hr, h2, h3⟩ := appendM w base v acc hown s o.type hbytes hbase
  unfold Oper.wp execOp
  simp only [ho, resolve, invoke, builtin, Sem.run_bind, Sem.run_pure, Result.andThen_ok, List.map_toArray, List.map_cons, List.map_nil, hs, hx, hr]
  exact hK _ _ (h v' w' h2 h3)
theorem ownM_slice {w : World} {base : Nat} {v : Value} {acc : B} (h : OwnM w base v acc) : ∃ q c, v = .slice q acc.length c := by
  obtain ⟨g, cap, _, _, h1, _⟩ := h
  exact ⟨_, cap, h1⟩
/-- A row of fields that is handed in. -/
def FAt (w : World) (p : Option Addr) (fs : List (B × B)) : Prop := ∀ j f, fs[j]? = some f → ∃ g o, p = some ⟨g, o, none⟩ ∧ w.cell? ⟨g, o + j * 2, none⟩ = some (.string (str f.1)) ∧ w.cell? ⟨g, o + j * 2 + 1, none⟩ = some (.string (str f.2))
theorem FAt.next {w w' : World} {p : Option Addr} {fs : List (B × B)} (h : FAt w p fs) (hb : Below w.heap.size w w') : FAt w' p fs := by
  intro j f hj
  obtain ⟨g, o, e, h1, h2⟩ := h j f hj
  exact ⟨g, o, e, cell_keep hb h1, cell_keep hb h2⟩
def fieldW (f : B × B) : B := f.1 ++ (58 :: 32 :: (f.2 ++ [13, 10]))
theorem fieldW_len (f : B × B) : (fieldW f).length = f.1.length + f.2.length + 4 := by unfold fieldW; simp; omega
theorem take_flat {fs : List (B × B)} {i : Nat} {f : B × B} (h : fs[i]? = some f) : (fs.take (i + 1)).flatMap fieldW = (fs.take i).flatMap fieldW ++ fieldW f := by
  rw [List.take_add_one, h]; simp
theorem flat_len2 {K : Nat} : ∀ fs : List (B × B), (∀ f ∈ fs, f.1.length ≤ K ∧ f.2.length ≤ K) → (fs.flatMap fieldW).length ≤ fs.length * (2 * K + 4)
  | [], _ => by simp
  | x :: l, h => by
    have h1 := h x (by simp)
    have h2 := flat_len2 l (fun f hf => h f (by simp [hf]))
    rw [List.flatMap_cons, List.length_append, fieldW_len, List.length_cons, Nat.succ_mul]
    omega
def valK (v : B) : Bool := v.all valU && decide (trimL v = v)
def okK (f : B × B) : Bool := isTok (str f.1) && valK f.2
def fineK (fs : List (B × B)) : Bool := decide (fs.length ≤ 64) && fs.all okK
theorem all_falseK {fs : List (B × B)} {i : Nat} {f : B × B} (h : fs[i]? = some f) (hf : okK f = false) : fs.all okK = false := by
  rw [List.all_eq_false]
  exact ⟨f, List.mem_of_getElem? h, by rw [hf]; simp⟩
def lastK (fs : List (B × B)) : B := ([48, 13, 10] ++ fs.flatMap fieldW) ++ [13, 10]
def lastE (fs : List (B × B)) : Nat := if fineK fs = true then (if (fs.flatMap fieldW).length ≤ 8192 then 0 else 22) else 21
theorem lastM (w : World) (C : Array Value) (hC : C = #[.int .u8 48, .int .u8 13, .int .u8 10]) : OwnM (w.alloc (.cells C 5 (3, 4))) w.heap.size (.slice (some ⟨w.heap.size, 0, none⟩) 3 3) [48, 13, 10] := by
  subst hC
  refine ⟨w.heap.size, 3, _, (3, 4), rfl, Nat.le_refl _, heap_alloc_new w _, fun j hj h => ?_, Nat.le_refl _, by unfold maxLen; omega, rfl, rfl⟩
  have h1 : 3 ≤ j := h.1
  have h2 : j < 3 := hj
  omega
end Go.Proofs.YtnlmjlfoeodleaaGreatDoor
/- A whole body; the law's small functions. -/
namespace Go.Proofs.YtnlmjlfoeodleaaGreatDoor
open Go.RowKit

theorem FedG.below {F G : Nat → Prop} {w w' : World} {g N : Nat} {s : KS} {l : B} {v : Value} (h : FedG F w w' g s l G v) (hF : ∀ k, F k → N ≤ k) (hN : N ≤ w.heap.size) : Below N w w' := h.only.below hF hN
theorem feed_as {F : Nat → Prop} {w : World} {g : Nat} {s : KS} (h : RdAt F w g s) (hi : InvK s) (l : B) (p : Option Addr) (n c : Nat) (hn : l.length = n) (hnc : n ≤ c) (ha : ArgAt w p l) (hp : ArgOut F p l) (hl : n ≤ 281474976710656) {N M : Nat} {b : Bool} {E : Value} (h1 : feedN s l = N) (h2 : (feedB s l).length = M) (h3 : decide ((feedK s l).st = 11) = b) (h4 : errOf (feedK s l).err = E) :
    Calls Tryz.prog 70 #[.pointer (some ⟨g, 0, none⟩), .slice p n c] w fun e w' => ∃ q d G, e = .returned (.tuple #[.int .i64 (N : Int), .slice q M d, .bool b, E]) ∧ FedG F w w' g s l G (.slice q M d) := by
  refine (feed_any h hi l p n c hn hnc ha hp hl).mono ?_
  rintro e w' ⟨q, d, rfl, G, hG⟩
  subst h1 h2 h3 h4
  exact ⟨q, d, G, rfl, hG⟩
def wholeE (s : KS) : Nat := if s.err ≠ 0 then s.err else if s.st = 11 then 0 else 31
theorem assertE (v : Value) (w : World) : (Instr.typeAssert (.iface 72 v) 29 72 true).run Tryz.prog w = .ok (.tuple #[v, .bool true]) w := by kernel_rfl
/-- A copy of bytes that were handed in. -/
theorem wpList_copy {w : World} {ops : Array Oper} {rest : List Oper} {o : Oper} {a : Act} {Q : Exit → Act → World → Prop} (hgd : o.guard = none) (s x : Operand)
    (ho : o.op = .call { callee := .builtin .append, args := #[s, x], argTypes := #[32, 32] }) (hs : a.eval s = .slice none 0 0) (L : B) (p : Option Addr) (n c : Nat) (hx : a.eval x = .slice p n c) (hn : L.length = n) (hA : ArgAt w p L) (hp : p = none → c = 0) (hl : n ≤ 140737488355328)
    (h : ∀ q d w', Own w' w.heap.size (.slice q n d) L → Below w.heap.size w w' → (n = 0 → q = none ∧ d = 0) → (0 < n → ∃ g, q = some ⟨g, 0, none⟩) → wpList Tryz.prog ops Q rest (a.put o.dst (.slice q n d)) w') : wpList Tryz.prog ops Q (o :: rest) a w := by
  obtain ⟨i0, hi0, hz0, hz1, hz2⟩ := info_parts infoB
  cases p with
  | none =>
    have hL : L = [] := by
      cases L with
      | nil => rfl
      | cons y r => obtain ⟨_, _, e, _⟩ := hA 0 y rfl; cases e
    subst hL
    obtain rfl : n = 0 := by simpa using hn.symm
    obtain rfl := hp rfl
    exact wpList_append_own_none hgd s x 32 ho w.heap.size 5 i0 1 Tryz.underlying32 hi0 (.slice none 0 0) 0 [] hs ⟨rfl, .inl ⟨rfl, rfl⟩⟩ hx (h none 0 w (Own.nil _ _) (Below.refl _ _) (fun _ => ⟨rfl, rfl⟩) (fun h => absurd h (by omega)))
  | some ad =>
    refine wpList_append_own_at w hgd s x 32 ho w.heap.size 5 i0 _ 1 1 Tryz.underlying32 hi0 hz0 hz1 hz2 rfl (by decide) (.slice none 0 0) 0 [] hs ⟨rfl, .inl ⟨rfl, rfl⟩⟩ ad n c (Lib.byteCells L) hx (by simp [Lib.byteCells, hn]) (fun j u hj => ?_) (fun u hu => ?_) (by unfold maxLen; omega) (by omega) (Nat.le_refl _) ?_
    · unfold Lib.byteCells at hj
      rw [List.getElem?_map] at hj
      cases hy : L[j]? with
      | none => rw [hy] at hj; cases hj
      | some y =>
        rw [hy] at hj
        obtain rfl := Option.some.inj hj
        obtain ⟨g, o2, e, hc⟩ := hA j y hy
        obtain rfl := Option.some.inj e
        have : (⟨g, o2, none⟩ : Addr).add j = ⟨g, o2 + j, none⟩ := by unfold Addr.add; split <;> simp_all
        rw [this]
        exact hc
    · unfold Lib.byteCells at hu
      obtain ⟨c, _, rfl⟩ := List.mem_map.1 hu
      rfl
    · intro v' w' hown hgr hnil _
      rw [Nat.zero_add, List.nil_append] at hown
      have hsome : 0 < n → ∃ g cp, v' = .slice (some ⟨g, 0, none⟩) n cp := fun hp => by
        rcases hown.2 with ⟨_, h0⟩ | ⟨g, cap, cur, h1, _⟩
        · omega
        · exact ⟨g, cap, h1⟩
      obtain ⟨q, d, rfl⟩ := own_slice hown
      refine h q d w' (by unfold Own; rw [hn]; exact hown) (below_grown hgr) (fun h0 => ?_) (fun h0 => ?_)
      · have := hnil.2 ⟨rfl, h0⟩
        simp only [Value.slice.injEq] at this
        exact ⟨this.1, this.2.2⟩
      · obtain ⟨g, cp, e⟩ := hsome h0
        simp only [Value.slice.injEq] at e
        exact ⟨g, e.1⟩
structure RdL (U : World) (g o g' o' : Nat) (N V : ByteArray) : Prop where
  a0 : U.cell? ⟨g, o, none⟩ = some (.string N)
  a1 : U.cell? ⟨g, o + 1, none⟩ = some (.string V)
  b0 : U.cell? ⟨g', o', none⟩ = some (.string N)
  b1 : U.cell? ⟨g', o' + 1, none⟩ = some (.string V)
theorem OwnF.fat {w : World} {b n c : Nat} {p : Option Addr} {fs : List (B × B)} (h : OwnF w b (.slice p n c) fs) : FAt w p fs := fun j f hj => by
  obtain ⟨g, o, e, h1, h2⟩ := h.at hj
  exact ⟨g, o, e, by rw [Nat.mul_comm]; exact h1, by rw [Nat.mul_comm]; exact h2⟩
theorem const_arg (w : World) (C : Array Value) (L : B) (fr : Nat × Nat) (hC : C = (Lib.byteCells L).toArray) : ArgAt (w.alloc (.cells C 5 fr)) (some ⟨w.heap.size, 0, none⟩) L := by
  subst hC
  intro i y hi
  refine ⟨w.heap.size, 0, rfl, ?_⟩
  have h1 := heap_alloc_new w (.cells (Lib.byteCells L).toArray 5 fr)
  rw [Nat.zero_add]
  simp only [World.cell?, h1]
  simp [Lib.byteCells, hi]
def wkA : B := [51, 13, 10, 97, 98, 99, 13, 10, 48, 13, 10, 13, 10, 88]
def wkB : B := [51, 10, 97, 98, 99]
def wkH : B := [104, 101, 108, 108, 111]
theorem wk_a : (feedK (newK 10) wkA).err = 0 ∧ (feedK (newK 10) wkA).st = 11 ∧ feedB (newK 10) wkA = [97, 98, 99] ∧ (feedK (newK 10) wkA).tr = [] ∧ feedN (newK 10) wkA = 13 := by decide +kernel
theorem wk_b : (feedK (newK 10) wkB).err = 31 ∧ feedN (newK 10) wkB = 2 := by decide +kernel
theorem wk_h : encK wkH = [53, 13, 10, 104, 101, 108, 108, 111, 13, 10] := by decide +kernel
end Go.Proofs.YtnlmjlfoeodleaaGreatDoor
/- Parts of a slice of bytes, as laws for a walk, whatever its base is. -/
namespace Go.Proofs.YtnlmjlfoeodleaaGreatDoor
open Go.RowKit

theorem slB : Tryz.prog.underlying 32 = some (.slice (Tryz.prog.elem 32)) := by kernel_rfl
theorem szB (W : World) : (sizeOf (Tryz.prog.elem 32)).run Tryz.prog W = .ok 1 W := by
  have hs : (Tryz.prog.info? (Tryz.prog.elem 32)).map (·.size) = some 1 := by kernel_rfl
  cases hq : Tryz.prog.info? (Tryz.prog.elem 32) with
  | none => simp [hq] at hs
  | some i =>
    have hz : i.size = 1 := by simpa [hq] using hs
    simp [sizeOf, typeInfo, hq, hz]
/-- What a slice handed in may be. -/
structure SlOk (p : Option Addr) (n c : Nat) (L : B) : Prop where
  len : L.length = n
  cap : n ≤ c
  nil : p = none → c = 0
  plain : ∀ a, p = some a → L ≠ [] → ∃ g o, a = ⟨g, o, none⟩
/-- A part of a slice. -/
structure Part (p : Option Addr) (L : B) (q : Option Addr) (k d : Nat) (l : Nat) : Prop where
  arg : ∀ w : World, ArgAt w p L → ArgAt w q ((L.drop l).take k)
  cap : k ≤ d
  nil : q = none → d = 0
  blk : ∀ a, q = some a → ∃ a0, p = some a0 ∧ a.block = a0.block
theorem ArgAt.plain {w : World} {p : Option Addr} {L : B} (h : ArgAt w p L) : ∀ a, p = some a → L ≠ [] → ∃ g o, a = ⟨g, o, none⟩ := by
  intro a e hL
  cases L with
  | nil => exact absurd rfl hL
  | cons y l =>
    obtain ⟨g, o, e2, _⟩ := h 0 y rfl
    rw [e] at e2
    exact ⟨g, o, Option.some.inj e2⟩
theorem part_any {p : Option Addr} {n c : Nat} {L : B} (h : SlOk p n c L) (l k : Nat) (hk : l + k ≤ n) : ∃ q d, sliced p l (l + k) c 1 = .slice q k d ∧ Part p L q k d l := by
  have hcap := h.cap
  cases p with
  | none =>
    have hc := h.nil rfl
    subst hc
    obtain rfl : l = 0 := by omega
    obtain rfl : k = 0 := by omega
    exact ⟨none, 0, by simp [sliced], ⟨fun w _ j y hj => by simp at hj, Nat.le_refl _, fun _ => rfl, (fun a e => by cases e)⟩⟩
  | some a =>
    by_cases hc : c = l
    · refine ⟨some a, c - l, by simp [sliced, hc], ⟨fun w _ j y hj => ?_, by omega, (fun e => by cases e), fun a2 e => ⟨a, rfl, by rw [Option.some.inj e]⟩⟩⟩
      obtain rfl : k = 0 := by omega
      simp at hj
    · by_cases hL : L = []
      · have hn := h.len
        subst hL
        obtain rfl : n = 0 := by simpa using hn.symm
        obtain rfl : l = 0 := by omega
        obtain rfl : k = 0 := by omega
        refine ⟨some (a.add (0 * 1)), c - 0, by simp [sliced, hc], ⟨fun w _ j y hj => by simp at hj, by omega, (fun e => by cases e), fun a2 e => ⟨a, rfl, ?_⟩⟩⟩
        rw [← Option.some.inj e]
        unfold Addr.add
        split <;> rfl
      · obtain ⟨g, o, rfl⟩ := h.plain a rfl hL
        have hadd : (⟨g, o, none⟩ : Addr).add (l * 1) = ⟨g, o + l, none⟩ := by unfold Addr.add; split <;> simp_all
        refine ⟨some ⟨g, o + l, none⟩, c - l, ?_, ⟨fun w ha => arg_take (arg_drop ha l) k, by omega, (fun e => by cases e), fun a2 e => ⟨_, rfl, by rw [← Option.some.inj e]⟩⟩⟩
        simp [sliced, hc]
        simpa using hadd
theorem part_lh {p : Option Addr} {n c : Nat} {L : B} (h : SlOk p n c L) (l k : Nat) (hk : l + k ≤ n) : ∃ q d, (∀ W, (Instr.sliceAt 32 (.slice p n c) (some (.int .i64 (l : Int))) (some (.int .i64 ((l : Int) + (k : Int)))) none).run Tryz.prog W = .ok (.slice q k d) W) ∧ Part p L q k d l := by
  obtain ⟨q, d, h1, h2⟩ := part_any h l k hk
  have := h.cap
  refine ⟨q, d, fun W => ?_, h2⟩
  rw [run_sliceAt_slice _ _ _ _ _ _ slB, run_slice_lh _ _ _ _ _ slB _ _ _ _ (by omega) (by omega) (by omega), szB]
  rw [show ((l : Int) + (k : Int)).toNat = l + k by omega, Int.toNat_natCast]
  simp only [Result.andThen]
  rw [h1]
theorem part_l {p : Option Addr} {n c : Nat} {L : B} (h : SlOk p n c L) (l : Nat) (hk : l ≤ n) : ∃ q d, (∀ W, (Instr.sliceAt 32 (.slice p n c) (some (.int .i64 (l : Int))) none none).run Tryz.prog W = .ok (.slice q (n - l) d) W) ∧ Part p L q (n - l) d l := by
  obtain ⟨q, d, h1, h2⟩ := part_any h l (n - l) (by omega)
  refine ⟨q, d, fun W => ?_, h2⟩
  rw [run_sliceAt_slice _ _ _ _ _ _ slB, run_slice_l _ _ _ _ _ slB _ _ (by omega) (by omega), szB]
  rw [Int.toNat_natCast]
  simp only [Result.andThen]
  rw [show l + (n - l) = n by omega] at h1
  rw [h1]
theorem part_h {p : Option Addr} {n c : Nat} {L : B} (h : SlOk p n c L) (k : Nat) (hk : k ≤ n) : ∃ q d, (∀ W, (Instr.sliceAt 32 (.slice p n c) none (some (.int .i64 (k : Int))) none).run Tryz.prog W = .ok (.slice q k d) W) ∧ Part p L q k d 0 := by
  obtain ⟨q, d, h1, h2⟩ := part_any h 0 k (by omega)
  have := h.cap
  refine ⟨q, d, fun W => ?_, h2⟩
  rw [run_sliceAt_slice _ _ _ _ _ _ slB, run_slice_h _ _ _ _ _ slB _ _ (by omega) (by omega), szB]
  rw [Int.toNat_natCast]
  simp only [Result.andThen]
  rw [Nat.zero_add] at h1
  rw [h1]
theorem wpList_sl {w : World} {ops : Array Oper} {rest : List Oper} {o : Oper} {a : Act} {Q : Exit → Act → World → Prop} (hgd : o.guard = none) (x : Operand) (lo hi : Option Operand) (ho : o.op = .slice 32 x lo hi none) (xv v : Value) (lv hv : Option Value) (hx : a.eval x = xv) (hl : lo.map a.eval = lv) (hh : hi.map a.eval = hv)
    (hr : ∀ W, (Instr.sliceAt 32 xv lv hv none).run Tryz.prog W = .ok v W) (h : wpList Tryz.prog ops Q rest (a.put o.dst v) w) : wpList Tryz.prog ops Q (o :: rest) a w := by
  refine wpList_plain hgd fun K hK => ?_
  unfold Oper.wp execOp
  simp only [ho, Option.map_none, hx, hl, hh, Sem.run_bind, hr, Result.andThen_ok]
  exact hK _ _ h
end Go.Proofs.YtnlmjlfoeodleaaGreatDoor
