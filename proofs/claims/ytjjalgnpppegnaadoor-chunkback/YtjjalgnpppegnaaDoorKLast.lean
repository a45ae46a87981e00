/- The last chunk written: fields that may be written, the size of their lines, Last. -/
import Derived.Test.YtjjalgnpppegnaaDoorKEnc
import Derived.Lib.SlBytesConst
import Derived.Lib.FrozenHead
namespace Go.Proofs.YtjjalgnpppegnaaDoor
open Go.RowKit

/-- No cell of a row of n cells lies in the marked stretch. -/
def Free (fz : Nat × Nat) (n : Nat) : Prop := ∀ j, j < n → ¬ (fz.1 ≤ j ∧ j < fz.2)
def OwnM (w : World) (base : Nat) (v : Value) (acc : B) : Prop :=
  ∃ g cap cur fz, v = .slice (some ⟨g, 0, none⟩) acc.length cap ∧ base ≤ g ∧ w.heap[g]? = some (.cells cur 5 fz) ∧ Free fz cur.size ∧ acc.length ≤ cap ∧ cap ≤ maxLen ∧ cur.size = cap ∧ cur.toList.take acc.length = Lib.byteCells acc
theorem OwnM.keep {w w' : World} {base : Nat} {v : Value} {acc : B} (h : OwnM w base v acc) (hb : Below w.heap.size w w') : OwnM w' base v acc := by
  obtain ⟨g, cap, cur, fz, h1, h2, h3, h4⟩ := h
  exact ⟨g, cap, cur, fz, h1, h2, (hb.block g (lt_of_heap h3)).trans h3, h4⟩
theorem OwnM.arg {w : World} {base : Nat} {v : Value} {acc : B} (h : OwnM w base v acc) : ∃ g cap, v = .slice (some ⟨g, 0, none⟩) acc.length cap ∧ base ≤ g ∧ ArgAt w (some ⟨g, 0, none⟩) acc := by
  obtain ⟨g, cap, cur, fz, h1, h2, h3, _, _, _, _, h8⟩ := h
  refine ⟨g, cap, h1, h2, fun i y hi => ⟨g, 0, rfl, ?_⟩⟩
  have hlt := (List.getElem?_eq_some_iff.1 hi).1
  have e : (cur.toList.take acc.length)[i]? = some (.int .u8 (y.toNat : Int)) := by
    rw [h8]
    simp [Lib.byteCells, hi]
  rw [List.getElem?_take, if_pos hlt] at e
  rw [Nat.zero_add]
  simp only [World.cell?, h3]
  simpa using e
theorem OwnM.below {w w' : World} {base : Nat} {v : Value} {acc : B} (h : OwnM w base v acc) (hb : base ≤ w.heap.size) (hg : w.grownBy w' v.ownBlock) : Below base w w' := by
  obtain ⟨g, cap, cur, fz, rfl, h2, h3, _⟩ := h
  exact ⟨hg.os, hg.tape, hg.output, hg.size, fun k hk => hg.block k (by omega) (fun e => by have h9 := Option.some.inj (show some k = some g from e); omega)⟩
theorem storeM (P : Program) (g o : Nat) (t : TypeId) (fz : Nat × Nat) : ∀ (vs : List Value) (i : Nat) (cur : Array Value) (w : World), w.heap[g]? = some (.cells cur t fz) → Free fz cur.size → o + i + vs.length ≤ cur.size → (∀ v ∈ vs, v.oneCell' = true) →
    (storeCells ⟨g, o, none⟩ vs i).run P w = .ok () (w.setRow g (cur.toList.take (o + i) ++ vs ++ cur.toList.drop (o + i + vs.length)).toArray)
  | [], i, cur, w, hg, _, _, _ => by
    simp only [storeCells, List.append_nil, List.length_nil, Nat.add_zero, List.take_append_drop, Array.toArray_toList]
    rw [setRow_self w g cur t fz hg]
    rfl
  | v :: rest, i, cur, w, hg, hfz, hl, h1 => by
    have hi : o + i < cur.size := by simp at hl; omega
    have hadd : (⟨g, o, none⟩ : Addr).add i = ⟨g, o + i, none⟩ := by unfold Addr.add; split <;> simp_all
    have hcell : w.cell? ⟨g, o + i, none⟩ = some cur[o + i] := by simp [World.cell?, hg, hi]
    have hfro : w.frozen? ⟨g, o + i, none⟩ = false := by
      have h9 := hfz (o + i) hi
      obtain ⟨lo, hi'⟩ := fz
      simp only [World.frozen?, hg, Bool.and_eq_false_iff, decide_eq_false_iff_not]
      simp only at h9
      omega
    have hst : (store ((⟨g, o, none⟩ : Addr).add i) v).run P w = .ok () (w.setRow g (cur.setIfInBounds (o + i) v)) := by
      rw [hadd, run_store P w _ v _ (h1 v (by simp)), hcell]
      simp [hfro, setCell_eq_setRow w g (o + i) cur t fz v hg]
    have ih := storeM P g o t fz rest (i + 1) (cur.setIfInBounds (o + i) v) (w.setRow g (cur.setIfInBounds (o + i) v)) (setRow_heap w g cur _ t _ hg) (by simpa using hfz) (by simp at hl ⊢; omega) (fun x hx => h1 x (by simp [hx]))
    simp only [storeCells, Sem.run_bind, hst, Result.andThen_ok, ih, setRow_setRow]
    congr 3
    have e := list_seg_step cur.toList (o + i) v rest (by simp at hl ⊢; omega)
    simpa [Array.toList_setIfInBounds, Nat.add_assoc] using e
theorem appendM (w : World) (base : Nat) (v : Value) (acc : B) (hown : OwnM w base v acc) (s : B) (ty : TypeId) (hbytes : acc.length + s.length ≤ 140737488355328) (hbase : base ≤ w.heap.size) :
    ∃ v' w', (Builtin.append_ #[24, 9] ty #[v, .string (str s)]).run Tryd.prog w = .ok v' w' ∧ OwnM w' base v' (acc ++ s) ∧ w.grownBy w' v.ownBlock := by
  obtain ⟨i0, hi0, hz0, hz1, hz2⟩ := info_parts infoB
  obtain ⟨g, cap, cur, fz, rfl, hbg, hg, hfz, hnc, hcm, hcs, htake⟩ := hown
  have hxl : (Lib.byteCells acc).length = acc.length := by simp [Lib.byteCells]
  have hsz : (str s).size = s.length := str_size s
  by_cases hroom : acc.length + (str s).size ≤ cap
  · have hf := Lib.run_firstCells_string (P := Tryd.prog) w 1 (str s)
    have hst := storeM Tryd.prog g acc.length 5 fz (Lib.strCells (str s)) 0 cur w hg hfz (by rw [Lib.strCells_length]; omega) (Lib.strCells_oneCell (str s))
    simp only [Nat.add_zero, Lib.strCells_length] at hst
    have hr : (Builtin.append_ #[24, 9] ty #[.slice (some ⟨g, 0, none⟩) acc.length cap, .string (str s)]).run Tryd.prog w = .ok (.slice (some ⟨g, 0, none⟩) (acc.length + (str s).size) cap) (w.setRow g (cur.toList.take acc.length ++ Lib.strCells (str s) ++ cur.toList.drop (acc.length + (str s).size)).toArray) := by
      simp [Builtin.append_, run_underlying Tryd.underlying24, run_underlying Tryd.underlying9, sizeOf, typeInfo, hi0, hz1, Builtin.lenOf, hroom, hf, Addr.add_lit, hst]
    refine ⟨_, _, hr, ⟨g, cap, _, fz, by rw [List.length_append, hsz], hbg, setRow_heap w g cur _ _ _ hg, ?_, by rw [List.length_append]; omega, hcm, ?_, ?_⟩, ⟨rfl, rfl, rfl, by simp, fun k _ hk => setRow_other w g k _ (fun e => hk (by simp [Value.ownBlock, e]))⟩⟩
    · refine fun j hj => hfz j ?_
      simp only [List.size_toArray, List.length_append, List.length_take, List.length_drop, Array.length_toList, Lib.strCells_length] at hj
      omega
    · simp only [List.size_toArray, List.length_append, List.length_take, List.length_drop, Array.length_toList, Lib.strCells_length]
      omega
    · rw [htake, strCells_str, ← cells_app]
      have e : (Lib.byteCells (acc ++ s)).length = (acc ++ s).length := by simp [Lib.byteCells]
      rw [← e]
      exact List.take_left
  · have holds : ∀ j u, (Lib.byteCells acc)[j]? = some u → w.cell? ((⟨g, 0, none⟩ : Addr).add j) = some u := by
      intro j u hu
      rw [add_off]
      simp only [World.cell?, hg]
      have hlt := (List.getElem?_eq_some_iff.1 hu).1
      rw [← htake, List.getElem?_take, if_pos (by omega)] at hu
      simpa using hu
    have hr := Lib.run_append_grow_string (P := Tryd.prog) w 24 9 ty 5 i0 (.int .u8 0) Tryd.underlying24 Tryd.underlying9 hi0 hz0 ⟨g, 0, none⟩ acc.length cap (Lib.byteCells acc) (by rw [hz1]; simpa using hxl) holds (str s) (by omega) (by omega) (by rw [hz2]; exact growslice_fits (by omega) (by omega))
    have hge := grownCap_ge w (acc.length + (str s).size) cap 5
    have hcm2 : grownCap w (acc.length + (str s).size) cap 5 ≤ maxLen := grownCap_le_maxLen w (acc.length + (str s).size) cap 5 (by unfold maxLen; omega)
    refine ⟨_, _, hr, ⟨w.heap.size, _, _, (0, 0), by rw [List.length_append, hsz], hbase, heap_alloc_new w.drew _, fun j _ h => by simp at h, by rw [List.length_append, ← hsz]; exact hge, hcm2, ?_, ?_⟩, ⟨rfl, rfl, rfl, by simp, fun k hk _ => heap_alloc_old w.drew _ hk⟩⟩
    · have hz1' : (Value.int IntKind.u8 0).cells.size = 1 := rfl
      simp only [Array.size_append, List.size_toArray, size_zeroCells, hz1', hxl, Lib.strCells_length]
      omega
    · simp only [Array.toList_append]
      rw [strCells_str, ← cells_app]
      have e : (Lib.byteCells (acc ++ s)).length = (acc ++ s).length := by simp [Lib.byteCells]
      rw [← e]
      exact List.take_left
theorem wpList_append_M {w : World} {ops : Array Oper} {rest : List Oper} {o : Oper} {a : Act} {Q : Exit → Act → World → Prop} (hgd : o.guard = none) (sl x : Operand)
    (ho : o.op = .call { callee := .builtin .append, args := #[sl, x], argTypes := #[24, 9] }) (base : Nat) (v : Value) (acc s : B) (hs : a.eval sl = v) (hown : OwnM w base v acc) (hx : a.eval x = .string (str s))
    (hbytes : acc.length + s.length ≤ 140737488355328) (hbase : base ≤ w.heap.size)
    (h : ∀ v' w', OwnM w' base v' (acc ++ s) → w.grownBy w' v.ownBlock → wpList Tryd.prog ops Q rest (a.put o.dst v') w') : wpList Tryd.prog ops Q (o :: rest) a w := by
  refine wpList_plain hgd fun K hK => ?_
  obtain ⟨v', w', hr, h2, h3⟩ := appendM w base v acc hown s o.type hbytes hbase
  unfold Oper.wp execOp
  simp only [ho, resolve, invoke, builtin, Sem.run_bind, Sem.run_pure, Result.andThen_ok, List.map_toArray, List.map_cons, List.map_nil, hs, hx, hr]
  exact hK _ _ (h v' w' h2 h3)
theorem ownM_slice {w : World} {base : Nat} {v : Value} {acc : B} (h : OwnM w base v acc) : ∃ q c, v = .slice q acc.length c := by
  obtain ⟨g, cap, _, _, h1, _⟩ := h
  exact ⟨_, cap, h1⟩
/-- A row of fields that is handed in. -/
def FAt (w : World) (p : Option Addr) (fs : List (B × B)) : Prop := ∀ j f, fs[j]? = some f → ∃ g o, p = some ⟨g, o, none⟩ ∧ w.cell? ⟨g, o + j * 2, none⟩ = some (.string (str f.1)) ∧ w.cell? ⟨g, o + j * 2 + 1, none⟩ = some (.string (str f.2))
theorem FAt.next {w w' : World} {p : Option Addr} {fs : List (B × B)} (h : FAt w p fs) (hb : Below w.heap.size w w') : FAt w' p fs := by
  intro j f hj
  obtain ⟨g, o, e, h1, h2⟩ := h j f hj
  exact ⟨g, o, e, cell_keep hb h1, cell_keep hb h2⟩
def fieldW (f : B × B) : B := f.1 ++ (58 :: 32 :: (f.2 ++ [13, 10]))
theorem fieldW_len (f : B × B) : (fieldW f).length = f.1.length + f.2.length + 4 := by unfold fieldW; simp; omega
theorem take_flat {fs : List (B × B)} {i : Nat} {f : B × B} (h : fs[i]? = some f) : (fs.take (i + 1)).flatMap fieldW = (fs.take i).flatMap fieldW ++ fieldW f := by
  rw [List.take_add_one, h]; simp
theorem flat_len2 {K : Nat} : ∀ fs : List (B × B), (∀ f ∈ fs, f.1.length ≤ K ∧ f.2.length ≤ K) → (fs.flatMap fieldW).length ≤ fs.length * (2 * K + 4)
  | [], _ => by simp
  | x :: l, h => by
    have h1 := h x (by simp)
    have h2 := flat_len2 l (fun f hf => h f (by simp [hf]))
    rw [List.flatMap_cons, List.length_append, fieldW_len, List.length_cons, Nat.succ_mul]
    omega
def valK (v : B) : Bool := v.all valU && decide (trimL v = v)
def okK (f : B × B) : Bool := isTok (str f.1) && valK f.2
def fineK (fs : List (B × B)) : Bool := decide (fs.length ≤ 64) && fs.all okK
theorem all_falseK {fs : List (B × B)} {i : Nat} {f : B × B} (h : fs[i]? = some f) (hf : okK f = false) : fs.all okK = false := by
  rw [List.all_eq_false]
  exact ⟨f, List.mem_of_getElem? h, by rw [hf]; simp⟩
set_option maxRecDepth 20000 in
set_option maxHeartbeats 8000000 in
theorem isvalue_any (v : B) (hs : v.length ≤ 140737488355328) (w : World) : Calls Tryd.prog 27 #[.string (str v)] w fun e w' => e = .returned (.bool (valK v)) ∧ Below w.heap.size w w' := by
  obtain ⟨n, hn⟩ : ∃ n, v.length = n := ⟨_, rfl⟩
  have HN := hid hn
  have HT := hid (fun W : World => trim_any (str v) W (by rw [str_size]; omega))
  have hq : ((trimS (str v)).toList == (str v).toList) = decide (trimL v = v) := by
    by_cases h : trimL v = v
    · rw [show trimS (str v) = str (trimL v) from rfl, h]; simp
    · rw [show trimS (str v) = str (trimL v) from rfl, ne_list (str_ne h), decide_eq_false h]
  obtain ⟨Q, hQ⟩ : ∃ Q, decide (trimL v = v) = Q := ⟨_, rfl⟩
  rw [hQ] at hq
  obtain ⟨S, hS⟩ : ∃ S, str v = S := ⟨_, rfl⟩
  have hSn : S.size = n := by rw [← hS, str_size, hn]
  have HByte := hid (show ∀ (k : Nat) (h : k < v.length) (h2 : k < S.size), S[k]'h2 = v[k]'h from fun k h h2 => by subst hS; rfl)
  obtain ⟨R, hR⟩ : ∃ R, valK v = R := ⟨_, rfl⟩
  have HRf := hid (show ∀ y ∈ v, valU y = false → R = false from fun y hy h => by
    rw [← hR]
    unfold valK
    rw [show v.all valU = false from by rw [List.all_eq_false]; exact ⟨y, hy, by rw [h]; simp⟩]
    rfl)
  have HRt := hid (show (∀ y ∈ v, valU y = true) → R = Q from fun h => by rw [← hR, ← hQ]; unfold valK; rw [show v.all valU = true from by rw [List.all_eq_true]; exact h]; rfl)
  obtain ⟨TS, hTS⟩ : ∃ TS, trimS (str v) = TS := ⟨_, rfl⟩
  rw [hTS] at hq HT
  rw [hS] at hq HT
  rw [hn] at hs
  rw [hS, hR]
  clear hn hS hR hQ hTS
  go_enter Tryd.func27, Tryd.ntmps27
  go_wp2
  go_loopg [6] (n + 1) (fun gk s6 wr => ∃ i : Nat, i ≤ n ∧ gk = n - i + 1 ∧ s6 = .int .i64 (i : Int) ∧ (∀ y ∈ v.take i, valU y = true) ∧ wr = w)
  case atStart => exact ⟨0, by omega, rfl, rfl, fun y hy => by simp at hy, rfl⟩
  case round =>
      obtain ⟨i, hi, rfl, rfl, hno, rfl⟩ := hrel
      have HNo := hid hno
      clear hno
      by_cases hin : i < n
      · have hi1 : i < v.length := by rw [HN.out]; exact hin
        obtain ⟨y, hy⟩ : ∃ y, v[i] = y := ⟨_, rfl⟩
        have hbyte : ∀ h : i < S.size, (S[i]'h).toNat = y.toNat := fun h => by rw [HByte.out i hi1 h, hy]
        have HI := hid (show v[i]? = some y from by rw [List.getElem?_eq_getElem hi1, hy])
        have HMe := hid (show y ∈ v from by rw [← hy]; exact List.getElem_mem hi1)
        have HRy := hid (HRf.out y HMe.out)
        have HNy := hid (show valU y = true → ∀ z ∈ v.take (i + 1), valU z = true from fun h z hz => by
          rw [List.take_add_one, HI.out] at hz
          rcases List.mem_append.1 hz with q | q
          · exact HNo.out z q
          · rw [show z = y by simpa using q]; exact h)
        have HKi := hid (fun W : World => valc_any y W)
        unfold byteV at HKi
        obtain ⟨b, hb⟩ : ∃ b, valU y = b := ⟨_, rfl⟩
        rw [hb] at HKi HRy HNy
        clear hb
        clear hy hi1
        cases b with
        | true =>
          have HNx := hid (HNy.out rfl)
          go_wp2_with (go_at_call 32; (with_reducible refine (HKi.out _).mono ?_); rintro e w1 ⟨rfl, hw1⟩; subst w1)
          go_roundg (n - (i + 1) + 1)
          case measure => omega
          case rel => exact ⟨i + 1, by omega, rfl, by push_cast; rfl, HNx.out, rfl⟩
        | false =>
          have HV := hid (HRy.out rfl)
          go_wp2_with (go_at_call 32; (with_reducible refine (HKi.out _).mono ?_); rintro e w1 ⟨rfl, hw1⟩; subst w1)
          go_ret
          exact ⟨by rw [HV.out]; rfl, Below.refl _ _⟩
      · obtain rfl : n = i := by omega
        have HV := hid (HRt.out (by have h9 := HNo.out; rw [List.take_of_length_le (by rw [HN.out]; exact Nat.le_refl _)] at h9; exact h9))
        go_wp2_with (go_at_call 33; (with_reducible refine (HT.out _).mono ?_); rintro e w1 ⟨rfl, hb⟩; have HB := hid hb; clear hb)
        go_ret
        exact ⟨ret_bool HV.out.symm, HB.out⟩
set_option maxRecDepth 20000 in
set_option maxHeartbeats 8000000 in
theorem mayfields_any (fs : List (B × B)) (p : Option Addr) (n c : Nat) (hn : fs.length = n) (w : World) (hF : FAt w p fs) (hsz : ∀ f ∈ fs, f.1.length ≤ 140737488355328 ∧ f.2.length ≤ 140737488355328) (hnn : n ≤ 140737488355328) :
    Calls Tryd.prog 19 #[.slice p n c] w fun e w' => e = .returned (.bool (fineK fs)) ∧ Below w.heap.size w w' := by
  obtain ⟨R, hR⟩ : ∃ R, fineK fs = R := ⟨_, rfl⟩
  have HR := hid hR
  have HF := hid hF
  have HSz := hid hsz
  have HN := hid hn
  rw [hR]
  clear hR hF hsz hn
  by_cases h64 : 64 < n
  · have h65 : (64 : Int) < (n : Int) := by omega
    have HV := hid (show R = false from by rw [← HR.out]; unfold fineK; rw [decide_eq_false (by rw [HN.out]; omega)]; rfl)
    go_enter Tryd.func19, Tryd.ntmps19
    go_wp2
    go_ret
    exact ⟨ret_bool HV.out.symm, Below.refl _ _⟩
  have h65 : ¬ (64 : Int) < (n : Int) := by omega
  go_enter Tryd.func19, Tryd.ntmps19
  go_wp2
  go_loopg [10] (n + 1) (fun gk s10 wr => ∃ i : Nat, s10 = .int .i64 (i : Int) ∧ i ≤ n ∧ gk = n - i + 1 ∧ Below w.heap.size w wr ∧ (fs.take i).all okK = true)
  case atStart => exact ⟨0, rfl, by omega, rfl, Below.refl _ _, by simp⟩
  case round =>
    obtain ⟨i, rfl, hin, rfl, hb, hall⟩ := hrel
    have HB := hid hb
    have HAll := hid hall
    clear hb hall
    by_cases hlt : i < n
    · obtain ⟨f, hf⟩ : ∃ f, fs[i]? = some f := ⟨fs[i]'(by rw [HN.out]; exact hlt), List.getElem?_eq_getElem (by rw [HN.out]; exact hlt)⟩
      have HFi := hid hf
      obtain ⟨g, o, hp, c0, c1⟩ := (HF.out.next HB.out) i f hf
      subst hp
      obtain ⟨fz1, fz2⟩ := HSz.out f (List.mem_of_getElem? hf)
      have hltI : (i : Int) < (n : Int) := by omega
      have HTk := hid (show ∀ w : World, _ from fun w => istoken_any (str f.1) w (by rw [str_size]; unfold maxLen; omega))
      have HVl := hid (show ∀ w : World, _ from fun w => isvalue_any f.2 (by omega) w)
      have HOk := hid (show okK f = (isTok (str f.1) && valK f.2) from rfl)
      obtain ⟨N, hN⟩ : ∃ N, str f.1 = N := ⟨_, rfl⟩
      obtain ⟨V, hV⟩ : ∃ V, str f.2 = V := ⟨_, rfl⟩
      obtain ⟨b, hb⟩ : ∃ b, valK f.2 = b := ⟨_, rfl⟩
      rw [hN] at HTk HOk c0
      rw [hV] at HVl c1
      rw [hb] at HVl HOk
      obtain ⟨W1, hW1⟩ : ∃ W1, W1 = wr.alloc (.cells #[.string N, .string V] 51 (0, 0)) := ⟨_, rfl⟩
      have HB1 := hid (show Below w.heap.size w W1 from by rw [hW1]; exact HB.out.trans ((below_new wr _).mono HB.out.size))
      have HW1 := hid hW1
      clear hf hN hV hb fz1 fz2 hW1
      cases htk : isTok N with
      | false =>
        rw [htk] at HTk HOk
        have HV := hid (show R = false from by rw [← HR.out]; unfold fineK; rw [all_falseK HFi.out (by rw [HOk.out]; rfl)]; simp)
        clear htk
        go_wp2_with (go_at_call 26; (with_reducible refine (HTk.out _).mono ?_); rintro e w1 ⟨rfl, hw1⟩; subst w1)
        go_ret
        exact ⟨ret_bool HV.out.symm, by rw [← HW1.out]; exact HB1.out⟩
      | true =>
        rw [htk] at HTk HOk
        clear htk
        cases b with
        | false =>
          have HV := hid (show R = false from by rw [← HR.out]; unfold fineK; rw [all_falseK HFi.out (by rw [HOk.out]; rfl)]; simp)
          go_wp2_with (first | (go_at_call 26; (with_reducible refine (HTk.out _).mono ?_); rintro e w1 ⟨rfl, hw1⟩; subst w1) | (go_at_call 27; (rw [← HW1.out]); (with_reducible refine (HVl.out _).mono ?_); rintro e w1 ⟨rfl, hb1⟩; have HB2 := hid (HB1.out.trans (hb1.mono HB1.out.size)); clear hb1))
          go_ret
          exact ⟨ret_bool HV.out.symm, HB2.out⟩
        | true =>
          have HNx := hid (show (fs.take (i + 1)).all okK = true from by rw [List.take_add_one, HFi.out, List.all_append, HAll.out]; simp [HOk.out])
          go_wp2_with (first | (go_at_call 26; (with_reducible refine (HTk.out _).mono ?_); rintro e w1 ⟨rfl, hw1⟩; subst w1) | (go_at_call 27; (rw [← HW1.out]); (with_reducible refine (HVl.out _).mono ?_); rintro e w1 ⟨rfl, hb1⟩; have HB2 := hid (HB1.out.trans (hb1.mono HB1.out.size)); clear hb1))
          go_roundg (n - (i + 1) + 1)
          case measure => omega
          case rel => exact ⟨i + 1, by go_num, by omega, rfl, HB2.out, HNx.out⟩
    · obtain rfl : i = n := by omega
      have HV := hid (show R = true from by rw [← HR.out]; unfold fineK; have h9 := HAll.out; rw [List.take_of_length_le (by rw [HN.out]; exact Nat.le_refl _)] at h9; rw [h9, decide_eq_true (by rw [HN.out]; omega)]; rfl)
      go_wp2
      go_ret
      exact ⟨ret_bool HV.out.symm, HB.out⟩
set_option maxRecDepth 20000 in
set_option maxHeartbeats 8000000 in
theorem lines_any (fs : List (B × B)) (p : Option Addr) (n c : Nat) (hn : fs.length = n) (w : World) (hF : FAt w p fs) (hsz : ∀ f ∈ fs, f.1.length ≤ 140737488355328 ∧ f.2.length ≤ 140737488355328) (hnn : n ≤ 64) :
    Calls Tryd.prog 20 #[.slice p n c] w fun e w' => e = .returned (.int .i64 ((fs.flatMap fieldW).length : Int)) ∧ Below w.heap.size w w' := by
  have HF := hid hF
  have HSz := hid hsz
  have HN := hid hn
  have HL := hid (show ∀ i, ((fs.take i).flatMap fieldW).length ≤ 18014398509482240 from fun i => by
    have h1 := flat_len2 (fs.take i) (fun x hx => hsz x (List.mem_of_mem_take hx))
    have h2 : (fs.take i).length ≤ n := by rw [← hn]; exact List.length_take_le' _ _
    have h3 : (fs.take i).length * (2 * 140737488355328 + 4) ≤ 64 * (2 * 140737488355328 + 4) := Nat.mul_le_mul_right _ (by omega)
    omega)
  obtain ⟨LL, hLL⟩ : ∃ LL, (fs.flatMap fieldW).length = LL := ⟨_, rfl⟩
  have HLL := hid hLL
  rw [hLL]
  clear hF hsz hn hLL
  go_enter Tryd.func20, Tryd.ntmps20
  go_wp2
  go_loopg [3, 8] (n + 1) (fun gk s3 s8 wr => ∃ i m : Nat, s3 = .int .i64 (m : Int) ∧ s8 = .int .i64 (i : Int) ∧ i ≤ n ∧ gk = n - i + 1 ∧ m = ((fs.take i).flatMap fieldW).length ∧ Below w.heap.size w wr)
  case atStart => exact ⟨0, 0, rfl, rfl, by omega, rfl, by simp, Below.refl _ _⟩
  case round =>
    obtain ⟨i, m, rfl, rfl, hin, rfl, hm, hb⟩ := hrel
    have HB := hid hb
    have HM := hid hm
    have hml : m ≤ 18014398509482240 := by have := HL.out i; omega
    clear hb hm
    by_cases hlt : i < n
    · obtain ⟨f, hf⟩ : ∃ f, fs[i]? = some f := ⟨fs[i]'(by rw [HN.out]; exact hlt), List.getElem?_eq_getElem (by rw [HN.out]; exact hlt)⟩
      have HFi := hid hf
      obtain ⟨g, o, hp, c0, c1⟩ := (HF.out.next HB.out) i f hf
      subst hp
      obtain ⟨fz1, fz2⟩ := HSz.out f (List.mem_of_getElem? hf)
      have hltI : (i : Int) < (n : Int) := by omega
      obtain ⟨a1, ha1⟩ : ∃ a, f.1.length = a := ⟨_, rfl⟩
      obtain ⟨a2, ha2⟩ : ∃ a, f.2.length = a := ⟨_, rfl⟩
      have hs1 : (str f.1).size = a1 := by rw [str_size]; exact ha1
      have hs2 : (str f.2).size = a2 := by rw [str_size]; exact ha2
      have HFw := hid (show (fieldW f).length = a1 + a2 + 4 from by rw [fieldW_len, ha1, ha2])
      rw [ha1] at fz1
      rw [ha2] at fz2
      obtain ⟨N, hN⟩ : ∃ N, str f.1 = N := ⟨_, rfl⟩
      obtain ⟨V, hV⟩ : ∃ V, str f.2 = V := ⟨_, rfl⟩
      rw [hN] at hs1 c0
      rw [hV] at hs2 c1
      obtain ⟨W1, hW1⟩ : ∃ W1, W1 = wr.alloc (.cells #[.string N, .string V] 51 (0, 0)) := ⟨_, rfl⟩
      have HB1 := hid (show Below w.heap.size w W1 from by rw [hW1]; exact HB.out.trans ((below_new wr _).mono HB.out.size))
      have HW1 := hid hW1
      clear hf hN hV ha1 ha2 hW1
      go_wp2
      go_roundg (n - (i + 1) + 1)
      case measure => omega
      case rel => exact ⟨i + 1, m + (a1 + a2 + 4), by (try simp only [hs1, hs2]); go_num, by go_num, by omega, rfl, by rw [take_flat HFi.out, List.length_append, HFw.out, HM.out], by rw [← HW1.out]; exact HB1.out⟩
    · obtain rfl : i = n := by omega
      have hltI : ¬ (i : Int) < (i : Int) := by omega
      have HV := hid (show LL = m from by rw [← HLL.out, HM.out, List.take_of_length_le (by rw [HN.out]; exact Nat.le_refl _)])
      clear hlt
      go_wp2
      go_ret
      exact ⟨by rw [HV.out]; rfl, HB.out⟩
def lastK (fs : List (B × B)) : B := ([48, 13, 10] ++ fs.flatMap fieldW) ++ [13, 10]
def lastE (fs : List (B × B)) : Nat := if fineK fs = true then (if (fs.flatMap fieldW).length ≤ 8192 then 0 else 22) else 21
set_option maxRecDepth 20000 in
set_option maxHeartbeats 8000000 in
theorem last_no (fs : List (B × B)) (p : Option Addr) (n c : Nat) (hn : fs.length = n) (w : World) (hF : FAt w p fs) (hsz : ∀ f ∈ fs, f.1.length ≤ 140737488355328 ∧ f.2.length ≤ 140737488355328) (hnn : n ≤ 140737488355328) (he : lastE fs ≠ 0) :
    Calls Tryd.prog 6 #[.slice p n c] w fun e w' => e = .returned (.tuple #[.slice none 0 0, errOf (lastE fs)]) ∧ Below w.heap.size w w' := by
  have HM := hid (mayfields_any fs p n c hn w hF hsz hnn)
  cases hfb : fineK fs with
  | false =>
    have HV := hid (show errOf (lastE fs) = .iface 48 (.int .i64 21) from by unfold lastE; rw [hfb]; rfl)
    rw [hfb] at HM
    rw [HV.out]
    clear hF hsz hn hfb he
    go_enter Tryd.func6, Tryd.ntmps6
    go_wp2_with (go_at_call 19; (with_reducible refine HM.out.mono ?_); rintro e w1 ⟨rfl, hb⟩; have HB := hid hb; clear hb)
    go_ret2
    exact ⟨rfl, HB.out⟩
  | true =>
    have hn64 : fs.length ≤ 64 := by unfold fineK at hfb; rw [Bool.and_eq_true] at hfb; exact of_decide_eq_true hfb.1
    have HSi := hid (show ∀ W : World, Below w.heap.size w W → _ from fun W hb => lines_any fs p n c hn W (hF.next hb) hsz (by omega))
    have hbig : ¬ (fs.flatMap fieldW).length ≤ 8192 := fun h => he (by unfold lastE; rw [if_pos hfb, if_pos h])
    have HV := hid (show errOf (lastE fs) = .iface 48 (.int .i64 22) from by unfold lastE; rw [if_pos hfb, if_neg hbig]; rfl)
    obtain ⟨L, hL⟩ : ∃ L : Int, ((fs.flatMap fieldW).length : Int) = L := ⟨_, rfl⟩
    have hbigI : decide ((8192 : Int) < L) = true := by rw [decide_eq_true_iff]; omega
    rw [hfb] at HM
    rw [hL] at HSi
    rw [HV.out]
    clear hF hsz hn hfb he hbig hL hn64
    go_enter Tryd.func6, Tryd.ntmps6
    go_wp2_with (first | (go_at_call 19; (with_reducible refine HM.out.mono ?_); rintro e w1 ⟨rfl, hb⟩; have HB := hid hb; clear hb) | (go_at_call 20; (with_reducible refine (HSi.out _ HB.out).mono ?_); rintro e w2 ⟨rfl, hb⟩; have HB2 := hid (below_out HB.out hb); clear hb))
    go_ret2
    exact ⟨rfl, HB2.out⟩
theorem lastM (w : World) (C : Array Value) (hC : C = #[.int .u8 48, .int .u8 13, .int .u8 10]) : OwnM (w.alloc (.cells C 5 (3, 4))) w.heap.size (.slice (some ⟨w.heap.size, 0, none⟩) 3 3) [48, 13, 10] := by
  subst hC
  refine ⟨w.heap.size, 3, _, (3, 4), rfl, Nat.le_refl _, heap_alloc_new w _, fun j hj h => ?_, Nat.le_refl _, by unfold maxLen; omega, rfl, rfl⟩
  have h1 : 3 ≤ j := h.1
  have h2 : j < 3 := hj
  omega
set_option maxRecDepth 20000 in
set_option maxHeartbeats 8000000 in
theorem last_yes (fs : List (B × B)) (p : Option Addr) (n c : Nat) (hn : fs.length = n) (w : World) (hF : FAt w p fs) (hsz : ∀ f ∈ fs, f.1.length ≤ 140737488355328 ∧ f.2.length ≤ 140737488355328) (hnn : n ≤ 140737488355328) (he : lastE fs = 0) :
    Calls Tryd.prog 6 #[.slice p n c] w fun e w' => ∃ q d, e = .returned (.tuple #[.slice q (lastK fs).length d, .nilIface]) ∧ OwnM w' w.heap.size (.slice q (lastK fs).length d) (lastK fs) ∧ Below w.heap.size w w' := by
  have HM := hid (mayfields_any fs p n c hn w hF hsz hnn)
  have hfb : fineK fs = true := by
    cases h : fineK fs with
    | true => rfl
    | false => unfold lastE at he; rw [h] at he; simp at he
  have hsm : (fs.flatMap fieldW).length ≤ 8192 := by
    rcases Nat.lt_or_ge 8192 (fs.flatMap fieldW).length with h | h
    · unfold lastE at he; rw [if_pos hfb, if_neg (by omega)] at he; simp at he
    · exact h
  have hn64 : fs.length ≤ 64 := by unfold fineK at hfb; rw [Bool.and_eq_true] at hfb; exact of_decide_eq_true hfb.1
  have HSi := hid (show ∀ W : World, Below w.heap.size w W → _ from fun W hb => lines_any fs p n c hn W (hF.next hb) hsz (by omega))
  have HLi := hid (show ∀ i, (([48, 13, 10] : B) ++ (fs.take i).flatMap fieldW).length ≤ 8195 from fun i => by
    have h2 : fs.flatMap fieldW = (fs.take i).flatMap fieldW ++ (fs.drop i).flatMap fieldW := by rw [← List.flatMap_append, List.take_append_drop]
    rw [h2] at hsm
    simp at hsm ⊢
    omega)
  have HFl := hid (show ∀ i f, fs[i]? = some f → (fieldW f).length ≤ 8192 from fun i f hf => by
    have h2 : fs.flatMap fieldW = (fs.take (i + 1)).flatMap fieldW ++ (fs.drop (i + 1)).flatMap fieldW := by rw [← List.flatMap_append, List.take_append_drop]
    rw [h2, take_flat hf] at hsm
    simp at hsm
    omega)
  have HF := hid hF
  have HN := hid hn
  obtain ⟨L, hL⟩ : ∃ L : Int, ((fs.flatMap fieldW).length : Int) = L := ⟨_, rfl⟩
  rw [hL] at HSi
  have hsmI : decide ((8192 : Int) < L) = false := by rw [decide_eq_false_iff_not]; omega
  rw [hfb] at HM
  have hcv : ∀ W : World, (convert 24 24 (.slice (some ⟨W.heap.size, 0, none⟩) 3 3)).run Tryd.prog (W.alloc (.cells #[.int .u8 48, .int .u8 13, .int .u8 10] 5)) = .ok (.slice (some ⟨W.heap.size, 0, none⟩) 3 3) (W.alloc (.cells #[.int .u8 48, .int .u8 13, .int .u8 10] 5 (3, 4))) := fun W => Lib.run_convert_bytes_const W 24 5 _ 3 3 Tryd.underlying24 Tryd.underlying5
  clear hF hsz hn hfb he hn64 hL hsm
  go_enter Tryd.func6, Tryd.ntmps6
  go_wp2_with (first | (go_at_call 19; (with_reducible refine HM.out.mono ?_); rintro e w1 ⟨rfl, hb⟩; have HB := hid hb; clear hb HM) | (go_at_call 20; (with_reducible refine (HSi.out _ HB.out).mono ?_); rintro e w2 ⟨rfl, hb⟩; have HB2 := hid (below_out HB.out hb); have hcv2 := hcv w2; clear hb HSi hcv))
  clear hcv2
  have HB3 := hid (show Below w.heap.size w (w2.alloc (.cells #[.int .u8 48, .int .u8 13, .int .u8 10] 5 (3, 4))) from below_out HB2.out (below_new w2 _))
  have HO3 := hid (show OwnM (w2.alloc (.cells #[.int .u8 48, .int .u8 13, .int .u8 10] 5 (3, 4))) w.heap.size (.slice (some ⟨w2.heap.size, 0, none⟩) 3 3) [48, 13, 10] from by
    obtain ⟨g, cap, cur, fz, h1, h2, h3⟩ := lastM w2 _ rfl
    exact ⟨g, cap, cur, fz, h1, Nat.le_trans HB2.out.size h2, h3⟩)
  go_loopg [4, 19] (n + 1) (fun gk s4 s19 wr => ∃ (i : Nat) (q : Option Addr) (m d : Nat), s4 = .slice q m d ∧ s19 = .int .i64 (i : Int) ∧ i ≤ n ∧ gk = n - i + 1 ∧ m = (([48, 13, 10] : B) ++ (fs.take i).flatMap fieldW).length ∧ OwnM wr w.heap.size (.slice q m d) ([48, 13, 10] ++ (fs.take i).flatMap fieldW) ∧ Below w.heap.size w wr)
  case atStart => exact ⟨0, _, 3, 3, rfl, rfl, by omega, rfl, by simp, by simpa using HO3.out, HB3.out⟩
  case round =>
    obtain ⟨i, q, m, d, rfl, rfl, hin, rfl, hm, ho, hb⟩ := hrel
    have HBr := hid hb
    have HO := hid ho
    have HMm := hid hm
    have hml : m ≤ 8195 := by rw [hm]; exact HLi.out i
    obtain ⟨acc, hacc⟩ : ∃ acc : B, [48, 13, 10] ++ (fs.take i).flatMap fieldW = acc := ⟨_, rfl⟩
    have HAcc := hid hacc
    rw [hacc] at HO HMm
    clear hb ho hm hacc HB HB2 HB3 HO3
    by_cases hlt : i < n
    · obtain ⟨f, hf⟩ : ∃ f, fs[i]? = some f := ⟨fs[i]'(by rw [HN.out]; exact hlt), List.getElem?_eq_getElem (by rw [HN.out]; exact hlt)⟩
      have HFi := hid hf
      obtain ⟨g, o, hp, c1, c2⟩ := (HF.out.next HBr.out) i f hf
      subst hp
      have hltI : (i : Int) < (n : Int) := by omega
      have hfz := HFl.out i f hf
      have HFw := hid (show ((str f.1 ++ ⟨#[58, 32]⟩) ++ str f.2) ++ ⟨#[13, 10]⟩ = str (fieldW f) from by
        rw [show (⟨#[58, 32]⟩ : ByteArray) = str [58, 32] from rfl, show (⟨#[13, 10]⟩ : ByteArray) = str [13, 10] from rfl, str_app, str_app, str_app]
        exact congrArg str (by unfold fieldW; simp))
      have hs1 : (str f.1).size ≤ 8192 := by rw [str_size]; rw [fieldW_len] at hfz; omega
      have hs2 : (str f.2).size ≤ 8192 := by rw [str_size]; rw [fieldW_len] at hfz; omega
      have HFz := hid hfz
      obtain ⟨N, hN⟩ : ∃ N, str f.1 = N := ⟨_, rfl⟩
      obtain ⟨V, hV⟩ : ∃ V, str f.2 = V := ⟨_, rfl⟩
      rw [hN] at HFw c1 hs1
      rw [hV] at HFw c2 hs2
      have hcat1 : (N ++ (⟨#[58, 32]⟩ : ByteArray)).size = N.size + 2 := by rw [ByteArray.size_append]; rfl
      have hcat2 : ((N ++ (⟨#[58, 32]⟩ : ByteArray)) ++ V).size = N.size + 2 + V.size := by rw [ByteArray.size_append, hcat1]
      obtain ⟨W1, hW1⟩ : ∃ W1, W1 = wr.alloc (.cells #[.string N, .string V] 51 (0, 0)) := ⟨_, rfl⟩
      have HB1 := hid (show Below w.heap.size w W1 from by rw [hW1]; exact HBr.out.trans ((below_new wr _).mono HBr.out.size))
      have HO1 := hid (show OwnM W1 w.heap.size (.slice q m d) acc from by rw [hW1]; exact HO.out.keep (below_new wr _))
      have HW1 := hid hW1
      clear hf hN hV hfz hW1
      go_wp2_with (at_builtin; (rw [← HW1.out]); refine wpList_append_M rfl (.tmp 23) (.tmp 30) rfl w.heap.size (.slice q m d) acc (fieldW f) (by go_simp) HO1.out (by go_simp; rw [HFw.out]) (by rw [← HMm.out]; have := HFz.out; omega) HB1.out.size ?_; intro v' w2 hown hgr; have HB2 := hid (HB1.out.trans (OwnM.below HO1.out HB1.out.size hgr)); obtain ⟨q2, c2, rfl⟩ := ownM_slice hown; have HO2 := hid (show OwnM w2 w.heap.size (.slice q2 (acc.length + (fieldW f).length) c2) (acc ++ fieldW f) from by rw [← List.length_append]; exact hown); clear hown hgr)
      go_roundg (n - (i + 1) + 1)
      case measure => omega
      case rel => exact ⟨i + 1, q2, _, c2, rfl, by go_num, by omega, rfl, by rw [take_flat HFi.out, ← List.append_assoc, HAcc.out, List.length_append], by rw [take_flat HFi.out, ← List.append_assoc, HAcc.out]; exact HO2.out, HB2.out⟩
    · obtain rfl : i = n := by omega
      have hltI : ¬ (i : Int) < (i : Int) := by omega
      have HA2 := hid (show acc ++ [13, 10] = lastK fs from by rw [← HAcc.out, List.take_of_length_le (by rw [HN.out]; exact Nat.le_refl _)]; rfl)
      clear hlt
      go_wp2_with (at_builtin; refine wpList_append_M rfl (.tmp 33) (.const (.string ⟨#[13, 10]⟩)) rfl w.heap.size (.slice q m d) acc [13, 10] (by go_simp) HO.out rfl (by rw [← HMm.out]; simp; omega) HBr.out.size ?_; intro v' w2 hown hgr; have HO2 := hid hown; have HB2 := hid (HBr.out.trans (OwnM.below HO.out HBr.out.size hgr)); obtain ⟨q2, c2, rfl⟩ := ownM_slice hown; clear hown hgr)
      go_ret2
      rw [HA2.out] at HO2
      have hlen : (lastK fs).length = acc.length + 2 := by rw [← HA2.out, List.length_append]; rfl
      refine ⟨q2, c2, ?_, HO2.out, HB2.out⟩
      rw [hlen]
      rfl
end Go.Proofs.YtjjalgnpppegnaaDoor
