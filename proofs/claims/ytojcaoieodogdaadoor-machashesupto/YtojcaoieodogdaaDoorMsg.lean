/- What a sum under way has of a message, and how a piece goes in: plain lists. -/
import Derived.Test.YtojcaoieodogdaaDoorHash
import Derived.Test.YtojcaoieodogdaaDoorArgs
namespace Go.Proofs.YtojcaoieodogdaaDoor
open Go.RowKit

theorem splice_get {α : Type} (L : List α) (off : Nat) (cs : List α) (h : off + cs.length ≤ L.length) (j : Nat) :
    (splice L off cs)[j]? = if j < off then L[j]? else if j < off + cs.length then cs[j - off]? else L[j]? := by
  unfold splice
  rw [List.getElem?_append]
  simp only [List.length_take]
  by_cases h1 : j < off
  · rw [if_pos (by omega), if_pos h1, List.getElem?_take, if_pos h1]
  · rw [if_neg (by omega), if_neg h1, List.getElem?_append]
    have e : min off L.length = off := by omega
    rw [e]
    by_cases h2 : j < off + cs.length
    · rw [if_pos (by omega), if_pos h2]
    · rw [if_neg (by omega), if_neg h2, List.getElem?_drop]
      congr 1; omega
def blockAt (m : List Int) (i : Nat) : List Int := (m.drop (64 * i)).take 64
def absorb (m : List Int) : Nat → List Int
  | 0 => first8
  | i + 1 => mixW (absorb m i) (blockAt m i)
theorem absorb_len (m : List Int) : ∀ i, (absorb m i).length = 8
  | 0 => rfl
  | i + 1 => mixW_len _ _ (absorb_len m i)
theorem absorb_app (m x : List Int) : ∀ i, 64 * i ≤ m.length → absorb (m ++ x) i = absorb m i
  | 0, _ => rfl
  | i + 1, h => by
    have hb : blockAt (m ++ x) i = blockAt m i := by
      unfold blockAt
      rw [List.drop_append_of_le_length (by omega), List.take_append_of_le_length (by simp; omega)]
    simp only [absorb]
    rw [absorb_app m x i (by omega), hb]
structure Hashed (m st rest : List Int) : Prop where
  st : st = absorb m (m.length / 64)
  len : rest.length = 64
  rest : rest.take (m.length % 64) = m.drop (64 * (m.length / 64))
theorem hashed_none : Hashed [] first8 (List.replicate 64 0) := ⟨rfl, by simp, by simp⟩
theorem Hashed.part {m st rest p : List Int} (h : Hashed m st rest) (hp : m.length % 64 + p.length < 64) : Hashed (m ++ p) st (splice rest (m.length % 64) p) := by
  have hl := h.len
  have e1 : (m ++ p).length / 64 = m.length / 64 := by rw [List.length_append]; omega
  have e2 : (m ++ p).length % 64 = m.length % 64 + p.length := by rw [List.length_append]; omega
  refine ⟨?_, ?_, ?_⟩
  · rw [e1, absorb_app _ _ _ (by omega)]; exact h.st
  · rw [length_splice _ _ _ (by omega), hl]
  · rw [e1, e2, List.drop_append_of_le_length (by omega), ← h.rest]
    unfold splice
    rw [← List.append_assoc, List.take_append_of_le_length (by simp; omega), List.take_of_length_le (by simp; omega)]
theorem Hashed.full {m st rest p : List Int} (h : Hashed m st rest) (hp : m.length % 64 + p.length = 64) : Hashed (m ++ p) (mixW st (splice rest (m.length % 64) p)) (splice rest (m.length % 64) p) := by
  have hl := h.len
  have e1 : (m ++ p).length / 64 = m.length / 64 + 1 := by rw [List.length_append]; omega
  have e2 : (m ++ p).length % 64 = 0 := by rw [List.length_append]; omega
  have e3 : splice rest (m.length % 64) p = (m ++ p).drop (64 * (m.length / 64)) := by
    rw [List.drop_append_of_le_length (by omega), ← h.rest]
    unfold splice
    rw [List.drop_of_length_le (by omega), List.append_nil]
  refine ⟨?_, ?_, ?_⟩
  · rw [e1]
    simp only [absorb]
    rw [absorb_app _ _ _ (by omega), ← h.st]
    unfold blockAt
    rw [← e3, List.take_of_length_le (by rw [length_splice _ _ _ (by omega)]; omega)]
  · rw [length_splice _ _ _ (by omega), hl]
  · rw [e1, e2, List.take_zero, List.drop_of_length_le (by rw [List.length_append]; omega)]
/-- Block h is a sum to which the bytes m came. -/
def HoldsH (w : World) (h : Nat) (m : List Int) : Prop := ∃ st rest, HashAt w h st rest m.length ∧ Hashed m st rest
theorem HoldsH.of_heap {w w' : World} {h : Nat} {m : List Int} (H : HoldsH w h m) (e : w'.heap[h]? = w.heap[h]?) : HoldsH w' h m := by
  obtain ⟨st, rest, h1, h2⟩ := H
  exact ⟨st, rest, h1.of_heap e, h2⟩
theorem HoldsH.below {w w' : World} {h : Nat} {m : List Int} (H : HoldsH w h m) (hb : Below w.heap.size w w') : HoldsH w' h m := by
  obtain ⟨st, rest, h1, h2⟩ := H
  exact ⟨st, rest, h1.below hb, h2⟩
theorem HoldsH.lt {w : World} {h : Nat} {m : List Int} (H : HoldsH w h m) : h < w.heap.size := by
  obtain ⟨st, rest, h1, h2⟩ := H
  exact h1.lt
/-- Of what lay in memory, nothing but block h has turned. -/
structure Turn (h : Nat) (w w' : World) : Prop where
  os : w'.os = w.os
  tape : w'.tape = w.tape
  output : w'.output = w.output
  size : w.heap.size ≤ w'.heap.size
  block : ∀ k, k < w.heap.size → k ≠ h → w'.heap[k]? = w.heap[k]?
theorem Turn.refl (h : Nat) (w : World) : Turn h w w := ⟨rfl, rfl, rfl, Nat.le_refl _, fun _ _ _ => rfl⟩
theorem Turn.trans {h : Nat} {a b c : World} (x : Turn h a b) (y : Turn h b c) : Turn h a c :=
  ⟨y.os.trans x.os, y.tape.trans x.tape, y.output.trans x.output, Nat.le_trans x.size y.size, fun k hk hh => (y.block k (Nat.lt_of_lt_of_le hk x.size) hh).trans (x.block k hk hh)⟩
theorem Turn.of_below {h : Nat} {w w' : World} (b : Below w.heap.size w w') : Turn h w w' := ⟨b.os, b.tape, b.output, b.size, fun k hk _ => b.block k hk⟩
theorem Turn.of_stored {h : Nat} {cs : Array Value} {t : TypeId} {w w' : World} (b : Stored h cs t w w') : Turn h w w' := ⟨b.os, b.tape, b.output, by rw [b.size]; exact Nat.le_refl _, fun k _ hh => b.other k hh⟩
theorem Turn.setCell {h : Nat} {w w' : World} (x : Turn h w w') (j : Nat) (v : Value) : Turn h w (w'.setCell ⟨h, j, none⟩ v) :=
  x.trans ⟨rfl, rfl, rfl, by simp [World.setCell], fun k _ hh => Below.heap_setCell _ _ _ _ hh⟩
theorem Turn.below {h B : Nat} {w w' : World} (x : Turn h w w') (hB : B ≤ w.heap.size) (hh : B ≤ h) : Below B w w' :=
  ⟨x.os, x.tape, x.output, x.size, fun k hk => x.block k (by omega) (by omega)⟩
theorem Turn.drew {h : Nat} {w w' : World} (x : Turn h w w') : Turn h w w'.drew := ⟨x.os, x.tape, x.output, x.size, x.block⟩
theorem KAt.turn {h : Nat} {w w' : World} (H : KAt w) (x : Turn h w w') (hh : 0 < h) : KAt w' := H.since (B := 1) (by omega) ⟨x.os, x.tape, x.output, x.size, fun k hk => x.block k (by have := H.lt; omega) (by omega)⟩
/-- The cells behind a copy into rest. -/
theorem hcells_copy {st rest p : List Int} {n at' : Nat} (hs : st.length = 8) (hr : rest.length = 64) (hp : at' + p.length ≤ 64) :
    (splice (hcells st rest n).toList (8 + at') (p.map (Value.int .u8))).toArray = hcells st (splice rest at' p) n := by
  unfold hcells splice
  congr 1
  simp only [List.map_append, List.length_map, List.append_assoc, List.map_take, List.map_drop]
  rw [List.take_append, List.take_of_length_le (by simp [hs]), List.drop_append, List.drop_of_length_le (by simp [hs]; omega)]
  simp only [List.length_map, hs, List.nil_append]
  rw [show 8 + at' - 8 = at' by omega, show 8 + at' + p.length - 8 = at' + p.length by omega, List.take_append_of_le_length (by simp [hr]; omega), List.drop_append_of_le_length (by simp [hr]; omega)]
  simp [List.append_assoc]
theorem hcells_count {st rest : List Int} {n n' : Nat} (hs : st.length = 8) (hr : rest.length = 64) : (hcells st rest n).setIfInBounds 72 (.int .i64 n') = hcells st rest n' := by
  unfold hcells
  simp only [List.setIfInBounds_toArray]
  rw [List.set_append_right _ _ (by simp [hs, hr])]
  simp [hs, hr]
/-- A part of a block is loaded whole. -/
theorem load_part {w : World} {g o : Nat} (ty n e : Nat) (cs : List Value) (hu : Tryd.prog.underlying ty = some (.array n e)) (hi : (Tryd.prog.info? ty).map (·.size) = some cs.length) (hc : ∀ j v, cs[j]? = some v → w.cell? ⟨g, o + j, none⟩ = some v) :
    (Instr.loadAt ty (.pointer (some ⟨g, o, none⟩))).run Tryd.prog w = .ok (.agg cs.toArray) w := by
  have hl : (loadCells ⟨g, o, none⟩ cs.length).run Tryd.prog w = .ok cs.toArray w :=
    run_loadCells_list (P := Tryd.prog) w ⟨g, o, none⟩ cs (fun j v hv => by
      have hadd : (⟨g, o, none⟩ : Addr).add j = ⟨g, o + j, none⟩ := by unfold Addr.add; split <;> simp_all
      rw [hadd]
      exact hc j v hv)
  cases hq : Tryd.prog.info? ty with
  | none => simp [hq] at hi
  | some i =>
    have hs : i.size = cs.length := by simpa [hq] using hi
    have hagg : (isAgg ty).run Tryd.prog w = .ok true w := by
      unfold isAgg
      rw [Sem.run_bind, run_underlying hu w]
      simp
    simp [Instr.loadAt, Instr.sureAddr, loadVar, Sem.run_bind, hagg, sizeOf, typeInfo, hq, hs, hl]
theorem HashAt.load_st {w : World} {h n : Nat} {st rest : List Int} (H : HashAt w h st rest n) : (Instr.loadAt 57 (.pointer (some ⟨h, 0, none⟩))).run Tryd.prog w = .ok (.agg (ws st)) w := by
  refine load_part 57 8 56 (st.map (Value.int .u32)) und52 (by rw [size52, List.length_map, H.st]) (fun j v hj => ?_)
  rw [Nat.zero_add, H.row.cell j]
  have hlt : j < (st.map (Value.int .u32)).length := (List.getElem?_eq_some_iff.1 hj).1
  simp only [hcells, List.getElem?_toArray]
  rw [List.append_assoc, List.getElem?_append_left hlt]
  exact hj
theorem HashAt.load_rest {w : World} {h n : Nat} {st rest : List Int} (H : HashAt w h st rest n) : (Instr.loadAt 59 (.pointer (some ⟨h, 8, none⟩))).run Tryd.prog w = .ok (.agg (bsv rest)) w := by
  refine load_part 59 64 5 (rest.map (Value.int .u8)) und35 (by rw [size35, List.length_map, H.rest]) (fun j v hj => ?_)
  rw [H.row.cell (8 + j)]
  have hlt : j < (rest.map (Value.int .u8)).length := (List.getElem?_eq_some_iff.1 hj).1
  have h8 := H.st
  simp only [hcells, List.getElem?_toArray]
  rw [List.append_assoc, List.getElem?_append_right (by simp; omega)]
  simp only [List.length_map, h8, Nat.add_sub_cancel_left]
  rw [List.getElem?_append_left hlt]
  exact hj
/-- The state is stored whole. -/
theorem run_storeCells_part (g : Nat) (t : TypeId) (o : Nat) : ∀ (vs : List Value) (i : Nat) (cur : Array Value) (w : World), RowAt w g cur t → o + i + vs.length ≤ cur.size → (∀ v ∈ vs, v.oneCell' = true) →
    ∃ W, (storeCells ⟨g, o, none⟩ vs i).run Tryd.prog w = .ok () W ∧ Stored g (splice cur.toList (o + i) vs).toArray t w W
  | [], i, cur, w, hg, hl, _ => ⟨w, by simp only [storeCells]; rfl, by simpa [splice] using hg, fun _ _ => rfl, rfl, rfl, rfl, rfl⟩
  | v :: rest, i, cur, w, hg, hl, h1 => by
    have hi : o + i < cur.size := by simp at hl; omega
    have hadd : (⟨g, o, none⟩ : Addr).add i = ⟨g, o + i, none⟩ := by unfold Addr.add; split <;> simp_all
    have hcell : w.cell? ⟨g, o + i, none⟩ = some cur[o + i] := by rw [hg.cell]; simp [hi]
    have hst : (store ((⟨g, o, none⟩ : Addr).add i) v).run Tryd.prog w = .ok () (w.setCell ⟨g, o + i, none⟩ v) := by
      rw [hadd, run_store Tryd.prog w _ v _ (h1 v (by simp)), hcell]
      simp [hg.fz]
    obtain ⟨W, h2, h3⟩ := run_storeCells_part g t o rest (i + 1) (cur.setIfInBounds (o + i) v) (w.setCell ⟨g, o + i, none⟩ v) (hg.set (o + i) v) (by simp at hl ⊢; omega) (fun x hx => h1 x (by simp [hx]))
    refine ⟨W, by simp only [storeCells, Sem.run_bind, hst, Result.andThen_ok, h2], ?_, fun k hk => (h3.other k hk).trans (Below.heap_setCell _ _ _ _ hk), h3.os, h3.tape, h3.output, h3.size.trans (by simp [World.setCell])⟩
    have e : splice (cur.setIfInBounds (o + i) v).toList (o + (i + 1)) rest = splice cur.toList (o + i) (v :: rest) := by
      apply List.ext_getElem?
      intro j
      simp only [List.length_cons] at hl
      rw [splice_get _ _ _ (by simp; omega), splice_get _ _ _ (by simp; omega)]
      simp only [Array.toList_setIfInBounds, List.length_cons, List.getElem?_set, Array.length_toList]
      by_cases h4 : j < o + i
      · rw [if_pos (by omega), if_pos h4, if_neg (by omega)]
      · by_cases h5 : o + i = j
        · subst h5
          rw [if_pos (by omega), if_pos rfl, if_pos hi, if_neg h4, if_pos (by omega), Nat.sub_self]
          rfl
        · rw [if_neg (by omega), if_neg h4]
          by_cases h6 : j < o + (i + 1) + rest.length
          · rw [if_pos h6, if_pos (by omega), show j - (o + i) = j - (o + (i + 1)) + 1 by omega, List.getElem?_cons_succ]
          · rw [if_neg h6, if_neg h5, if_neg (by omega)]
    rw [← e]
    exact h3.row
theorem HashAt.store_st {w : World} {h n : Nat} {st rest st' : List Int} (H : HashAt w h st rest n) (h8 : st'.length = 8) : ∃ W, (Instr.storeAt 57 (.pointer (some ⟨h, 0, none⟩)) (.agg (ws st'))).run Tryd.prog w = .ok () W ∧ HashAt W h st' rest n ∧ Stored h (hcells st' rest n) 61 w W := by
  obtain ⟨W, h1, h2⟩ := run_storeCells_part h 61 0 (st'.map (Value.int .u32)) 0 (hcells st rest n) w H.row (by rw [hcells_size H.st H.rest]; simp [h8]) (by intro v hv; obtain ⟨x, _, rfl⟩ := List.mem_map.1 hv; rfl)
  have e : (splice (hcells st rest n).toList (0 + 0) (st'.map (Value.int .u32))).toArray = hcells st' rest n := by
    unfold splice hcells
    congr 1
    have h9 := H.st
    simp [h8, h9, List.append_assoc]
  rw [e] at h2
  refine ⟨W, ?_, ⟨h2.row, h8, H.rest⟩, h2⟩
  cases hq : Tryd.prog.info? 57 with
  | none => have := size52; simp [hq] at this
  | some i =>
    have hs : i.size = 8 := by have := size52; simpa [hq] using this
    simp [Instr.storeAt, Instr.sureAddr, storeVar, sizeOf, typeInfo, hq, hs, Value.cells, ws, h8, h1]
end Go.Proofs.YtojcaoieodogdaaDoor
