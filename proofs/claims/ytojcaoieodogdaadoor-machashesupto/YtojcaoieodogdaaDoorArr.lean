/- Arrays of words and bytes in memory, and the sum that a state makes. -/
import Derived.Test.YtojcaoieodogdaaDoorWords
import Derived.Laws.Tables
import Derived.Laws.Rows
import Derived.Laws.CopyOwn
import Derived.OwnWalk
namespace Go.Proofs.YtojcaoieodogdaaDoor
open Go.RowKit

theorem hid {p : Prop} (h : p) : Hid p := h
def ws (l : List Int) : Array Value := (l.map (Value.int .u32)).toArray
def bsv (l : List Int) : Array Value := (l.map (Value.int .u8)).toArray
theorem ws_get {l : List Int} {k : Nat} (h : k < l.length) : (ws l)[k]? = some (.int .u32 (l[k]?.getD 0)) := by simp [ws, h]
theorem bsv_get {l : List Int} {k : Nat} (h : k < l.length) : (bsv l)[k]? = some (.int .u8 (l[k]?.getD 0)) := by simp [bsv, h]
theorem ws_size (l : List Int) : (ws l).size = l.length := by simp [ws]
theorem bsv_size (l : List Int) : (bsv l).size = l.length := by simp [bsv]
theorem ws_set (l : List Int) (k : Nat) (x : Int) : (ws l).setIfInBounds k (.int .u32 x) = ws (l.set k x) := by simp [ws]
theorem bsv_set (l : List Int) (k : Nat) (x : Int) : (bsv l).setIfInBounds k (.int .u8 x) = bsv (l.set k x) := by simp [bsv]
theorem ws_one (l : List Int) : (ws l).all (·.oneCell') = true := by simp [ws, Value.oneCell']
theorem bsv_one (l : List Int) : (bsv l).all (·.oneCell') = true := by simp [bsv, Value.oneCell']

theorem index_bytes (l : List Int) (h : l.length = 64) (k : Nat) (hk : k < 64) (W : World) : (Instr.index 59 (.agg (bsv l)) (.int .i64 k)).run Tryd.prog W = .ok (.int .u8 (l[k]?.getD 0)) W := by
  have hu : Tryd.prog.underlying 59 = some (.array 64 5) := by kernel_rfl
  have hv := bsv_get (l := l) (k := k) (by omega)
  have hi : (0 : Int) ≤ k ∧ (k : Int) < (64 : Nat) := by omega
  have hs : (Tryd.prog.info? 5).map (·.size) = some 1 := by kernel_rfl
  cases hq : Tryd.prog.info? 5 with
  | none => simp [hq] at hs
  | some i =>
    have hz : i.size = 1 := by simpa [hq] using hs
    simp [Instr.index, asIntOf, run_underlying hu, hi, sizeOf, typeInfo, hq, hz, part, hv]
    omega
/-- Block b holds the cells cs. -/
def RowAt (W : World) (b : Nat) (cs : Array Value) (t : TypeId) : Prop := W.heap[b]? = some (.cells cs t (0, 0))
section
variable {W : World} {b : Nat} {cs : Array Value} {t : TypeId}
theorem RowAt.lt (h : RowAt W b cs t) : b < W.heap.size := (Array.getElem?_eq_some_iff.1 h).1
theorem RowAt.cell (h : RowAt W b cs t) (j : Nat) : W.cell? ⟨b, j, none⟩ = cs[j]? := cell_of_row W b j cs t _ h
theorem RowAt.fz (h : RowAt W b cs t) (j : Nat) : W.frozen? ⟨b, j, none⟩ = false := by simp [World.frozen?, show W.heap[b]? = _ from h]
theorem RowAt.below (h : RowAt W b cs t) {W' : World} (hb : Below W.heap.size W W') : RowAt W' b cs t := (hb.block b h.lt).trans h
theorem RowAt.set (h : RowAt W b cs t) (k : Nat) (v : Value) : RowAt (W.setCell ⟨b, k, none⟩ v) b (cs.setIfInBounds k v) t := by
  rw [setCell_eq_setRow W b k cs t (0, 0) v h]
  exact setRow_heap W b cs _ t _ h
theorem RowAt.other (h : RowAt W b cs t) {c k : Nat} (hc : b ≠ c) (v : Value) : RowAt (W.setCell ⟨c, k, none⟩ v) b cs t := by
  show _ = _
  rw [Below.heap_setCell _ _ _ _ (by show b ≠ c; exact hc)]
  exact h
theorem RowAt.set_far (h : RowAt W b cs t) {k j : Nat} (hkj : k ≠ j) (v : Value) {x : Value} (hx : W.cell? ⟨b, j, none⟩ = some x) : (W.setCell ⟨b, k, none⟩ v).cell? ⟨b, j, none⟩ = some x := by
  rw [(h.set k v).cell j, Array.getElem?_setIfInBounds_ne hkj, ← h.cell j, hx]
theorem RowAt.setRow (h : RowAt W b cs t) (v : Array Value) : RowAt (W.setRow b v) b v t := setRow_heap W b cs v t _ h
theorem RowAt.setRow_other (h : RowAt W b cs t) {c : Nat} (hc : b ≠ c) (v : Array Value) : RowAt (W.setRow c v) b cs t := (Go.setRow_other W c b v hc).trans h
theorem RowAt.drew (h : RowAt W b cs t) : RowAt W.drew b cs t := h
theorem RowAt.drewN (h : RowAt W b cs t) (n : Nat) : RowAt (W.drewN n) b cs t := h
theorem row_new (W : World) (cs : Array Value) (t : TypeId) : RowAt (W.alloc (.cells cs t)) W.heap.size cs t := heap_alloc_new W _
theorem RowAt.alloc (h : RowAt W b cs t) (o : Obj) : RowAt (W.alloc o) b cs t := (Below.heap_alloc W o b h.lt).trans h
end
theorem below_setRow {B : Nat} {w W : World} (h : Below B w W) {b : Nat} (hb : B ≤ b) (v : Array Value) : Below B w (W.setRow b v) :=
  h.trans ⟨rfl, rfl, rfl, by simp, fun k hk => Go.setRow_other W b k v (by omega)⟩

/-- Block g holds the cells cs now, and nothing else has turned. -/
structure Stored (g : Nat) (cs : Array Value) (t : TypeId) (w w' : World) : Prop where
  row : RowAt w' g cs t
  other : ∀ k, k ≠ g → w'.heap[k]? = w.heap[k]?
  os : w'.os = w.os
  tape : w'.tape = w.tape
  output : w'.output = w.output
  size : w'.heap.size = w.heap.size
theorem Stored.below {B g : Nat} {cs : Array Value} {t : TypeId} {w0 w w' : World} (h : Stored g cs t w w') (hb : Below B w0 w) (hB : B ≤ g) : Below B w0 w' :=
  hb.trans ⟨h.os, h.tape, h.output, by rw [h.size]; exact Nat.le_refl _, fun k hk => h.other k (by omega)⟩
theorem wpList_store_as {P : Program} {ops : Array Oper} {rest : List Oper} {o : Oper} {a : Act} {w : World} {Q : Exit → Act → World → Prop} (hgd : o.guard = none) (ty : TypeId) (x y : Operand) (ho : o.op = .store ty x y)
    (g : Nat) (cells : Array Value) (hx : a.eval x = .pointer (some ⟨g, 0, none⟩)) (hy : a.eval y = .agg cells)
    (t : TypeId) (old : Array Value) (hg : RowAt w g old t) (hi : (P.info? ty).map (·.size) = some cells.size)
    (hold : old.size = cells.size) (h1 : cells.all (·.oneCell') = true)
    (h : ∀ w', Stored g cells t w w' → wpList P ops Q rest (a.put o.dst undef) w') : wpList P ops Q (o :: rest) a w :=
  wpList_store_row hgd ty x y ho g cells hx hy t old hg hi hold h1 (h _ ⟨RowAt.setRow hg _, fun k hk => Go.setRow_other w g k _ hk, rfl, rfl, rfl, by simp⟩)
/-- l up to k, noughts behind. -/
def fillTo (l : List Int) (k : Nat) : List Int := l.take k ++ List.replicate (l.length - k) 0
theorem fillTo_len (l : List Int) (k : Nat) (h : k ≤ l.length) : (fillTo l k).length = l.length := by simp [fillTo]; omega
theorem fillTo_all (l : List Int) (k : Nat) (h : l.length ≤ k) : fillTo l k = l := by
  unfold fillTo
  rw [List.take_of_length_le h, show l.length - k = 0 by omega]
  simp
theorem fillTo_set (l : List Int) (k : Nat) (h : k < l.length) : (fillTo l k).set k (l[k]?.getD 0) = fillTo l (k + 1) := by
  apply List.ext_getElem?
  intro j
  unfold fillTo
  rw [List.getElem?_set]
  simp only [List.length_append, List.length_take, List.length_replicate]
  by_cases hj : k = j
  · subst hj
    rw [if_pos rfl, if_pos (by omega), List.getElem?_append, List.length_take, if_pos (by omega), List.getElem?_take, if_pos (by omega)]
    simp [h]
  · rw [if_neg hj, List.getElem?_append, List.getElem?_append]
    simp only [List.length_take]
    by_cases h1 : j < k
    · rw [if_pos (by omega), if_pos (by omega), List.getElem?_take, List.getElem?_take, if_pos h1, if_pos (by omega)]
    · rw [if_neg (by omega), if_neg (by omega), List.getElem?_replicate, List.getElem?_replicate]
      by_cases h2 : j < l.length
      · rw [if_pos (by omega), if_pos (by omega)]
      · rw [if_neg (by omega), if_neg (by omega)]

def joinB (st : List Int) : List Int := (List.range 32).map fun i => st[i / 4]?.getD 0 / 2 ^ (24 - 8 * (i % 4)) % 256
theorem joinB_len (st : List Int) : (joinB st).length = 32 := by simp [joinB]
theorem joinB_at (st : List Int) (k : Nat) (h : k < 32) : (joinB st)[k]?.getD 0 = st[k / 4]?.getD 0 / 2 ^ (24 - 8 * (k % 4)) % 256 := by simp [joinB, h]
structure JoinP (w W : World) (st l : List Int) : Prop where
  below : Below w.heap.size w W
  st : RowAt W w.heap.size (ws st) 57
  out : ∃ c, RowAt W (w.heap.size + 1) c 24 ∧ c.size = 32
  sum : RowAt W (w.heap.size + 2) (bsv l) 24
theorem und24 : Tryd.prog.underlying 24 = some (.array 32 5) := by kernel_rfl
theorem size24 : (Tryd.prog.info? 24).map (·.size) = some 32 := by kernel_rfl
set_option maxHeartbeats 1000000 in
theorem joined_any (st : List Int) (h : st.length = 8) (w : World) :
    Calls Tryd.prog 43 #[.agg (ws st)] w fun e w' => e = .returned (.agg (bsv (joinB st))) ∧ Below w.heap.size w w' := by
  go_enter Tryd.func43, Tryd.ntmps43
  go_wp2
  go_loopw [5] (fun i W => ∃ k : Nat, k ≤ 32 ∧ i = .int .i64 k ∧ Hid (JoinP w W st (fillTo (joinB st) k))) (fun i _ => 32 - (intOf i).toNat)
  case atStart =>
    refine ⟨0, Nat.zero_le _, rfl, ?_⟩
    have b1 := (Below.refl w.heap.size w).alloc (Nat.le_refl _) (.cells (ws st) 57)
    refine ⟨(b1.alloc b1.size _).alloc (by simp; omega) _, ((row_new w (ws st) 57).alloc _).alloc _, ⟨bsv (List.replicate 32 0), ?_, by simp [bsv]⟩, ?_⟩
    · have := (row_new (w.alloc (.cells (ws st) 57)) (bsv (List.replicate 32 0)) 24)
      rw [World.size_alloc] at this
      exact this.alloc _
    · have := (row_new ((w.alloc (.cells (ws st) 57)).alloc (.cells (bsv (List.replicate 32 0)) 24)) (bsv (List.replicate 32 0)) 24)
      rw [World.size_alloc, World.size_alloc] at this
      have e : fillTo (joinB st) 0 = List.replicate 32 0 := by simp [fillTo, joinB_len]
      rw [e]
      exact this
  case round =>
    obtain ⟨k, hk, rfl, HP⟩ := hrel
    rename World => W
    by_cases hlt : k < 32
    · have hlt' : (k : Int) < 32 := by omega
      have q1 : k / 4 < st.length := by omega
      have c0 := (HP.out.st.cell (k / 4)).trans (ws_get q1)
      have c1 := (HP.out.sum.cell k).trans (bsv_get (by rw [fillTo_len _ _ (by rw [joinB_len]; omega), joinB_len]; exact hlt))
      have f1 := HP.out.sum.fz k
      go_wp2
      go_roundw
      case rel =>
        refine ⟨k + 1, by omega, by go_num, ?_⟩
        have hz := HP.out.below.size
        obtain ⟨c, hc, hc2⟩ := HP.out.out
        refine ⟨HP.out.below.setCell (by show w.heap.size ≤ w.heap.size + 1 + 1; omega) _, HP.out.st.other (by omega) _, ⟨c, hc.other (by omega) _, hc2⟩, ?_⟩
        have := HP.out.sum.set k (.int .u8 (st[k / 4]?.getD 0 / 2 ^ (24 - 8 * (k % 4)) % 256))
        rw [bsv_set, ← joinB_at st k hlt, fillTo_set _ _ (by rw [joinB_len]; exact hlt)] at this
        rw [← joinB_at st k hlt]
        exact this
      case measure => simp [intOf]; omega
    · have hlt' : ¬ (k : Int) < 32 := by omega
      obtain ⟨c, hc, hc2⟩ := HP.out.out
      have hs := HP.out.sum
      rw [fillTo_all _ _ (by rw [joinB_len]; omega)] at hs
      have HS := hid hs
      have HC := hid hc
      have HC2 := hid hc2
      clear hs hc hc2
      go_wp2_with (first
        | (refine wpList_load_row rfl 24 _ rfl _ rfl 24 (bsv (joinB st)) _ _ HS.out und24 rfl (by rw [size24, bsv_size, joinB_len]) ?_)
        | (refine wpList_store_row rfl 24 _ _ rfl _ (bsv (joinB st)) rfl rfl 24 c HC.out (by rw [size24, bsv_size, joinB_len]) (by rw [HC2.out, bsv_size, joinB_len]) (bsv_one _) ?_))
      refine bodyPost_ret (results_cell_row rfl _ _ _ 24 (bsv (joinB st)) _ _ rfl (HC.out.setRow _) und24 rfl (by rw [size24, bsv_size, joinB_len])) rfl ?_
      exact ⟨rfl, below_setRow HP.out.below (by omega) _⟩
end Go.Proofs.YtojcaoieodogdaaDoor
