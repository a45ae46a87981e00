/- Bytes in memory: those that came in, those of one's own, a byte appended, a slice made. -/
import Derived.Test.YtnpijgpjakmkdaaSpec
import Derived.Test.YtnpijgpjakmkdaaProg
import Derived.WalkKit
import Derived.WalkSpells
import Derived.WalkLawsBesides
import Derived.Lib.Strings
import Derived.Deep.QuietTactic
import Derived.BigQuiet
import Derived.Laws.Tables
import Derived.Laws.Rows
import Derived.Laws.BytesArg
import Derived.Lib.SlBytesConst
import Derived.Laws.AppendOwnNone
import Derived.OwnWalk
namespace Go.Proofs.Ytnpijgpjakmkdaa
open Go.RowKit

theorem hid {p : Prop} (h : p) : Hid p := h
theorem lt_of_heap {w : World} {k : Nat} {o : Obj} (h : w.heap[k]? = some o) : k < w.heap.size := (Array.getElem?_eq_some_iff.1 h).1
theorem oneCell_bytes (cs : List Int) : ∀ v ∈ cs.map (Value.int .u8), v.oneCell' = true := by
  intro v hv
  obtain ⟨x, _, rfl⟩ := List.mem_map.1 hv
  rfl
theorem below_new (w : World) (o : Obj) : Below w.heap.size w (w.alloc o) := (Below.refl _ _).alloc (Nat.le_refl _) _
/-- The cells of a slice of bytes at block b, from o on. -/
def CellsAt (w : World) (b o : Nat) (xs : List Int) : Prop := ∀ j v, xs[j]? = some v → w.cell? ⟨b, o + j, none⟩ = some (.int .u8 v)
theorem CellsAt.of_heap {w w' : World} {b o : Nat} {xs : List Int} (h : CellsAt w b o xs) (hb : w'.heap[b]? = w.heap[b]?) : CellsAt w' b o xs := by
  intro j v hj
  have := h j v hj
  unfold World.cell? at this ⊢
  rwa [hb]
theorem conv_src {w : World} {b o cap : Nat} {xs : List Int} (h : CellsAt w b o xs) : (convert 22 9 (.slice (some ⟨b, o, none⟩) xs.length cap)).run Try.prog w = .ok (.string (strOfNums xs)) w := by
  refine run_convert_bytes_arg w 22 5 (by kernel_rfl) (by kernel_rfl) b o xs.length cap xs rfl ?_ 9 (by kernel_rfl)
  intro i hi
  exact h i _ (by simp [List.getElem?_eq_getElem hi, List.getD])
theorem conv_none (w : World) : (convert 22 9 (.slice none 0 0)).run Try.prog w = .ok (.string (strOfNums [])) w :=
  run_convert_bytes_nil w 22 5 (by kernel_rfl) (by kernel_rfl) 0 0 9 (by kernel_rfl)
/-- A slice of bytes that lies in memory, somewhere. -/
def ArgAt (w : World) (v : Value) (bs : List Int) : Prop :=
  (v = .slice none 0 0 ∧ bs = []) ∨ ∃ b o cap, b < w.heap.size ∧ v = .slice (some ⟨b, o, none⟩) bs.length cap ∧ bs.length ≤ cap ∧ cap ≤ maxLen ∧ CellsAt w b o bs
theorem ArgAt.below {w w' : World} {v : Value} {bs : List Int} (h : ArgAt w v bs) (hb : Below w.heap.size w w') : ArgAt w' v bs := by
  rcases h with h | ⟨b, o, cap, h1, h2, h3, h4, h5⟩
  · exact .inl h
  · exact .inr ⟨b, o, cap, Nat.lt_of_lt_of_le h1 hb.size, h2, h3, h4, h5.of_heap (hb.block b h1)⟩
theorem ArgAt.conv {w : World} {v : Value} {bs : List Int} (h : ArgAt w v bs) : (convert 22 9 v).run Try.prog w = .ok (.string (strOfNums bs)) w := by
  rcases h with ⟨rfl, rfl⟩ | ⟨b, o, cap, h1, rfl, h3, h4, h5⟩
  · exact conv_none w
  · exact conv_src h5
theorem ArgAt.form {w : World} {v : Value} {bs : List Int} (h : ArgAt w v bs) : ∃ p N c, v = .slice p N c ∧ bs.length = N := by
  rcases h with ⟨rfl, rfl⟩ | ⟨b, o, cap, h1, rfl, h3, h4, h5⟩
  · exact ⟨_, _, _, rfl, rfl⟩
  · exact ⟨_, _, _, rfl, rfl⟩
theorem ArgAt.cell {w : World} {p : Option Addr} {N c : Nat} {bs : List Int} (h : ArgAt w (.slice p N c) bs) (hN : bs.length = N) (k : Nat) (hk : k < N) :
    ∃ b o, p = some ⟨b, o, none⟩ ∧ b < w.heap.size ∧ w.cell? ⟨b, o + k, none⟩ = some (.int .u8 (bs.getD k 0)) := by
  rcases h with ⟨h, rfl⟩ | ⟨b, o, cap, h1, h2, h3, h4, h5⟩
  · simp at hN; omega
  · simp only [Value.slice.injEq] at h2
    refine ⟨b, o, h2.1, h1, h5 k _ ?_⟩
    rw [List.getD_eq_getElem?_getD, List.getElem?_eq_getElem (by omega)]
    rfl
/-- A new slice of the bytes bs. -/
structure Mine (w w' : World) (pa : Option Addr) (cap : Nat) (bs : List Int) : Prop where
  below : Below w.heap.size w w'
  fits : bs.length ≤ cap
  most : cap ≤ maxLen
  nothing : pa = none → bs = [] ∧ cap = 0
  row : ∀ a, pa = some a → ∃ b cur, a = ⟨b, 0, none⟩ ∧ w.heap.size ≤ b ∧ w'.heap[b]? = some (.cells cur 5 (0, 0)) ∧ cur.size = cap ∧ cur.toList.take bs.length = bs.map (Value.int .u8)
theorem Mine.arg {w w' : World} {pa : Option Addr} {cap : Nat} {bs : List Int} (h : Mine w w' pa cap bs) : ArgAt w' (.slice pa bs.length cap) bs := by
  cases pa with
  | none => obtain ⟨rfl, rfl⟩ := h.nothing rfl; exact .inl ⟨rfl, rfl⟩
  | some a =>
    obtain ⟨b, cur, rfl, h1, h2, h3, h4⟩ := h.row a rfl
    refine .inr ⟨b, 0, cap, lt_of_heap h2, rfl, h.fits, h.most, ?_⟩
    intro j v hj
    have hlt : j < bs.length := (List.getElem?_eq_some_iff.1 hj).1
    have e : (cur.toList.take bs.length)[j]? = some (.int .u8 v) := by rw [h4]; simp [hj]
    rw [List.getElem?_take, if_pos hlt] at e
    simp only [World.cell?, h2, Nat.zero_add]
    simpa using e
theorem Mine.next {w w' w2 : World} {pa : Option Addr} {cap : Nat} {l : List Int} (h : Mine w w' pa cap l) (hb : Below w'.heap.size w' w2) : Mine w w2 pa cap l := by
  refine ⟨h.below.trans (hb.mono h.below.size), h.fits, h.most, h.nothing, fun a ha => ?_⟩
  obtain ⟨b, cur, h0, h1, h2, h3⟩ := h.row a ha
  exact ⟨b, cur, h0, h1, (hb.block b (lt_of_heap h2)).trans h2, h3⟩
theorem mine_nil (w : World) : Mine w w none 0 [] := ⟨Below.refl _ _, Nat.le_refl _, Nat.zero_le _, fun _ => ⟨rfl, rfl⟩, fun a ha => by simp at ha⟩
theorem mine_of {w w' : World} {v : Value} {bs : List Int} (ho : w'.ownsRow w.heap.size 5 1 v bs.length (bs.map (Value.int .u8))) (hg : Below w.heap.size w w') :
    ∃ pa cap, v = .slice pa bs.length cap ∧ Mine w w' pa cap bs := by
  obtain ⟨_, h2⟩ := ho
  rcases h2 with ⟨rfl, h0⟩ | ⟨g, cap, cur, rfl, h3, h4, h5, h6, h7, h8⟩
  · obtain rfl : bs = [] := List.eq_nil_of_length_eq_zero h0
    exact ⟨none, 0, rfl, hg, Nat.le_refl _, Nat.zero_le _, fun _ => ⟨rfl, rfl⟩, fun a ha => by simp at ha⟩
  · refine ⟨_, cap, rfl, hg, h5, h6, fun h => by simp at h, ?_⟩
    intro a ha
    simp only [Option.some.injEq] at ha
    exact ⟨g, cur, ha.symm, h3, h4, by simpa using h7, by simpa using h8⟩
theorem info5 : (Try.prog.info? 5).map (fun i => (i.zero, i.size, i.bytes)) = some (some (.int .u8 0), 1, 1) := by kernel_rfl
/-- append(nil, b...). -/
theorem wpList_append_bytes {w : World} {ops : Array Oper} {rest : List Oper} {o : Oper} {a : Act} {Q : Exit → Act → World → Prop} (hgd : o.guard = none) (s x : Operand)
    (ho : o.op = .call { callee := .builtin .append, args := #[s, x], argTypes := #[22, 22] })
    (hs : a.eval s = .slice none 0 0) (v : Value) (hx : a.eval x = v) (bs : List Int) (hv : ArgAt w v bs) (hlen : bs.length ≤ 140737488355328)
    (h : ∀ pa cap w', Mine w w' pa cap bs → wpList Try.prog ops Q rest (a.put o.dst (.slice pa bs.length cap)) w') : wpList Try.prog ops Q (o :: rest) a w := by
  obtain ⟨i, h2, h3, h4, h5⟩ := info_parts info5
  have hu : Try.prog.underlying 22 = some (.slice 5) := by kernel_rfl
  have hnil := World.ownsRow_nil w w.heap.size 5 1
  rcases hv with ⟨rfl, rfl⟩ | ⟨b, q, cap, h6, rfl, h7, h8, h9⟩
  · refine wpList_append_own_none hgd s x 22 ho w.heap.size 5 i 1 hu h2 _ _ _ hs hnil hx ?_
    exact h none 0 w (mine_nil w)
  · refine wpList_append_own w hgd s x 22 ho w.heap.size 5 i (.int .u8 0) 1 1 hu h2 h3 h4 h5 rfl (by decide) _ _ _ hs hnil ⟨b, q, none⟩ bs.length cap (bs.map (Value.int .u8)) hx (by simp)
      (by
        intro j u hj
        simp only [List.getElem?_map, Option.map_eq_some_iff] at hj
        obtain ⟨y, hy, rfl⟩ := hj
        have hplain : (⟨b, q, none⟩ : Addr).add j = ⟨b, q + j, none⟩ := by unfold Addr.add; split <;> simp_all
        rw [hplain]
        exact h9 j y hy) (oneCell_bytes bs) (by omega) (by omega) (Nat.le_refl _) ?_
    intro v' w' hown hgrow _
    have hb : Below w.heap.size w w' := (Below.refl _ _).grown hgrow (Nat.le_refl _) (fun k hk => by simp [Value.ownBlock] at hk)
    rw [Nat.zero_add, List.nil_append] at hown
    obtain ⟨pa, cap', rfl, hm⟩ := mine_of hown hb
    exact h pa cap' w' hm
theorem one_arg (V : World) (x : Int) : ArgAt (V.alloc (.cells #[.int .u8 x] 5)) (.slice (some ⟨V.heap.size, 0, none⟩) 1 1) [x] := by
  refine .inr ⟨V.heap.size, 0, 1, by simp, rfl, Nat.le_refl _, by unfold maxLen; omega, ?_⟩
  intro j v hj
  have hn := heap_alloc_new V (.cells #[.int .u8 x] 5)
  simp only [World.cell?, hn, Nat.zero_add]
  match j, hj with
  | 0, hj => simpa using hj
/-- What growslice asks for, one place more than there was room for. -/
theorem grows (old : Nat) (h : old ≤ 200000000000000) : Builtin.nextslicecap (old + 1) old * 1 ≤ 281474976710656 := by
  unfold Builtin.nextslicecap
  split
  · omega
  · split
    · omega
    · rw [growBy_four]
      repeat' split
      all_goals omega
/-- append(l, y): one byte, to a slice of one's own (up to 2 * 10^14 bytes). -/
theorem run_append_byte {w0 w : World} {pa : Option Addr} {N cap : Nat} {l : List Int} (hm : Mine w0 w pa cap l) (hN : l.length = N) (v : Value) (y : Int) (hv : ArgAt w v [y]) (hlen : N ≤ 200000000000000) (ty : TypeId) :
    ∃ pa' cap' w', (Builtin.append_ #[22, 22] ty #[.slice pa N cap, v]).run Try.prog w = .ok (.slice pa' (N + 1) cap') w' ∧ Mine w0 w' pa' cap' (l ++ [y]) := by
  obtain ⟨i, h2, h3, h4, h5⟩ := info_parts info5
  have hu : Try.prog.underlying 22 = some (.slice 5) := by kernel_rfl
  have hsz := hm.below.size
  rcases hv with ⟨_, h⟩ | ⟨b, q, c, hb, rfl, hc1, hc2, hcell⟩
  · simp at h
  have hnews : ∀ (j : Nat) (u : Value), [Value.int .u8 y][j]? = some u → w.cell? ((⟨b, q, none⟩ : Addr).add j) = some u := by
    intro j u hj
    have hplain : (⟨b, q, none⟩ : Addr).add j = ⟨b, q + j, none⟩ := by unfold Addr.add; split <;> simp_all
    rw [hplain]
    match j, hj with
    | 0, hj =>
      simp only [List.getElem?_cons_zero, Option.some.injEq] at hj
      rw [← hj]
      exact hcell 0 y rfl
  have grown : ∀ old : Nat, Mine w0 (w.drew.alloc (.cells ((l.map (Value.int .u8)).toArray ++ [Value.int .u8 y].toArray ++ Builtin.zeroCells (Value.int .u8 0).cells (grownCap w (N + 1) old 5 - (N + 1))) 5)) (some ⟨w.heap.size, 0, none⟩) (grownCap w (N + 1) old 5) (l ++ [y]) := by
    intro old
    have hge := grownCap_ge w (N + 1) old 5
    have hle : grownCap w (N + 1) old 5 ≤ maxLen := grownCap_le_maxLen w (N + 1) old 5 (by unfold maxLen; omega)
    refine ⟨hm.below.drew.alloc hsz _, by simp [hN]; omega, hle, fun h => by simp at h, ?_⟩
    intro a ha
    simp only [Option.some.injEq] at ha
    refine ⟨w.heap.size, _, ha.symm, hsz, heap_alloc_new w.drew _, ?_, ?_⟩
    · simp only [Array.size_append, List.size_toArray, size_zeroCells, List.length_map, List.length_cons, List.length_nil, hN]
      rw [show (Value.cells (Value.int .u8 0)).size = 1 from rfl]
      omega
    · simp only [Array.toList_append, List.map_append, List.map_cons, List.map_nil]
      rw [show (l ++ [y]).length = (List.map (Value.int .u8) l ++ [Value.int .u8 y]).length by simp]
      exact List.take_left
  cases pa with
  | none =>
    obtain ⟨rfl, rfl⟩ := hm.nothing rfl
    obtain rfl : N = 0 := by simpa using hN.symm
    have hr := run_append_nil (P := Try.prog) w 22 ty 5 i (.int .u8 0) hu h2 h3 ⟨b, q, none⟩ 1 c [.int .u8 y] (by simp [h4]) hnews (by omega) (by omega) (by rw [h5]; omega)
    refine ⟨_, _, _, hr, ?_⟩
    have := grown 0
    simpa using this
  | some a =>
    obtain ⟨g, cur, rfl, h6, h7, h8, h9⟩ := hm.row a rfl
    subst hN
    by_cases hroom : l.length + 1 ≤ cap
    · have hr := run_append_room (P := Try.prog) w 22 ty 5 i hu h2 g l.length cap cur h7 ⟨b, q, none⟩ 1 c [.int .u8 y] (by simp [h4]) hnews (by intro u hu; simp at hu; subst hu; rfl) hroom (by rw [h4]; simp; omega)
      refine ⟨_, _, _, hr, ?_⟩
      refine ⟨hm.below.grown (row := some g) ⟨rfl, rfl, rfl, by simp, fun k _ hk => setRow_other w g k _ (fun e => hk (by rw [e]))⟩ hsz (fun k hk => by simp at hk; omega), by simp; omega, hm.most, fun h => by simp at h, ?_⟩
      intro a ha
      simp only [Option.some.injEq] at ha
      refine ⟨g, _, ha.symm, h6, setRow_heap w g cur _ 5 _ h7, ?_, ?_⟩
      · simp [h4]; omega
      · simp only [h4, Nat.mul_one]
        rw [h9, show (l ++ [y]).length = (List.map (Value.int .u8) l ++ [Value.int .u8 y]).length by simp, List.take_left]
        simp
    · have hcap : cap = l.length := by have := hm.fits; omega
      have hmap : ∀ (j : Nat) (u : Value), (l.map (Value.int .u8))[j]? = some u → w.cell? ((⟨g, 0, none⟩ : Addr).add j) = some u := by
        intro j u hj
        have hplain : (⟨g, 0, none⟩ : Addr).add j = ⟨g, 0 + j, none⟩ := by unfold Addr.add; split <;> simp_all
        rw [hplain, Nat.zero_add]
        rw [← h9, List.getElem?_take] at hj
        split at hj
        · simp only [World.cell?, h7]
          simpa using hj
        · simp at hj
      have hr := run_append_grow (P := Try.prog) w 22 ty 5 i (.int .u8 0) hu h2 h3 ⟨g, 0, none⟩ l.length cap (l.map (Value.int .u8)) (by simp [h4]) hmap ⟨b, q, none⟩ 1 c [.int .u8 y] (by simp [h4]) hnews (by omega) (by omega) (by rw [h5, hcap]; exact grows _ hlen)
      exact ⟨_, _, _, hr, grown cap⟩
theorem wpList_append_byte {ops : Array Oper} {rest : List Oper} {o : Oper} {a : Act} {w0 w : World} {Q : Exit → Act → World → Prop} (hgd : o.guard = none) (s x : Operand)
    (ho : o.op = .call { callee := .builtin .append, args := #[s, x], argTypes := #[22, 22] })
    (pa : Option Addr) (N cap : Nat) (hs : a.eval s = .slice pa N cap) (l : List Int) (hN : l.length = N) (hm : Mine w0 w pa cap l) (v : Value) (hx : a.eval x = v) (y : Int) (hv : ArgAt w v [y]) (hlen : N ≤ 200000000000000)
    (h : ∀ pa' cap' w', Mine w0 w' pa' cap' (l ++ [y]) → wpList Try.prog ops Q rest (a.put o.dst (.slice pa' (N + 1) cap')) w') : wpList Try.prog ops Q (o :: rest) a w := by
  obtain ⟨pa', cap', w', hrun, hm'⟩ := run_append_byte hm hN v y hv hlen o.type
  refine wpList_plain hgd fun K hK => ?_
  unfold Oper.wp
  simp [execOp, ho, resolve, invoke, builtin, hs, hx, hrun, Result.andThen]
  exact hK _ _ (h pa' cap' w' hm')
/-- make([]byte, 0, c). -/
theorem run_make_room (c : Nat) (h : c ≤ 281474976710656) (w : World) : ∃ w', (Instr.makeSlice 22 (.int .i64 0) (.int .i64 c)).run Try.prog w = .ok (.slice (some ⟨w.heap.size, 0, none⟩) 0 c) w' ∧ Mine w w' (some ⟨w.heap.size, 0, none⟩) c [] := by
  obtain ⟨i, h2, h3, h4, h5⟩ := info_parts info5
  have hr := run_make (P := Try.prog) w 22 5 i (.int .u8 0) (by kernel_rfl) h2 h3 .i64 .i64 0 c (by omega) (by omega) (by rw [h5]; omega) (by omega)
  refine ⟨_, hr, below_new _ _, Nat.zero_le _, by unfold maxLen; omega, fun h => by simp at h, ?_⟩
  intro a ha
  simp only [Option.some.injEq] at ha
  refine ⟨w.heap.size, _, ha.symm, Nat.le_refl _, heap_alloc_new w _, ?_, by simp⟩
  simp [madeCells, h4]
theorem wpList_make_room {ops : Array Oper} {rest : List Oper} {o : Oper} {a : Act} {w : World} {Q : Exit → Act → World → Prop} (hgd : o.guard = none) (x y : Operand) (ho : o.op = .makeSlice 22 x y)
    (hx : a.eval x = .int .i64 0) (c : Nat) (hy : a.eval y = .int .i64 c) (hc : c ≤ 281474976710656)
    (h : ∀ p w', Mine w w' p c [] → wpList Try.prog ops Q rest (a.put o.dst (.slice p 0 c)) w') : wpList Try.prog ops Q (o :: rest) a w := by
  obtain ⟨w', hrun, hm⟩ := run_make_room c hc w
  refine wpList_plain hgd fun K hK => ?_
  unfold Oper.wp
  simp [execOp, ho, hx, hy, hrun, Result.andThen]
  exact hK _ _ (h _ _ hm)
theorem wpList_make_int {ops : Array Oper} {rest : List Oper} {o : Oper} {a : Act} {w : World} {Q : Exit → Act → World → Prop} (hgd : o.guard = none) (x y : Operand) (ho : o.op = .makeSlice 22 x y)
    (hx : a.eval x = .int .i64 0) (z : Int) (hy : a.eval y = .int .i64 z) (c : Nat) (hz : z = c) (hc : c ≤ 281474976710656)
    (h : ∀ p w', Mine w w' p c [] → wpList Try.prog ops Q rest (a.put o.dst (.slice p 0 c)) w') : wpList Try.prog ops Q (o :: rest) a w :=
  wpList_make_room hgd x y ho hx c (hz ▸ hy) hc h
end Go.Proofs.Ytnpijgpjakmkdaa
