/- Bytes that came in, bytes appended to nothing, bytes copied into a block, and texts out of bytes. -/
import Derived.Test.YtojcaoieodogdaaDoorPad
import Derived.Laws.BytesArg
import Derived.Lib.SlBytesConst
import Derived.Laws.AppendOwnNone
namespace Go.Proofs.YtojcaoieodogdaaDoor
open Go.RowKit

theorem lt_of_heap {w : World} {k : Nat} {o : Obj} (h : w.heap[k]? = some o) : k < w.heap.size := (Array.getElem?_eq_some_iff.1 h).1
theorem oneCell_bytes (cs : List Int) : ∀ v ∈ cs.map (Value.int .u8), v.oneCell' = true := by
  intro v hv
  obtain ⟨x, _, rfl⟩ := List.mem_map.1 hv
  rfl
/-- The cells of a slice of bytes at block b, from o on. -/
def CellsAt (w : World) (b o : Nat) (xs : List Int) : Prop := ∀ j v, xs[j]? = some v → w.cell? ⟨b, o + j, none⟩ = some (.int .u8 v)
theorem CellsAt.take {w : World} {b o : Nat} {xs : List Int} (h : CellsAt w b o xs) (k : Nat) : CellsAt w b o (xs.take k) := by
  intro j v hj
  rw [List.getElem?_take] at hj
  split at hj
  · exact h j v hj
  · simp at hj
theorem CellsAt.drop {w : World} {b o : Nat} {xs : List Int} (h : CellsAt w b o xs) (k : Nat) : CellsAt w b (o + k) (xs.drop k) := by
  intro j v hj
  rw [List.getElem?_drop] at hj
  have := h _ v hj
  rwa [← Nat.add_assoc] at this
theorem CellsAt.of_heap {w w' : World} {b o : Nat} {xs : List Int} (h : CellsAt w b o xs) (hb : w'.heap[b]? = w.heap[b]?) : CellsAt w' b o xs := by
  intro j v hj
  have := h j v hj
  unfold World.cell? at this ⊢
  rwa [hb]
theorem conv_src {w : World} {b o cap : Nat} {xs : List Int} (h : CellsAt w b o xs) : (convert 22 9 (.slice (some ⟨b, o, none⟩) xs.length cap)).run Tryd.prog w = .ok (.string (strOfNums xs)) w := by
  refine run_convert_bytes_arg w 22 5 (by kernel_rfl) (by kernel_rfl) b o xs.length cap xs rfl ?_ 9 (by kernel_rfl)
  intro i hi
  exact h i _ (by simp [List.getElem?_eq_getElem hi, List.getD])
theorem conv_none (w : World) : (convert 22 9 (.slice none 0 0)).run Tryd.prog w = .ok (.string (strOfNums [])) w :=
  run_convert_bytes_nil w 22 5 (by kernel_rfl) (by kernel_rfl) 0 0 9 (by kernel_rfl)

/-- A slice of bytes that lies in memory, somewhere. -/
def ArgAt (w : World) (v : Value) (bs : List Int) : Prop :=
  (v = .slice none 0 0 ∧ bs = []) ∨ ∃ b o cap, b < w.heap.size ∧ v = .slice (some ⟨b, o, none⟩) bs.length cap ∧ bs.length ≤ cap ∧ cap ≤ maxLen ∧ CellsAt w b o bs
theorem ArgAt.below {w w' : World} {v : Value} {bs : List Int} (h : ArgAt w v bs) (hb : Below w.heap.size w w') : ArgAt w' v bs := by
  rcases h with h | ⟨b, o, cap, h1, h2, h3, h4, h5⟩
  · exact .inl h
  · exact .inr ⟨b, o, cap, Nat.lt_of_lt_of_le h1 hb.size, h2, h3, h4, h5.of_heap (hb.block b h1)⟩
theorem ArgAt.conv {w : World} {v : Value} {bs : List Int} (h : ArgAt w v bs) : (convert 22 9 v).run Tryd.prog w = .ok (.string (strOfNums bs)) w := by
  rcases h with ⟨rfl, rfl⟩ | ⟨b, o, cap, h1, rfl, h3, h4, h5⟩
  · exact conv_none w
  · exact conv_src h5
/-- v' is a new slice of the bytes bs. -/
structure Mine (w w' : World) (pa : Option Addr) (cap : Nat) (bs : List Int) : Prop where
  below : Below w.heap.size w w'
  fits : bs.length ≤ cap
  most : cap ≤ maxLen
  nothing : pa = none → bs = [] ∧ cap = 0
  row : ∀ a, pa = some a → ∃ b cur, a = ⟨b, 0, none⟩ ∧ w.heap.size ≤ b ∧ w'.heap[b]? = some (.cells cur 5 (0, 0)) ∧ cur.size = cap ∧ cur.toList.take bs.length = bs.map (Value.int .u8)
theorem Mine.arg {w w' : World} {pa : Option Addr} {cap : Nat} {bs : List Int} (h : Mine w w' pa cap bs) : ArgAt w' (.slice pa bs.length cap) bs := by
  cases pa with
  | none => obtain ⟨rfl, rfl⟩ := h.nothing rfl; exact .inl ⟨rfl, rfl⟩
  | some a =>
    obtain ⟨b, cur, rfl, h1, h2, h3, h4⟩ := h.row a rfl
    refine .inr ⟨b, 0, cap, lt_of_heap h2, rfl, h.fits, h.most, ?_⟩
    intro j v hj
    have hlt : j < bs.length := (List.getElem?_eq_some_iff.1 hj).1
    have e : (cur.toList.take bs.length)[j]? = some (.int .u8 v) := by rw [h4]; simp [hj]
    rw [List.getElem?_take, if_pos hlt] at e
    simp only [World.cell?, h2, Nat.zero_add]
    simpa using e
theorem mine_of {w w' : World} {v : Value} {bs : List Int} (ho : w'.ownsRow w.heap.size 5 1 v bs.length (bs.map (Value.int .u8))) (hg : Below w.heap.size w w') :
    ∃ pa cap, v = .slice pa bs.length cap ∧ Mine w w' pa cap bs := by
  obtain ⟨_, h2⟩ := ho
  rcases h2 with ⟨rfl, h0⟩ | ⟨g, cap, cur, rfl, h3, h4, h5, h6, h7, h8⟩
  · obtain rfl : bs = [] := List.eq_nil_of_length_eq_zero h0
    exact ⟨none, 0, rfl, hg, Nat.le_refl _, Nat.zero_le _, fun _ => ⟨rfl, rfl⟩, fun a ha => by simp at ha⟩
  · refine ⟨_, cap, rfl, hg, h5, h6, fun h => by simp at h, ?_⟩
    intro a ha
    simp only [Option.some.injEq] at ha
    exact ⟨g, cur, ha.symm, h3, h4, by simpa using h7, by simpa using h8⟩
/-- append(nil, b...). -/
theorem wpList_append_bytes {w : World} {ops : Array Oper} {rest : List Oper} {o : Oper} {a : Act} {Q : Exit → Act → World → Prop} (hgd : o.guard = none) (s x : Operand)
    (ho : o.op = .call { callee := .builtin .append, args := #[s, x], argTypes := #[22, 22] })
    (hs : a.eval s = .slice none 0 0) (v : Value) (hx : a.eval x = v) (bs : List Int) (hv : ArgAt w v bs) (hlen : bs.length ≤ 140737488355328)
    (h : ∀ pa cap w', Mine w w' pa cap bs → wpList Tryd.prog ops Q rest (a.put o.dst (.slice pa bs.length cap)) w') : wpList Tryd.prog ops Q (o :: rest) a w := by
  obtain ⟨i, h2, h3, h4, h5⟩ := info_parts info5
  have hu : Tryd.prog.underlying 22 = some (.slice 5) := by kernel_rfl
  have hnil := World.ownsRow_nil w w.heap.size 5 1
  rcases hv with ⟨rfl, rfl⟩ | ⟨b, q, cap, h6, rfl, h7, h8, h9⟩
  · refine wpList_append_own_none hgd s x 22 ho w.heap.size 5 i 1 hu h2 _ _ _ hs hnil hx ?_
    exact h none 0 w ⟨Below.refl _ _, Nat.le_refl _, Nat.zero_le _, fun _ => ⟨rfl, rfl⟩, fun a ha => by simp at ha⟩
  · refine wpList_append_own w hgd s x 22 ho w.heap.size 5 i (.int .u8 0) 1 1 hu h2 h3 h4 h5 rfl (by decide) _ _ _ hs hnil ⟨b, q, none⟩ bs.length cap (bs.map (Value.int .u8)) hx (by simp)
      (by
        intro j u hj
        simp only [List.getElem?_map, Option.map_eq_some_iff] at hj
        obtain ⟨y, hy, rfl⟩ := hj
        have hplain : (⟨b, q, none⟩ : Addr).add j = ⟨b, q + j, none⟩ := by unfold Addr.add; split <;> simp_all
        rw [hplain]
        exact h9 j y hy) (oneCell_bytes bs) (by omega) (by omega) (Nat.le_refl _) ?_
    intro v' w' hown hgrow _
    have hb : Below w.heap.size w w' := (Below.refl _ _).grown hgrow (Nat.le_refl _) (fun k hk => by simp [Value.ownBlock] at hk)
    rw [Nat.zero_add, List.nil_append] at hown
    obtain ⟨pa, cap', rfl, hm⟩ := mine_of hown hb
    exact h pa cap' w' hm


/-- 'copy' of bytes into a block. -/
theorem wpList_copy_at {w : World} {ops : Array Oper} {rest : List Oper} {o : Oper} {a : Act} {Q : Exit → Act → World → Prop} (hgd : o.guard = none) (d s : Operand)
    (ho : o.op = .call { callee := .builtin .copy, args := #[d, s], argTypes := #[22, 22] })
    (g off dLen dCap b q sLen sCap : Nat) (hd : a.eval d = .slice (some ⟨g, off, none⟩) dLen dCap) (hs : a.eval s = .slice (some ⟨b, q, none⟩) sLen sCap)
    (cur : Array Value) (t : TypeId) (hg : RowAt w g cur t) (cs : List Int) (hn : cs.length = Nat.min sLen dLen) (hsrc : CellsAt w b q cs)
    (hfit : off + cs.length ≤ cur.size) (N : Nat) (hN : cs.length = N)
    (h : ∀ w', Stored g (splice cur.toList off (cs.map (Value.int .u8))).toArray t w w' → wpList Tryd.prog ops Q rest (a.put o.dst (.int .i64 N)) w') : wpList Tryd.prog ops Q (o :: rest) a w := by
  subst hN
  have hu : Tryd.prog.underlying 22 = some (.slice 5) := by kernel_rfl
  have hsz : (Tryd.prog.info? 5).map (·.size) = some 1 := by kernel_rfl
  have hrun := run_copy_row (P := Tryd.prog) w 22 22 o.type 5 g off dLen dCap ⟨b, q, none⟩ sLen sCap cur t (cs.map (Value.int .u8)) hu hsz hg (by simpa using hn)
    (by
      intro j v hj
      simp only [List.getElem?_map, Option.map_eq_some_iff] at hj
      obtain ⟨x, hx, rfl⟩ := hj
      have hplain : (⟨b, q, none⟩ : Addr).add j = ⟨b, q + j, none⟩ := by unfold Addr.add; split <;> simp_all
      rw [hplain]
      exact hsrc j x hx) (by simpa using hfit) (oneCell_bytes cs)
  refine wpList_plain hgd fun K hK => ?_
  unfold Oper.wp
  simp [execOp, ho, resolve, invoke, builtin, hd, hs, hrun, Result.andThen]
  refine hK _ _ (h _ ⟨?_, fun k hk => Go.setRow_other w g k _ hk, rfl, rfl, rfl, by simp⟩)
  have := RowAt.setRow hg (splice cur.toList off (cs.map (Value.int .u8))).toArray
  simpa [splice] using this
end Go.Proofs.YtojcaoieodogdaaDoor
