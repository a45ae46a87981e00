/- Bytes that came in, bytes appended to nothing, and bytes written over. -/
import Derived.Test.YtfiiiefhchbhlaaWorks
import Derived.Laws.AppendOwnNone
namespace Go.Proofs.Ytfiiiefhchbhlaa
open Go.RowKit

/-- A slice of bytes that lies in memory, somewhere. -/
def ArgAt (w : World) (v : Value) (bs : List Int) : Prop :=
  (v = .slice none 0 0 ∧ bs = []) ∨ ∃ b o cap, b < w.heap.size ∧ v = .slice (some ⟨b, o, none⟩) bs.length cap ∧ bs.length ≤ cap ∧ cap ≤ maxLen ∧ CellsAt w b o bs
theorem ArgAt.below {w w' : World} {v : Value} {bs : List Int} (h : ArgAt w v bs) (hb : Below w.heap.size w w') : ArgAt w' v bs := by
  rcases h with h | ⟨b, o, cap, h1, h2, h3, h4, h5⟩
  · exact .inl h
  · exact .inr ⟨b, o, cap, Nat.lt_of_lt_of_le h1 hb.size, h2, h3, h4, h5.of_heap (hb.block b h1)⟩
theorem ArgAt.conv {w : World} {v : Value} {bs : List Int} (h : ArgAt w v bs) : (convert 28 9 v).run Try.prog w = .ok (.string (strOfNums bs)) w := by
  rcases h with ⟨rfl, rfl⟩ | ⟨b, o, cap, h1, rfl, h3, h4, h5⟩
  · exact conv_none w
  · exact conv_src h5
/-- Where a slice's cells are. -/
theorem ArgAt.src {w : World} {v : Value} {bs : List Int} (h : ArgAt w v bs) {g : Nat} (hg : w.heap.size ≤ g) : SrcAt g w v bs := by
  rcases h with h | ⟨b, o, cap, h1, h2, h3, h4, h5⟩
  · exact .inl h
  · exact .inr ⟨b, o, cap, h2, h3, h4, h5, by omega⟩
/-- v' is a new slice of the bytes bs. -/
structure Mine (w w' : World) (pa : Option Addr) (cap : Nat) (bs : List Int) : Prop where
  below : Below w.heap.size w w'
  fits : bs.length ≤ cap
  most : cap ≤ maxLen
  nothing : pa = none → bs = [] ∧ cap = 0
  row : ∀ a, pa = some a → ∃ b cur, a = ⟨b, 0, none⟩ ∧ w.heap.size ≤ b ∧ w'.heap[b]? = some (.cells cur 5 (0, 0)) ∧ cur.size = cap ∧ cur.toList.take bs.length = bs.map (Value.int .u8)
theorem Mine.arg {w w' : World} {pa : Option Addr} {cap : Nat} {bs : List Int} (h : Mine w w' pa cap bs) : ArgAt w' (.slice pa bs.length cap) bs := by
  cases pa with
  | none => obtain ⟨rfl, rfl⟩ := h.nothing rfl; exact .inl ⟨rfl, rfl⟩
  | some a =>
    obtain ⟨b, cur, rfl, h1, h2, h3, h4⟩ := h.row a rfl
    refine .inr ⟨b, 0, cap, lt_of_heap h2, rfl, h.fits, h.most, ?_⟩
    intro j v hj
    have hlt : j < bs.length := (List.getElem?_eq_some_iff.1 hj).1
    have e : (cur.toList.take bs.length)[j]? = some (.int .u8 v) := by rw [h4]; simp [hj]
    rw [List.getElem?_take, if_pos hlt] at e
    simp only [World.cell?, h2, Nat.zero_add]
    simpa using e
theorem Mine.src {w w' : World} {pa : Option Addr} {cap : Nat} {bs : List Int} (h : Mine w w' pa cap bs) {g : Nat} (hg : g < w.heap.size) : SrcAt g w' (.slice pa bs.length cap) bs := by
  cases pa with
  | none => obtain ⟨rfl, rfl⟩ := h.nothing rfl; exact .inl ⟨rfl, rfl⟩
  | some a =>
    obtain ⟨b, cur, rfl, h1, h2, h3, h4⟩ := h.row a rfl
    rcases h.arg with ⟨hv, _⟩ | ⟨b', o', cap', h5, h6, h7, h8, h9⟩
    · simp at hv
    · obtain ⟨h10, h11⟩ : (⟨b, 0, none⟩ : Addr) = ⟨b', o', none⟩ ∧ cap = cap' := by simpa using h6
      cases h10
      exact .inr ⟨b, 0, cap, rfl, h.fits, h.most, h9, by omega⟩
theorem mine_of {w w' : World} {v : Value} {bs : List Int} (ho : w'.ownsRow w.heap.size 5 1 v bs.length (bs.map (Value.int .u8))) (hg : Below w.heap.size w w') :
    ∃ pa cap, v = .slice pa bs.length cap ∧ Mine w w' pa cap bs := by
  obtain ⟨_, h2⟩ := ho
  rcases h2 with ⟨rfl, h0⟩ | ⟨g, cap, cur, rfl, h3, h4, h5, h6, h7, h8⟩
  · obtain rfl : bs = [] := List.eq_nil_of_length_eq_zero h0
    exact ⟨none, 0, rfl, hg, Nat.le_refl _, Nat.zero_le _, fun _ => ⟨rfl, rfl⟩, fun a ha => by simp at ha⟩
  · refine ⟨_, cap, rfl, hg, h5, h6, fun h => by simp at h, ?_⟩
    intro a ha
    simp only [Option.some.injEq] at ha
    exact ⟨g, cur, ha.symm, h3, h4, by simpa using h7, by simpa using h8⟩
/-- append(nil, b...). -/
theorem wpList_append_bytes {w : World} {ops : Array Oper} {rest : List Oper} {o : Oper} {a : Act} {Q : Exit → Act → World → Prop} (hgd : o.guard = none) (s x : Operand)
    (ho : o.op = .call { callee := .builtin .append, args := #[s, x], argTypes := #[28, 28] })
    (hs : a.eval s = .slice none 0 0) (v : Value) (hx : a.eval x = v) (bs : List Int) (hv : ArgAt w v bs) (hlen : bs.length ≤ 140737488355328)
    (h : ∀ pa cap w', Mine w w' pa cap bs → wpList Try.prog ops Q rest (a.put o.dst (.slice pa bs.length cap)) w') : wpList Try.prog ops Q (o :: rest) a w := by
  obtain ⟨i, h2, h3, h4, h5⟩ := info_parts info5
  have hu : Try.prog.underlying 28 = some (.slice 5) := by kernel_rfl
  have hnil := World.ownsRow_nil w w.heap.size 5 1
  rcases hv with ⟨rfl, rfl⟩ | ⟨b, q, cap, h6, rfl, h7, h8, h9⟩
  · refine wpList_append_own_none hgd s x 28 ho w.heap.size 5 i 1 hu h2 _ _ _ hs hnil hx ?_
    exact h none 0 w ⟨Below.refl _ _, Nat.le_refl _, Nat.zero_le _, fun _ => ⟨rfl, rfl⟩, fun a ha => by simp at ha⟩
  · refine wpList_append_own w hgd s x 28 ho w.heap.size 5 i (.int .u8 0) 1 1 hu h2 h3 h4 h5 rfl (by decide) _ _ _ hs hnil ⟨b, q, none⟩ bs.length cap (bs.map (Value.int .u8)) hx (by simp)
      (by
        intro j u hj
        simp only [List.getElem?_map, Option.map_eq_some_iff] at hj
        obtain ⟨y, hy, rfl⟩ := hj
        have hplain : (⟨b, q, none⟩ : Addr).add j = ⟨b, q + j, none⟩ := by unfold Addr.add; split <;> simp_all
        rw [hplain]
        exact h9 j y hy) (oneCell_bytes bs) (by omega) (by omega) (Nat.le_refl _) ?_
    intro v' w' hown hgrow _
    have hb : Below w.heap.size w w' := (Below.refl _ _).grown hgrow (Nat.le_refl _) (fun k hk => by simp [Value.ownBlock] at hk)
    rw [Nat.zero_add, List.nil_append] at hown
    obtain ⟨pa, cap', rfl, hm⟩ := mine_of hown hb
    exact h pa cap' w' hm

/-- Nothing has turned but bytes of the one block at pa, in which N of them can be written. -/
structure Scrib (pa : Option Addr) (N : Nat) (w W : World) : Prop where
  os : W.os = w.os
  tape : W.tape = w.tape
  output : W.output = w.output
  size : W.heap.size = w.heap.size
  block : ∀ j, (∀ a, pa = some a → a.block ≠ j) → W.heap[j]? = w.heap[j]?
  row : 0 < N → ∃ b cur, pa = some ⟨b, 0, none⟩ ∧ W.heap[b]? = some (.cells cur 5 (0, 0)) ∧ N ≤ cur.size
theorem Scrib.step {b N k : Nat} {w W : World} (h : Scrib (some ⟨b, 0, none⟩) N w W) (x : Value) : Scrib (some ⟨b, 0, none⟩) N w (W.setCell ⟨b, k, none⟩ x) := by
  refine ⟨h.os, h.tape, h.output, by simp [World.setCell]; exact h.size, fun j hj => ?_, fun hN => ?_⟩
  · rw [Below.heap_setCell W ⟨b, k, none⟩ x j (fun e => hj _ rfl e.symm)]; exact h.block j hj
  · obtain ⟨b', cur, h1, h2, h3⟩ := h.row hN
    cases h1
    refine ⟨b, cur.setIfInBounds k x, rfl, ?_, by simpa using h3⟩
    simp [World.setCell, Array.getElem?_modify, h2]
theorem Scrib.cell {pa : Option Addr} {N k : Nat} {w W : World} (h : Scrib pa N w W) (hk : k < N) : ∃ b y, pa = some ⟨b, 0, none⟩ ∧ W.cell? ⟨b, k, none⟩ = some y ∧ W.frozen? ⟨b, k, none⟩ = false := by
  obtain ⟨b, cur, h1, h2, h3⟩ := h.row (by omega)
  refine ⟨b, cur[k]'(by omega), h1, ?_, ?_⟩
  · simp [World.cell?, h2]
  · simp [World.frozen?, h2]
theorem Scrib.below {pa : Option Addr} {N B : Nat} {w W : World} (h : Scrib pa N w W) (hp : ∀ a, pa = some a → B ≤ a.block) : Below B w W :=
  ⟨h.os, h.tape, h.output, by rw [h.size]; exact Nat.le_refl _, fun k hk => h.block k fun a ha => by have := hp a ha; omega⟩
theorem Scrib.holds {pa : Option Addr} {N r g S : Nat} {w W : World} {q : List Int} (h : Scrib pa N w W) (hh : Holds w r g S q) (hp : ∀ a, pa = some a → a.block ≠ r ∧ a.block ≠ g) : Holds W r g S q :=
  hh.of_heap (h.block r fun a ha => (hp a ha).1) (h.block g fun a ha => (hp a ha).2)
theorem Mine.scrib {w w' w2 : World} {pa : Option Addr} {cap : Nat} {bs : List Int} (h : Mine w w' pa cap bs) (hk : ∀ j, w.heap.size ≤ j → j < w'.heap.size → w2.heap[j]? = w'.heap[j]?) : Scrib pa bs.length w2 w2 := by
  refine ⟨rfl, rfl, rfl, rfl, fun _ _ => rfl, fun hN => ?_⟩
  cases pa with
  | none => have := (h.nothing rfl).1; subst this; simp at hN
  | some a =>
    obtain ⟨b, cur, rfl, h1, h2, h3, h4⟩ := h.row a rfl
    exact ⟨b, cur, rfl, (hk b h1 (lt_of_heap h2)).trans h2, by rw [h3]; exact h.fits⟩
theorem BytesAt.form {B : Nat} {w : World} {v : Value} {xs : List Int} (h : BytesAt B w v xs) : ∃ pa, v = .slice pa xs.length xs.length ∧ Scrib pa xs.length w w ∧ ∀ a, pa = some a → B ≤ a.block := by
  rcases h with ⟨rfl, rfl⟩ | ⟨b, h1, rfl, h3⟩
  · exact ⟨none, rfl, ⟨rfl, rfl, rfl, rfl, fun _ _ => rfl, fun h => by simp at h⟩, fun a ha => by simp at ha⟩
  · refine ⟨_, rfl, ⟨rfl, rfl, rfl, rfl, fun _ _ => rfl, fun _ => ⟨b, _, rfl, h3, by simp⟩⟩, ?_⟩
    intro a ha
    simp only [Option.some.injEq] at ha
    rw [← ha]; exact h1
end Go.Proofs.Ytfiiiefhchbhlaa
