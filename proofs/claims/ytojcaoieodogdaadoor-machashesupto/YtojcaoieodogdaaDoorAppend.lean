/- Bytes appended to a slice of one's own. -/
import Derived.Test.YtojcaoieodogdaaDoorSure
import Derived.ChangeKeysEq
namespace Go.Proofs.YtojcaoieodogdaaDoor
open Go.RowKit

theorem Mine.owns {w w' : World} {pa : Option Addr} {cap : Nat} {bs : List Int} (h : Mine w w' pa cap bs) : w'.ownsRow w.heap.size 5 1 (.slice pa bs.length cap) bs.length (bs.map (Value.int .u8)) := by
  refine ⟨by simp, ?_⟩
  cases pa with
  | none => obtain ⟨rfl, rfl⟩ := h.nothing rfl; exact .inl ⟨rfl, rfl⟩
  | some a =>
    obtain ⟨b, cur, rfl, h1, h2, h3, h4⟩ := h.row a rfl
    exact .inr ⟨b, cap, cur, rfl, h1, h2, h.fits, h.most, by simpa using h3, by simpa using h4⟩
/-- append to a slice of one's own, as a step of a region that draws its order. -/
theorem step_append_mine {ops : Array Oper} {o : Oper} {a : Act} {w0 w : World} {K : Act → World → Prop} {Q : Exit → Act → World → Prop} {E : Prop} (hgd : o.guard = none) (s x : Operand)
    (ho : o.op = .call { callee := .builtin .append, args := #[s, x], argTypes := #[22, 22] })
    (pa : Option Addr) (N cap : Nat) (hs : a.eval s = .slice pa N cap) (q : List Int) (hN : q.length = N) (hm : Mine w0 w pa cap q) (v : Value) (hx : a.eval x = v) (ys : List Int) (hv : ArgAt w v ys) (M : Nat) (hM : (q ++ ys).length = M) (hlen : M ≤ 140737488355328)
    (h : ∀ pa' cap' w', Mine w0 w' pa' cap' (q ++ ys) → K (a.put o.dst (.slice pa' M cap')) w') :
    if Region.wanted o (yielded ops a.tmps) = true then Oper.wp Tryd.prog o a w K Q else E := by
  have hw : Region.wanted o (yielded ops a.tmps) = true := by simp [Region.wanted, hgd]
  rw [if_pos hw]
  subst hM
  subst hN
  obtain ⟨i, h2, h3, h4, h5⟩ := info_parts info5
  have hu : Tryd.prog.underlying 22 = some (.slice 5) := by kernel_rfl
  have hown := hm.owns
  have hsz := hm.below.size
  rcases hv with ⟨rfl, rfl⟩ | ⟨b, p, c, h6, rfl, h7, h8, h9⟩
  · have hrun := run_append_owned_none (P := Tryd.prog) (w := w) w0.heap.size 22 o.type 5 i 1 hu h2 _ _ _ hown
    unfold Oper.wp
    simp [execOp, ho, resolve, invoke, builtin, hs, hx, hrun, Result.andThen]
    have h10 : K (a.put o.dst (.slice pa q.length cap)) w := by
      have := h pa cap w (by simpa using hm)
      simpa using this
    exact h10
  · refine wp_append_own w s x 22 ho w0.heap.size 5 i (.int .u8 0) 1 1 hu h2 h3 h4 h5 rfl (by decide) _ _ _ hs hown ⟨b, p, none⟩ ys.length c (ys.map (Value.int .u8)) hx (by simp)
      (by
        intro j u hj
        simp only [List.getElem?_map, Option.map_eq_some_iff] at hj
        obtain ⟨y, hy, rfl⟩ := hj
        have hplain : (⟨b, p, none⟩ : Addr).add j = ⟨b, p + j, none⟩ := by unfold Addr.add; split <;> simp_all
        rw [hplain]
        exact h9 j y hy) (oneCell_bytes ys) (by have := hm.most; simp at hlen; unfold maxLen; omega) (by simp at hlen; omega) hsz ?_
    intro v' w' hown' hgrow _
    have hb : Below w0.heap.size w0 w' := hm.below.grown hgrow hsz (fun k hk => (hown.lt k hk).1)
    rw [← List.map_append, ← List.length_append] at hown'
    obtain ⟨pa', cap', rfl, hm'⟩ := mine_of hown' hb
    exact h pa' cap' w' hm'
theorem wpList_append_to {ops : Array Oper} {rest : List Oper} {o : Oper} {a : Act} {w0 w : World} {Q : Exit → Act → World → Prop} (hgd : o.guard = none) (s x : Operand)
    (ho : o.op = .call { callee := .builtin .append, args := #[s, x], argTypes := #[22, 22] })
    (pa : Option Addr) (N cap : Nat) (hs : a.eval s = .slice pa N cap) (q : List Int) (hN : q.length = N) (hm : Mine w0 w pa cap q) (v : Value) (hx : a.eval x = v) (ys : List Int) (hv : ArgAt w v ys) (M : Nat) (hM : (q ++ ys).length = M) (hlen : M ≤ 140737488355328)
    (h : ∀ pa' cap' w', Mine w0 w' pa' cap' (q ++ ys) → wpList Tryd.prog ops Q rest (a.put o.dst (.slice pa' M cap')) w') : wpList Tryd.prog ops Q (o :: rest) a w :=
  wpList_plain hgd fun K hK => by
    have := step_append_mine (ops := ops) (K := K) (Q := Q) (E := True) hgd s x ho pa N cap hs q hN hm v hx ys hv M hM hlen (fun pa' cap' w' hm' => hK _ _ (h pa' cap' w' hm'))
    rwa [if_pos (by simp [Region.wanted, hgd])] at this
theorem Mine.off {w w' : World} {pa : Option Addr} {cap N : Nat} {bs : List Int} (h : Mine w w' pa cap bs) {g : Nat} (hg : g < w.heap.size) : Off g (.slice pa N cap) := by
  intro a n c e
  simp only [Value.slice.injEq] at e
  obtain ⟨b, cur, rfl, h1, _⟩ := h.row a e.1
  show b ≠ g
  omega
theorem ArgAt.turn {W W' : World} {h : Nat} {v : Value} {bs : List Int} (H : ArgAt W v bs) (ht : Turn h W W') (ho : Off h v) : ArgAt W' v bs := by
  rcases H with H | ⟨b, o, cap, h1, rfl, h3, h4, h5⟩
  · exact .inl H
  · exact .inr ⟨b, o, cap, Nat.lt_of_lt_of_le h1 ht.size, rfl, h3, h4, h5.of_heap (ht.block b h1 (ho _ _ _ rfl))⟩
theorem HoldsH.turn {W W' : World} {h g : Nat} {m : List Int} (H : HoldsH W g m) (ht : Turn h W W') (hg : g ≠ h) : HoldsH W' g m := H.of_heap (ht.block g H.lt hg)
theorem RowAt.turn {W W' : World} {h b : Nat} {cs : Array Value} {t : TypeId} (H : RowAt W b cs t) (ht : Turn h W W') (hb : b ≠ h) : RowAt W' b cs t := (ht.block b H.lt hb).trans H
theorem eqItems_same (d : Nat) (l : List Int) (w : World) : ∀ is : List Nat, (∀ i ∈ is, i < l.length) → (Op.eqItems (d + 1) 5 1 (bsv l) (bsv l) is).run Tryd.prog w = .ok true w
  | [], _ => by simp [Op.eqItems]
  | i :: is, h => by
    have hv := bsv_get (l := l) (k := i) (h i (by simp))
    have hp : (part 5 (bsv l) (i * 1)).run Tryd.prog w = .ok (.int .u8 (l[i]?.getD 0)) w := by
      rw [Nat.mul_one]
      simp [part, hv]
    have he : (Op.equalIn (d + 1) 5 (.int .u8 (l[i]?.getD 0)) (.int .u8 (l[i]?.getD 0))).run Tryd.prog w = .ok true w := by
      rw [run_equalIn_int w d 5 .u8 .u8 _ _ Tryd.underlying5]
      simp
    simp only [Op.eqItems, Sem.run_bind, hp, he, Result.andThen_ok]
    simpa using eqItems_same d l w is (fun j hj => h j (by simp [hj]))
/-- A sum is like itself. -/
theorem eql_same (l : List Int) (h : l.length = 32) (w : World) : (Op.equalIn 10000 24 (.agg (bsv l)) (.agg (bsv l))).run Tryd.prog w = .ok true w := by
  have hc : Tryd.prog.cellsOf 5 = 1 := by kernel_rfl
  have hs : (Tryd.prog.info? 5).map (·.size) = some 1 := by kernel_rfl
  cases hq : Tryd.prog.info? 5 with
  | none => simp [hq] at hs
  | some i =>
    rw [run_equalIn_array w 9999 (bsv l) (bsv l) und24 hq, hc]
    exact eqItems_same 9998 l w _ (fun j hj => by rw [h]; exact List.mem_range.1 hj)
/-- One sum, and slices beside it. -/
structure St1 (w W : World) (h : Nat) (m : List Int) (L : List (Value × List Int)) : Prop where
  below : Below w.heap.size w W
  k : KAt W
  lo : w.heap.size ≤ h
  hash : HoldsH W h m
  args : ∀ q ∈ L, ArgAt W q.1 q.2 ∧ Off h q.1
section
variable {w W W' : World} {h : Nat} {m m' : List Int} {L : List (Value × List Int)}
theorem St1.next (H : St1 w W h m L) (hb : Below W.heap.size W W') : St1 w W' h m L :=
  ⟨H.below.trans (hb.mono H.below.size), H.k.below hb, H.lo, H.hash.below hb, fun q hq => ⟨(H.args q hq).1.below hb, (H.args q hq).2⟩⟩
theorem St1.pos (H : St1 w W h m L) (h0 : 0 < w.heap.size) : 0 < h := Nat.lt_of_lt_of_le h0 H.lo
theorem St1.mine (H : St1 w W h m L) {pa : Option Addr} {cap N : Nat} {bs : List Int} (hm : Mine W W' pa cap bs) (hN : bs.length = N) : St1 w W' h m ((.slice pa N cap, bs) :: L) := by
  subst hN
  have h2 := H.next hm.below
  refine ⟨h2.below, h2.k, h2.lo, h2.hash, fun q hq => ?_⟩
  rcases List.mem_cons.1 hq with rfl | hq
  · exact ⟨hm.arg, hm.off H.hash.lt⟩
  · exact h2.args q hq
theorem St1.turn (H : St1 w W h m L) (h0 : 0 < w.heap.size) (ht : Turn h W W') (hh : HoldsH W' h m') : St1 w W' h m' L := by
  have b : Below w.heap.size W W' := ht.below H.below.size H.lo
  exact ⟨H.below.trans b, H.k.turn ht (H.pos h0), H.lo, hh, fun q hq => ⟨(H.args q hq).1.turn ht (H.args q hq).2, (H.args q hq).2⟩⟩
end
/-- Two sums, an answer, and slices beside them. -/
structure St2 (w W : World) (h g f : Nat) (m n S : List Int) (L : List (Value × List Int)) : Prop where
  below : Below w.heap.size w W
  k : KAt W
  lo : w.heap.size ≤ h ∧ w.heap.size ≤ g
  ne : h ≠ g ∧ f ≠ h ∧ f ≠ g
  hash : HoldsH W h m
  twin : HoldsH W g n
  row : RowAt W f (bsv S) 24
  args : ∀ q ∈ L, ArgAt W q.1 q.2 ∧ Off h q.1 ∧ Off g q.1
section
variable {w W W' : World} {h g f : Nat} {m n S m' : List Int} {L : List (Value × List Int)}
theorem St2.next (H : St2 w W h g f m n S L) (hb : Below W.heap.size W W') : St2 w W' h g f m n S L :=
  ⟨H.below.trans (hb.mono H.below.size), H.k.below hb, H.lo, H.ne, H.hash.below hb, H.twin.below hb, H.row.below hb, fun q hq => ⟨(H.args q hq).1.below hb, (H.args q hq).2⟩⟩
theorem St2.turnH (H : St2 w W h g f m n S L) (h0 : 0 < w.heap.size) (ht : Turn h W W') (hh : HoldsH W' h m') : St2 w W' h g f m' n S L :=
  ⟨H.below.trans (ht.below H.below.size H.lo.1), H.k.turn ht (Nat.lt_of_lt_of_le h0 H.lo.1), H.lo, H.ne, hh, H.twin.turn ht H.ne.1.symm, H.row.turn ht H.ne.2.1, fun q hq => ⟨(H.args q hq).1.turn ht (H.args q hq).2.1, (H.args q hq).2⟩⟩
theorem St2.turnG (H : St2 w W h g f m n S L) (h0 : 0 < w.heap.size) (ht : Turn g W W') (hh : HoldsH W' g m') : St2 w W' h g f m m' S L :=
  ⟨H.below.trans (ht.below H.below.size H.lo.2), H.k.turn ht (Nat.lt_of_lt_of_le h0 H.lo.2), H.lo, H.ne, H.hash.turn ht H.ne.1, hh, H.row.turn ht H.ne.2.2, fun q hq => ⟨(H.args q hq).1.turn ht (H.args q hq).2.2, (H.args q hq).2⟩⟩
theorem St1.two (H : St1 w W h m L) (hf : RowAt W f (bsv S) 24) (hfh : f ≠ h) (hg : W.heap.size ≤ g) (hb : Below W.heap.size W W') (hh : HoldsH W' g m) : St2 w W' h g f m m S L := by
  have h2 := H.next hb
  have hl := H.hash.lt
  have hfl := hf.lt
  have hz := H.below.size
  exact ⟨h2.below, h2.k, ⟨h2.lo, by omega⟩, ⟨by omega, hfh, by omega⟩, h2.hash, hh, hf.below hb, fun q hq => ⟨(h2.args q hq).1, (h2.args q hq).2, (H.args q hq).1.off hg⟩⟩
end
end Go.Proofs.YtojcaoieodogdaaDoor
