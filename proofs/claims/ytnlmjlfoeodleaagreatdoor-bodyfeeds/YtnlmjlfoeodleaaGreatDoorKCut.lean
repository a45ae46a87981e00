/- However bytes are cut: in plain words, and what the law carries along. -/
import Derived.Test.YtnlmjlfoeodleaaGreatDoorKSl
namespace Go.Proofs.YtnlmjlfoeodleaaGreatDoor
open Go.RowKit

theorem cut_step {s : KS} {L : B} {f k : Nat} (hf : feedN s (L.take f) = f) : feedK s (L.take (f + k)) = feedK (feedK s (L.take f)) ((L.drop f).take k) ∧ feedN s (L.take (f + k)) = f + feedN (feedK s (L.take f)) ((L.drop f).take k) ∧ feedB s (L.take (f + k)) = feedB s (L.take f) ++ feedB (feedK s (L.take f)) ((L.drop f).take k) := by
  rw [take_add_k]
  obtain ⟨e1, e2, e3⟩ := fk_app (L.take f) ((L.drop f).take k) s
  rw [e1, e2, e3, hf]
  exact ⟨rfl, rfl, rfl⟩
theorem cut_end {s : KS} {L : B} {f k : Nat} (hf : feedN s (L.take f) = f) (hk : f + k ≤ L.length) (hm : feedN (feedK s (L.take f)) ((L.drop f).take k) < k) : feedK s L = feedK (feedK s (L.take f)) ((L.drop f).take k) ∧ feedN s L = f + feedN (feedK s (L.take f)) ((L.drop f).take k) ∧ feedB s L = feedB s (L.take f) ++ feedB (feedK s (L.take f)) ((L.drop f).take k) := by
  obtain ⟨c1, c2, c3⟩ := cut_step (k := k) hf
  have hlen : ((L.drop f).take k).length = k := by rw [List.length_take, List.length_drop]; omega
  have hend := (fk_took ((L.drop f).take k) (feedK s (L.take f))).2.2.2 (by rw [hlen]; exact hm)
  rw [← c1] at hend
  obtain ⟨a1, a2, a3⟩ := fk_app (L.take (f + k)) (L.drop (f + k)) s
  obtain ⟨d1, d2, d3⟩ := fk_ended hend (L.drop (f + k))
  rw [List.take_append_drop, d1] at a1
  rw [List.take_append_drop, d2] at a2
  rw [List.take_append_drop, d3, List.append_nil] at a3
  exact ⟨a1.trans c1, by rw [a2, c2]; omega, a3.trans c3⟩
theorem byte_most (s : KS) (c : UInt8) : (byteK s c).most = s.most := by
  unfold byteK
  split
  · rfl
  · unfold stepK
    split
    · exact (cnt_st s c).2.2.2.2.1
    · unfold judgeK
      have := (next_st (cntK s c) c).2.1
      rw [(cnt_st s c).2.2.2.2.1] at this
      (repeat' split) <;> exact this
theorem fk_most : ∀ (l : B) (s : KS), (feedK s l).most = s.most
  | [], s => rfl
  | c :: l, s => by
    cases hn : endedK s with
    | true => rw [(fk_ended hn _).1]
    | false => rw [(fk_cons hn c l).1, fk_most l, byte_most]
theorem fk_least {m : Nat} (hm : m ≤ 1099511627776) (l : B) : (feedB (newK m) l).length ≤ m := by
  have h1 := fk_told l (newK m)
  have h2 := (feed_inv l (invK_new hm)).told
  rw [fk_most] at h2
  have h3 : (newK m).told = 0 := rfl
  have h4 : (newK m).most = m := rfl
  omega
/-- Two readers, what the one told, and what the other told so far. -/
structure CutS (w W : World) (Gx Gy : Nat → Prop) (gx gy : Nat) (Sx Sy : KS) (vo va : Value) (Xo Xa : B) : Prop where
  low : Below w.heap.size w W
  x : RdAt Gx W gx Sx
  y : RdAt Gy W gy Sy
  d : ∀ k, Gx k → ¬ Gy k
  ge : ∀ k, Gx k ∨ Gy k → w.heap.size ≤ k
  lt : ∀ k, Gx k ∨ Gy k → k < W.heap.size
  o : Own W 0 vo Xo
  oy : ∀ k, vo.ownBlock = some k → ¬ Gy k
  a : Own W w.heap.size va Xa
  ax : ∀ k, va.ownBlock = some k → ¬ Gx k ∧ ¬ Gy k ∧ vo.ownBlock ≠ some k
theorem CutS.next {w W W' : World} {Gx Gy : Nat → Prop} {gx gy : Nat} {Sx Sy : KS} {vo va : Value} {Xo Xa : B} (h : CutS w W Gx Gy gx gy Sx Sy vo va Xo Xa) (hb : Below W.heap.size W W') : CutS w W' Gx Gy gx gy Sx Sy vo va Xo Xa :=
  ⟨h.low.trans (hb.mono h.low.size), h.x.next hb, h.y.next hb, h.d, h.ge, fun k hk => Nat.lt_of_lt_of_le (h.lt k hk) hb.size, h.o.keep hb, h.oy, h.a.keep hb, h.ax⟩
/-- The second reader fed; a row that it told. -/
theorem CutS.feed {w W W' : World} {Gx Gy Gy' : Nat → Prop} {gx gy : Nat} {Sx Sy : KS} {vo va v' : Value} {Xo Xa l : B} (h : CutS w W Gx Gy gx gy Sx Sy vo va Xo Xa) (hG : FedG Gy W W' gy Sy l Gy' v') : CutS w W' Gx Gy' gx gy Sx (feedK Sy l) vo va Xo Xa := by
  have hlo : ∀ k, vo.ownBlock = some k → k < W.heap.size := fun k e => ys_lt h.o e
  have hla : ∀ k, va.ownBlock = some k → k < W.heap.size := fun k e => ys_lt (own_low0 h.a) e
  refine ⟨h.low.trans (hG.only.below (fun k hk => h.ge k (.inr hk)) h.low.size), h.x.keep hG.only h.d, hG.rd, fun k hx hy => ?_, fun k hk => ?_, fun k hk => ?_, own_only h.o hG.only h.oy, fun k e hy => ?_, own_only h.a hG.only (fun k e => (h.ax k e).2.1), fun k e => ⟨(h.ax k e).1, fun hy => ?_, (h.ax k e).2.2⟩⟩
  · rcases hG.sub k hy with h1 | h1
    · exact h.d k hx h1
    · have := h.lt k (.inl hx); omega
  · rcases hk with hk | hk
    · exact h.ge k (.inl hk)
    · rcases hG.sub k hk with h1 | h1
      · exact h.ge k (.inr h1)
      · exact Nat.le_trans h.low.size h1
  · rcases hk with hk | hk
    · exact Nat.lt_of_lt_of_le (h.lt k (.inl hk)) hG.only.size
    · exact hG.lt k hk
  · rcases hG.sub k hy with h1 | h1
    · exact h.oy k e h1
    · have := hlo k e; omega
  · rcases hG.sub k hy with h1 | h1
    · exact (h.ax k e).2.1 h1
    · have := hla k e; omega
/-- What is told so far, with more behind it. -/
theorem CutS.app {w W W' : World} {Gx Gy : Nat → Prop} {gx gy : Nat} {Sx Sy : KS} {vo va va' : Value} {Xo Xa Xa' : B} (h : CutS w W Gx Gy gx gy Sx Sy vo va Xo Xa) (hg : W.grownBy W' va.ownBlock) (ho : Own W' w.heap.size va' Xa') (hv : va'.ownBlock = va.ownBlock ∨ va'.ownBlock = some W.heap.size) : CutS w W' Gx Gy gx gy Sx Sy vo va' Xo Xa' := by
  have og : Only (fun k => va.ownBlock = some k) W W' := Only.grown hg (fun k e => e)
  have hlo : ∀ k, vo.ownBlock = some k → k < W.heap.size := fun k e => ys_lt h.o e
  refine ⟨h.low.trans (og.below (fun k hk => own_ge h.a hk) h.low.size), h.x.keep og (fun k hx e => (h.ax k e).1 hx), h.y.keep og (fun k hy e => (h.ax k e).2.1 hy), h.d, h.ge, fun k hk => Nat.lt_of_lt_of_le (h.lt k hk) hg.size, own_only h.o og (fun k e e2 => (h.ax k e2).2.2 e), h.oy, ho, fun k e => ?_⟩
  rcases hv with e2 | e2
  · exact h.ax k (by rw [← e2]; exact e)
  · rw [e2] at e
    obtain rfl := Option.some.inj e
    exact ⟨fun hx => by have := h.lt _ (.inl hx); omega, fun hy => by have := h.lt _ (.inr hy); omega, fun e3 => by have := hlo _ e3; omega⟩
/-- Bytes of any slice laid behind a row of one's own. -/
theorem wpList_append_any {w : World} {ops : Array Oper} {rest : List Oper} {o : Oper} {a : Act} {Q : Exit → Act → World → Prop} (hgd : o.guard = none) (s x : Operand)
    (ho : o.op = .call { callee := .builtin .append, args := #[s, x], argTypes := #[32, 32] }) (base : Nat) (v : Value) (n : Nat) (acc L : B) (hs : a.eval s = v) (hown : Own w base v acc) (hacc : acc.length = n) (p : Option Addr) (m c : Nat) (hx : a.eval x = .slice p m c) (hm : L.length = m) (hA : ArgAt w p L) (hp : p = none → c = 0) (hl : n + m ≤ 140737488355328) (hbase : base ≤ w.heap.size)
    (h : ∀ q d w', Own w' base (.slice q (n + m) d) (acc ++ L) → w.grownBy w' v.ownBlock → ((Value.slice q (n + m) d).ownBlock = v.ownBlock ∨ (Value.slice q (n + m) d).ownBlock = some w.heap.size) → wpList Tryz.prog ops Q rest (a.put o.dst (.slice q (n + m) d)) w') : wpList Tryz.prog ops Q (o :: rest) a w := by
  obtain ⟨i0, hi0, hz0, hz1, hz2⟩ := info_parts infoB
  cases p with
  | none =>
    have hL : L = [] := by
      cases L with
      | nil => rfl
      | cons y r => obtain ⟨_, _, e, _⟩ := hA 0 y rfl; cases e
    subst hL
    obtain rfl : m = 0 := by simpa using hm.symm
    obtain rfl := hp rfl
    obtain ⟨q, d, rfl⟩ := own_slice hown
    rw [hacc] at hown hs
    have hown' : w.ownsRow base 5 1 (.slice q n d) n (Lib.byteCells acc) := by unfold Own at hown; rw [hacc] at hown; exact hown
    refine wpList_append_own_none hgd s x 32 ho base 5 i0 1 Tryz.underlying32 hi0 (.slice q n d) n (Lib.byteCells acc) hs hown' hx ?_
    have h9 := h q d w (by rw [List.append_nil]; exact hown) ⟨rfl, rfl, rfl, Nat.le_refl _, fun _ _ _ => rfl⟩ (.inl (by rw [hacc]; cases q <;> rfl))
    exact h9
  | some ad =>
    have hown' : w.ownsRow base 5 1 v n (Lib.byteCells acc) := by unfold Own at hown; rw [hacc] at hown; exact hown
    by_cases hL : L = []
    · subst hL
      obtain rfl : m = 0 := by simpa using hm.symm
      refine wpList_append_own_at w hgd s x 32 ho base 5 i0 _ 1 1 Tryz.underlying32 hi0 hz0 hz1 hz2 rfl (by decide) v n (Lib.byteCells acc) hs hown' ad 0 c [] hx rfl (fun j u hj => by simp at hj) (fun u hu => by simp at hu) (by unfold maxLen; omega) (by omega) hbase ?_
      intro v' w' h1 h2 _ h4
      obtain ⟨q, d, rfl⟩ := own_slice h1
      exact h q d w' (by unfold Own; rw [List.append_nil, hacc]; simpa using h1) h2 h4
    · obtain ⟨g, o2, rfl⟩ := hA.plain ad rfl hL
      refine wpList_append_own_at w hgd s x 32 ho base 5 i0 _ 1 1 Tryz.underlying32 hi0 hz0 hz1 hz2 rfl (by decide) v n (Lib.byteCells acc) hs hown' ⟨g, o2, none⟩ m c (Lib.byteCells L) hx (by simp only [Lib.byteCells, List.length_map, hm, Nat.mul_one]) (arg_news hA) (byte_one L) (by unfold maxLen; omega) (by omega) hbase ?_
      intro v' w' h1 h2 _ h4
      obtain ⟨q, d, rfl⟩ := own_slice h1
      exact h q d w' (Own.put (by rw [hacc]; exact h1) rfl hm) h2 h4
theorem own_nil {w : World} {b n c : Nat} {p : Option Addr} {X : B} (h : Own w b (.slice p n c) X) : p = none → c = 0 := by
  rintro rfl
  rcases h.2 with ⟨h1, _⟩ | ⟨g, cap, cur, h1, _⟩
  · cases h1; rfl
  · cases h1
/-- What is left of a whole number by 40. -/
theorem rem40 (z : Int) : -40 < z.tmod 40 ∧ z.tmod 40 < 40 := by
  have h1 := Int.tmod_lt_of_pos z (show (0 : Int) < 40 by decide)
  have h2 := Int.lt_tmod_of_pos z (show (0 : Int) < 40 by decide)
  exact ⟨h2, h1⟩
theorem rem40n {z : Int} (h : 0 ≤ z) : 0 ≤ z.tmod 40 := Int.tmod_nonneg 40 h
theorem run_rem40 (z : Int) (w : World) : (binOp .rem 3 (.int .i64 z) (.int .i64 40)).run Tryz.prog w = .ok (.int .i64 (z.tmod 40)) w := by
  have := rem40 z
  have e : IntKind.i64.wrap (z.tmod 40) = z.tmod 40 := by rw [IntKind.wrap_i64]; omega
  go_simp
theorem wpList_rem_as {w : World} {ops : Array Oper} {rest : List Oper} {o : Oper} {a : Act} {Q : Exit → Act → World → Prop} (hgd : o.guard = none) (x : Operand) (ho : o.op = .binOp .rem 3 x (.const (.int .i64 40)) 3) (z : Int) (hx : a.eval x = .int .i64 z)
    (h : ∀ r : Int, -40 < r → r < 40 → (0 ≤ z → 0 ≤ r) → wpList Tryz.prog ops Q rest (a.put o.dst (.int .i64 r)) w) : wpList Tryz.prog ops Q (o :: rest) a w := by
  have hr := run_rem40 z w
  refine wpList_plain hgd fun K hK => ?_
  unfold Oper.wp
  have hc : a.eval (.const (.int .i64 40)) = .int .i64 40 := rfl
  simp only [execOp, ho]
  simp [hx, hc, eqGuard, hr, Result.andThen]
  exact hK _ _ (h _ (rem40 z).1 (rem40 z).2 rem40n)
theorem wpList_min_as {w : World} {ops : Array Oper} {rest : List Oper} {o : Oper} {a : Act} {Q : Exit → Act → World → Prop} (hgd : o.guard = none) (x y : Operand) (ho : o.op = .call { callee := .builtin .min, args := #[x, y], argTypes := #[3, 3] }) (d e : Int) (hx : a.eval x = .int .i64 d) (hy : a.eval y = .int .i64 e)
    (h : ∀ n : Int, n = min d e → wpList Tryz.prog ops Q rest (a.put o.dst (.int .i64 n)) w) : wpList Tryz.prog ops Q (o :: rest) a w := by
  have hr := run_min_int2 (P := Tryz.prog) (w := w) #[3, 3] o.type .i64 .i64 d e
  refine wpList_plain hgd fun K hK => ?_
  unfold Oper.wp
  simp only [execOp, ho, resolve, invoke, builtin]
  simp [hx, hy, hr, Result.andThen]
  by_cases hlt : e < d
  · rw [if_pos hlt]
    exact hK _ _ (h _ (by omega))
  · rw [if_neg hlt]
    exact hK _ _ (h _ (by omega))
end Go.Proofs.YtnlmjlfoeodleaaGreatDoor
