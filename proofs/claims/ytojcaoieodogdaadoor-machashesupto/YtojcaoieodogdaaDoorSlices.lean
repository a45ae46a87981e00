/- Parts of a slice of bytes, as laws for a walk; a slice of whole numbers. -/
import Derived.Test.YtojcaoieodogdaaDoorLens
namespace Go.Proofs.YtojcaoieodogdaaDoor
open Go.RowKit

theorem sl22 : Tryd.prog.underlying 22 = some (.slice (Tryd.prog.elem 22)) := by kernel_rfl
theorem sz22 (W : World) : (sizeOf (Tryd.prog.elem 22)).run Tryd.prog W = .ok 1 W := by
  have hs : (Tryd.prog.info? (Tryd.prog.elem 22)).map (·.size) = some 1 := by kernel_rfl
  cases hq : Tryd.prog.info? (Tryd.prog.elem 22) with
  | none => simp [hq] at hs
  | some i =>
    have hz : i.size = 1 := by simpa [hq] using hs
    simp [sizeOf, typeInfo, hq, hz]
theorem sliced_arg {w : World} {qa : Option Addr} {N ca : Nat} {bs : List Int} (h : ArgAt w (.slice qa N ca) bs) (hN : bs.length = N) (l n : Nat) (hn : l + n ≤ N) :
    ∃ q c, sliced qa l (l + n) ca 1 = .slice q n c ∧ ArgAt w (.slice q n c) ((bs.drop l).take n) ∧ (∀ g, Off g (.slice qa N ca) → Off g (.slice q n c)) := by
  have hlen : ((bs.drop l).take n).length = n := by simp; omega
  rcases h with ⟨h1, rfl⟩ | ⟨b, o, cap, h1, h2, h3, h4, h5⟩
  · simp only [Value.slice.injEq] at h1
    obtain ⟨rfl, rfl, rfl⟩ := h1
    obtain rfl : l = 0 := by omega
    obtain rfl : n = 0 := by omega
    exact ⟨none, 0, by simp [sliced], .inl ⟨rfl, by simp⟩, fun g hg => hg⟩
  · simp only [Value.slice.injEq] at h2
    obtain ⟨rfl, h2, rfl⟩ := h2
    by_cases hc : ca = l
    · refine ⟨some ⟨b, o, none⟩, ca - l, by simp [sliced, hc], .inr ⟨b, o, ca - l, h1, by rw [hlen], by omega, by omega, ?_⟩, fun g hg => ?_⟩
      · intro j v hj
        have := (List.getElem?_eq_some_iff.1 hj).1
        rw [hlen] at this
        omega
      · intro a n' c' e
        simp only [Value.slice.injEq] at e
        exact hg a _ _ (by rw [e.1])
    · refine ⟨some ⟨b, o + l, none⟩, ca - l, ?_, .inr ⟨b, o + l, ca - l, h1, by rw [hlen], by omega, by omega, (h5.drop l).take n⟩, fun g hg => ?_⟩
      · have hadd : (⟨b, o, none⟩ : Addr).add (l * 1) = ⟨b, o + l, none⟩ := by unfold Addr.add; split <;> simp_all
        simp [sliced, hc]
        simpa using hadd
      · intro a n' c' e
        simp only [Value.slice.injEq, Option.some.injEq] at e
        rw [← e.1]
        exact hg ⟨b, o, none⟩ _ _ rfl
theorem slice_lh {w : World} {qa : Option Addr} {N ca : Nat} {bs : List Int} (h : ArgAt w (.slice qa N ca) bs) (hN : bs.length = N) (l n : Nat) (hn : l + n ≤ N) :
    ∃ q c, (∀ W, (Instr.sliceAt 22 (.slice qa N ca) (some (.int .i64 l)) (some (.int .i64 ((l : Int) + n))) none).run Tryd.prog W = .ok (.slice q n c) W) ∧ ArgAt w (.slice q n c) ((bs.drop l).take n) ∧ (∀ g, Off g (.slice qa N ca) → Off g (.slice q n c)) := by
  obtain ⟨q, c, h1, h2⟩ := sliced_arg h hN l n hn
  have hca : N ≤ ca := by
    rcases h with ⟨h1, rfl⟩ | ⟨b, o, cap, _, h2, h3, _⟩
    · simp only [Value.slice.injEq] at h1
      omega
    · simp only [Value.slice.injEq] at h2
      omega
  refine ⟨q, c, fun W => ?_, h2⟩
  rw [run_sliceAt_slice _ _ _ _ _ _ sl22, run_slice_lh _ _ _ _ _ sl22 _ _ _ _ (by omega) (by omega) (by omega), sz22]
  rw [show ((l : Int) + n).toNat = l + n by omega, Int.toNat_natCast]
  simp only [Result.andThen]
  rw [h1]
theorem slice_l {w : World} {qa : Option Addr} {N ca : Nat} {bs : List Int} (h : ArgAt w (.slice qa N ca) bs) (hN : bs.length = N) (l n : Nat) (hn : l + n = N) :
    ∃ q c, (∀ W, (Instr.sliceAt 22 (.slice qa N ca) (some (.int .i64 l)) none none).run Tryd.prog W = .ok (.slice q n c) W) ∧ ArgAt w (.slice q n c) (bs.drop l) ∧ (∀ g, Off g (.slice qa N ca) → Off g (.slice q n c)) := by
  obtain ⟨q, c, h1, h2, h3⟩ := sliced_arg h hN l n (by omega)
  rw [List.take_of_length_le (by simp; omega)] at h2
  refine ⟨q, c, fun W => ?_, h2, h3⟩
  rw [run_sliceAt_slice _ _ _ _ _ _ sl22, run_slice_l _ _ _ _ _ sl22 _ _ (by omega) (by omega), sz22]
  rw [Int.toNat_natCast]
  simp only [Result.andThen]
  rw [← hn, h1]
theorem wpList_slice_lh {w : World} {ops : Array Oper} {rest : List Oper} {o : Oper} {a : Act} {Q : Exit → Act → World → Prop} (hgd : o.guard = none) (x lo hi : Operand) (ho : o.op = .slice 22 x (some lo) (some hi) none) (xv lv hv v : Value) (hx : a.eval x = xv) (hl : a.eval lo = lv) (hh : a.eval hi = hv)
    (hr : ∀ W, (Instr.sliceAt 22 xv (some lv) (some hv) none).run Tryd.prog W = .ok v W) (h : wpList Tryd.prog ops Q rest (a.put o.dst v) w) : wpList Tryd.prog ops Q (o :: rest) a w := by
  refine wpList_plain hgd fun K hK => ?_
  unfold Oper.wp execOp
  simp only [ho, Option.map_some, Option.map_none, hx, hl, hh, Sem.run_bind, hr, Result.andThen_ok]
  exact hK _ _ h
theorem wpList_slice_l {w : World} {ops : Array Oper} {rest : List Oper} {o : Oper} {a : Act} {Q : Exit → Act → World → Prop} (hgd : o.guard = none) (x lo : Operand) (ho : o.op = .slice 22 x (some lo) none none) (xv lv v : Value) (hx : a.eval x = xv) (hl : a.eval lo = lv)
    (hr : ∀ W, (Instr.sliceAt 22 xv (some lv) none none).run Tryd.prog W = .ok v W) (h : wpList Tryd.prog ops Q rest (a.put o.dst v) w) : wpList Tryd.prog ops Q (o :: rest) a w := by
  refine wpList_plain hgd fun K hK => ?_
  unfold Oper.wp execOp
  simp only [ho, Option.map_some, Option.map_none, hx, hl, Sem.run_bind, hr, Result.andThen_ok]
  exact hK _ _ h
theorem wpList_min_as {w : World} {ops : Array Oper} {rest : List Oper} {o : Oper} {a : Act} {Q : Exit → Act → World → Prop} (hgd : o.guard = none) (x y : Operand) (ho : o.op = .call { callee := .builtin .min, args := #[x, y], argTypes := #[3, 3] }) (d e : Nat) (hx : a.eval x = .int .i64 d) (hy : a.eval y = .int .i64 e)
    (h : ∀ n : Nat, n ≤ e → n ≤ d → wpList Tryd.prog ops Q rest (a.put o.dst (.int .i64 n)) w) : wpList Tryd.prog ops Q (o :: rest) a w := by
  have hr := run_min_int2 (P := Tryd.prog) (w := w) #[3, 3] o.type .i64 .i64 d e
  refine wpList_plain hgd fun K hK => ?_
  unfold Oper.wp
  simp only [execOp, ho, resolve, invoke, builtin]
  simp [hx, hy, hr, Result.andThen]
  by_cases hlt : e < d
  · rw [if_pos hlt]
    exact hK _ _ (h e (Nat.le_refl _) (by omega))
  · rw [if_neg hlt]
    exact hK _ _ (h d (by omega) (Nat.le_refl _))
/-- A slice of whole numbers that lies in memory. -/
def CutsAt (w : World) (pc : Option Addr) (M : Nat) : Prop :=
  ∀ k, k < M → ∃ b o x, pc = some ⟨b, o, none⟩ ∧ b < w.heap.size ∧ w.cell? ⟨b, o + k, none⟩ = some (.int .i64 x)
theorem CutsAt.below {w w' : World} {pc : Option Addr} {M : Nat} (h : CutsAt w pc M) (hb : Below w.heap.size w w') : CutsAt w' pc M := by
  intro k hk
  obtain ⟨b, o, x, h1, h2, h3⟩ := h k hk
  exact ⟨b, o, x, h1, Nat.lt_of_lt_of_le h2 hb.size, (hb.cell (p := ⟨b, o + k, none⟩) h2).trans h3⟩
end Go.Proofs.YtojcaoieodogdaaDoor
