/- Parts of a slice of bytes, as laws for a walk, whatever its base is. -/
import Derived.Test.YtllbdpiihiohoaaDoorKLawF
namespace Go.Proofs.YtllbdpiihiohoaaDoor
open Go.RowKit

theorem slB : Tryd.prog.underlying 24 = some (.slice (Tryd.prog.elem 24)) := by kernel_rfl
theorem szB (W : World) : (sizeOf (Tryd.prog.elem 24)).run Tryd.prog W = .ok 1 W := by
  have hs : (Tryd.prog.info? (Tryd.prog.elem 24)).map (·.size) = some 1 := by kernel_rfl
  cases hq : Tryd.prog.info? (Tryd.prog.elem 24) with
  | none => simp [hq] at hs
  | some i =>
    have hz : i.size = 1 := by simpa [hq] using hs
    simp [sizeOf, typeInfo, hq, hz]
/-- What a slice handed in may be. -/
structure SlOk (p : Option Addr) (n c : Nat) (L : B) : Prop where
  len : L.length = n
  cap : n ≤ c
  nil : p = none → c = 0
  plain : ∀ a, p = some a → L ≠ [] → ∃ g o, a = ⟨g, o, none⟩
/-- A part of a slice. -/
structure Part (p : Option Addr) (L : B) (q : Option Addr) (k d : Nat) (l : Nat) : Prop where
  arg : ∀ w : World, ArgAt w p L → ArgAt w q ((L.drop l).take k)
  cap : k ≤ d
  nil : q = none → d = 0
  blk : ∀ a, q = some a → ∃ a0, p = some a0 ∧ a.block = a0.block
theorem ArgAt.plain {w : World} {p : Option Addr} {L : B} (h : ArgAt w p L) : ∀ a, p = some a → L ≠ [] → ∃ g o, a = ⟨g, o, none⟩ := by
  intro a e hL
  cases L with
  | nil => exact absurd rfl hL
  | cons y l =>
    obtain ⟨g, o, e2, _⟩ := h 0 y rfl
    rw [e] at e2
    exact ⟨g, o, Option.some.inj e2⟩
theorem part_any {p : Option Addr} {n c : Nat} {L : B} (h : SlOk p n c L) (l k : Nat) (hk : l + k ≤ n) : ∃ q d, sliced p l (l + k) c 1 = .slice q k d ∧ Part p L q k d l := by
  have hcap := h.cap
  cases p with
  | none =>
    have hc := h.nil rfl
    subst hc
    obtain rfl : l = 0 := by omega
    obtain rfl : k = 0 := by omega
    exact ⟨none, 0, by simp [sliced], ⟨fun w _ j y hj => by simp at hj, Nat.le_refl _, fun _ => rfl, (fun a e => by cases e)⟩⟩
  | some a =>
    by_cases hc : c = l
    · refine ⟨some a, c - l, by simp [sliced, hc], ⟨fun w _ j y hj => ?_, by omega, (fun e => by cases e), fun a2 e => ⟨a, rfl, by rw [Option.some.inj e]⟩⟩⟩
      obtain rfl : k = 0 := by omega
      simp at hj
    · by_cases hL : L = []
      · have hn := h.len
        subst hL
        obtain rfl : n = 0 := by simpa using hn.symm
        obtain rfl : l = 0 := by omega
        obtain rfl : k = 0 := by omega
        refine ⟨some (a.add (0 * 1)), c - 0, by simp [sliced, hc], ⟨fun w _ j y hj => by simp at hj, by omega, (fun e => by cases e), fun a2 e => ⟨a, rfl, ?_⟩⟩⟩
        rw [← Option.some.inj e]
        unfold Addr.add
        split <;> rfl
      · obtain ⟨g, o, rfl⟩ := h.plain a rfl hL
        have hadd : (⟨g, o, none⟩ : Addr).add (l * 1) = ⟨g, o + l, none⟩ := by unfold Addr.add; split <;> simp_all
        refine ⟨some ⟨g, o + l, none⟩, c - l, ?_, ⟨fun w ha => arg_take (arg_drop ha l) k, by omega, (fun e => by cases e), fun a2 e => ⟨_, rfl, by rw [← Option.some.inj e]⟩⟩⟩
        simp [sliced, hc]
        simpa using hadd
theorem part_lh {p : Option Addr} {n c : Nat} {L : B} (h : SlOk p n c L) (l k : Nat) (hk : l + k ≤ n) : ∃ q d, (∀ W, (Instr.sliceAt 24 (.slice p n c) (some (.int .i64 (l : Int))) (some (.int .i64 ((l : Int) + (k : Int)))) none).run Tryd.prog W = .ok (.slice q k d) W) ∧ Part p L q k d l := by
  obtain ⟨q, d, h1, h2⟩ := part_any h l k hk
  have := h.cap
  refine ⟨q, d, fun W => ?_, h2⟩
  rw [run_sliceAt_slice _ _ _ _ _ _ slB, run_slice_lh _ _ _ _ _ slB _ _ _ _ (by omega) (by omega) (by omega), szB]
  rw [show ((l : Int) + (k : Int)).toNat = l + k by omega, Int.toNat_natCast]
  simp only [Result.andThen]
  rw [h1]
theorem part_l {p : Option Addr} {n c : Nat} {L : B} (h : SlOk p n c L) (l : Nat) (hk : l ≤ n) : ∃ q d, (∀ W, (Instr.sliceAt 24 (.slice p n c) (some (.int .i64 (l : Int))) none none).run Tryd.prog W = .ok (.slice q (n - l) d) W) ∧ Part p L q (n - l) d l := by
  obtain ⟨q, d, h1, h2⟩ := part_any h l (n - l) (by omega)
  refine ⟨q, d, fun W => ?_, h2⟩
  rw [run_sliceAt_slice _ _ _ _ _ _ slB, run_slice_l _ _ _ _ _ slB _ _ (by omega) (by omega), szB]
  rw [Int.toNat_natCast]
  simp only [Result.andThen]
  rw [show l + (n - l) = n by omega] at h1
  rw [h1]
theorem part_h {p : Option Addr} {n c : Nat} {L : B} (h : SlOk p n c L) (k : Nat) (hk : k ≤ n) : ∃ q d, (∀ W, (Instr.sliceAt 24 (.slice p n c) none (some (.int .i64 (k : Int))) none).run Tryd.prog W = .ok (.slice q k d) W) ∧ Part p L q k d 0 := by
  obtain ⟨q, d, h1, h2⟩ := part_any h 0 k (by omega)
  have := h.cap
  refine ⟨q, d, fun W => ?_, h2⟩
  rw [run_sliceAt_slice _ _ _ _ _ _ slB, run_slice_h _ _ _ _ _ slB _ _ (by omega) (by omega), szB]
  rw [Int.toNat_natCast]
  simp only [Result.andThen]
  rw [Nat.zero_add] at h1
  rw [h1]
theorem wpList_sl {w : World} {ops : Array Oper} {rest : List Oper} {o : Oper} {a : Act} {Q : Exit → Act → World → Prop} (hgd : o.guard = none) (x : Operand) (lo hi : Option Operand) (ho : o.op = .slice 24 x lo hi none) (xv v : Value) (lv hv : Option Value) (hx : a.eval x = xv) (hl : lo.map a.eval = lv) (hh : hi.map a.eval = hv)
    (hr : ∀ W, (Instr.sliceAt 24 xv lv hv none).run Tryd.prog W = .ok v W) (h : wpList Tryd.prog ops Q rest (a.put o.dst v) w) : wpList Tryd.prog ops Q (o :: rest) a w := by
  refine wpList_plain hgd fun K hK => ?_
  unfold Oper.wp execOp
  simp only [ho, Option.map_none, hx, hl, hh, Sem.run_bind, hr, Result.andThen_ok]
  exact hK _ _ h
end Go.Proofs.YtllbdpiihiohoaaDoor
