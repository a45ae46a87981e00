/- Slices of bytes and of whole numbers that came in, with their sizes and the bounds of their bytes. -/
import Derived.Test.YtojcaoieodogdaaDoorOpen
import Derived.Test.YtojcaoieodogdaaDoorSlices
namespace Go.Proofs.YtojcaoieodogdaaDoor
open Go.ChangeShapes Go.WideShapes Go.ChangeAt Go.RowKit

theorem bytes5 : Tryd.prog.bytesOf 5 = 1 := by kernel_rfl
set_option maxRecDepth 100000 in
theorem open_bytesW {H : Type} {enc : TypeId × Value → H} {W : World} {base : Nat} {v : Value} {d : DataW H} {p : List MemPlace} (hv : Value.okWide Tryd.prog W .any base 22 v) (h : DataW.Trod enc Tryd.prog W 0 (fun _ => true) true 22 v d p) (hw : ∀ x ∈ d.weights Tryd.prog 22, x ≤ reachBytes) :
    ∃ (bs : List Int) (pv : Option Addr) (N c : Nat), v = .slice pv N c ∧ bs.length = N ∧ ArgAt W (.slice pv N c) bs ∧ (∀ x ∈ bs, 0 ≤ x ∧ x < 256) ∧ N + 4096 ≤ 140737488355328 := by
  obtain ⟨pa, len0, cap0, rfl⟩ := okWide_slice Tryd.underlying22 hv
  obtain ⟨fuel, hf⟩ := h
  rcases open_ints Tryd.underlying22 Tryd.underlying5 cells5 hf with ⟨hcs, _⟩ | ⟨a, len, cap, zs, hcs, h1, h2, h3, h4, h5, h6, h7⟩
  · simp only [Value.cells] at hcs
    obtain ⟨rfl, rfl, rfl⟩ : pa = none ∧ len0 = 0 ∧ cap0 = 0 := by simpa using hcs
    exact ⟨[], none, 0, 0, rfl, rfl, .inl ⟨rfl, rfl⟩, fun x hx => by simp at hx, by omega⟩
  · simp only [Value.cells] at hcs
    obtain ⟨rfl, rfl, rfl⟩ : pa = some a ∧ len0 = len ∧ cap0 = cap := by simpa using hcs
    obtain ⟨hs, hb⟩ := slice_place Tryd.underlying22 hv
    obtain ⟨b, o, sp⟩ := a
    simp only at hs hb
    subst hs
    simp only [if_true] at h4
    have hd : d = .slice (lits .u8 (zs.take len0)) (lits .u8 (zs.drop len0)) := congrArg Prod.fst h5
    subst hd
    have hlen : cap0 ≤ reachBytes := by
      have := hw ((len0 + (cap0 - len0)) * 1) (by
        simp only [DataW.weights, Tryd.underlying22, bytes5]
        simp [Go.ChangeShapes.lits, h4]
        left
        omega)
      omega
    unfold reachBytes at hlen
    have hl : (zs.take len0).length = len0 := by simp; omega
    refine ⟨zs.take len0, some ⟨b, o, none⟩, len0, cap0, rfl, hl, .inr ⟨b, o, cap0, hb, by rw [hl], by omega, h3, ?_⟩, ?_, by omega⟩
    · intro j x hj
      rw [List.getElem?_take] at hj
      split at hj
      · have := h6 j (by omega)
        rw [Go.WideShapes.add_plain] at this
        rw [this]
        simp [List.getD, hj]
      · simp at hj
    · intro x hx
      have := bounds_u8 (h7 x (List.mem_of_mem_take hx))
      omega
theorem open_cuts {H : Type} {enc : TypeId × Value → H} {W : World} {base : Nat} {v : Value} {d : DataW H} {p : List MemPlace} (hv : Value.okWide Tryd.prog W .any base 23 v) (h : DataW.Trod enc Tryd.prog W 0 (fun _ => true) true 23 v d p) :
    ∃ (pc : Option Addr) (M c : Nat), v = .slice pc M c ∧ (M : Int) ≤ 9223372036854775807 ∧ CutsAt W pc M := by
  obtain ⟨pa, len0, cap0, rfl⟩ := okWide_slice Tryd.underlying23 hv
  obtain ⟨fuel, hf⟩ := h
  rcases open_ints Tryd.underlying23 Tryd.underlying3 cells3i hf with ⟨hcs, _⟩ | ⟨a, len, cap, zs, hcs, h1, h2, h3, h4, h5, h6, h7⟩
  · simp only [Value.cells] at hcs
    obtain ⟨rfl, rfl, rfl⟩ : pa = none ∧ len0 = 0 ∧ cap0 = 0 := by simpa using hcs
    exact ⟨none, 0, 0, rfl, by omega, fun k hk => by omega⟩
  · simp only [Value.cells] at hcs
    obtain ⟨rfl, rfl, rfl⟩ : pa = some a ∧ len0 = len ∧ cap0 = cap := by simpa using hcs
    obtain ⟨hs, hb⟩ := slice_place Tryd.underlying23 hv
    obtain ⟨b, o, sp⟩ := a
    simp only at hs hb
    subst hs
    simp only [if_true] at h4
    unfold maxLen at h3
    refine ⟨some ⟨b, o, none⟩, len0, cap0, rfl, by omega, ?_⟩
    intro k hk
    have := h6 k (by omega)
    rw [Go.WideShapes.add_plain] at this
    exact ⟨b, o, _, rfl, hb, this⟩
end Go.Proofs.YtojcaoieodogdaaDoor
