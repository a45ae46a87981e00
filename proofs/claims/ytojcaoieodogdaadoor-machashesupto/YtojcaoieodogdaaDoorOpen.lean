/- Slices of bytes and of whole numbers that came in. -/
import Derived.Test.YtojcaoieodogdaaDoorRows
import Derived.Test.YtojcaoieodogdaaDoorArgs
import Derived.Test.YtojcaoieodogdaaDoorMix
import Derived.Lib.LaidTab
import Derived.ProofKit
import Derived.OpenShut
namespace Go.Proofs.YtojcaoieodogdaaDoor
open Go.ChangeShapes Go.WideShapes Go.ChangeAt Go.RowKit

theorem own : ownKnob Tryd.prog.godebug = none := by kernel_rfl
theorem laidOut : laidOutB Tryd.prog = true := by kernel_rfl
theorem cells5 : Tryd.prog.cellsOf 5 = 1 := by kernel_rfl
theorem cells3i : Tryd.prog.cellsOf 3 = 1 := by kernel_rfl
theorem gK : Tryd.prog.globalNamed "turnstile/sha.constants" = some 0 := by kernel_rfl
theorem tK : (Tryd.prog.globals[0]?).map (·.type) = some 76 := by kernel_rfl
set_option maxRecDepth 100000 in
theorem kAt_of {W : World} (h : laidMet Tryd.prog [("turnstile/sha.constants", Rows.laid_turnstile_sha_constants)] W) : KAt W := by
  have ht := Lib.tabIs_of_head (zs := kTab) (k := .u32) gK tK Tryd.underlying76 Tryd.underlying56 (by kernel_rfl) (by kernel_rfl) h
  intro i hi
  have := ht.cell gK i (by exact hi)
  simpa [List.getD] using this

set_option maxRecDepth 100000 in
theorem slice_place {W : World} {base t e len cap : Nat} {a : Addr} (ht : Tryd.prog.underlying t = some (.slice e)) (hv : Value.okWide Tryd.prog W .any base t (.slice (some a) len cap)) : a.spot = none ∧ a.block < W.heap.size := by
  simp only [Value.okWide, ht, Cell.okWide, Cell.ok] at hv
  obtain ⟨_, _, _, h1, row, cells, h2, _⟩ := hv
  refine ⟨h1, ?_⟩
  unfold World.shape? at h2
  rcases Nat.lt_or_ge a.block W.heap.size with h | h
  · exact h
  · rw [Array.getElem?_eq_none h] at h2; simp at h2
set_option maxRecDepth 100000 in
theorem open_bytes {H : Type} {enc : TypeId × Value → H} {W : World} {base : Nat} {v : Value} {d : DataW H} {p : List MemPlace} (hv : Value.okWide Tryd.prog W .any base 22 v) (h : DataW.Trod enc Tryd.prog W 0 (fun _ => true) true 22 v d p) :
    ∃ (bs : List Int) (pv : Option Addr) (N c : Nat), v = .slice pv N c ∧ bs.length = N ∧ ArgAt W (.slice pv N c) bs := by
  obtain ⟨pa, len0, cap0, rfl⟩ := okWide_slice Tryd.underlying22 hv
  obtain ⟨fuel, hf⟩ := h
  rcases open_ints Tryd.underlying22 Tryd.underlying5 cells5 hf with ⟨hcs, _⟩ | ⟨a, len, cap, zs, hcs, h1, h2, h3, h4, h5, h6, h7⟩
  · simp only [Value.cells] at hcs
    obtain ⟨rfl, rfl, rfl⟩ : pa = none ∧ len0 = 0 ∧ cap0 = 0 := by simpa using hcs
    exact ⟨[], none, 0, 0, rfl, rfl, .inl ⟨rfl, rfl⟩⟩
  · simp only [Value.cells] at hcs
    obtain ⟨rfl, rfl, rfl⟩ : pa = some a ∧ len0 = len ∧ cap0 = cap := by simpa using hcs
    obtain ⟨hs, hb⟩ := slice_place Tryd.underlying22 hv
    obtain ⟨b, o, sp⟩ := a
    simp only at hs hb
    subst hs
    simp only [if_true] at h4
    have hl : (zs.take len0).length = len0 := by simp; omega
    refine ⟨zs.take len0, some ⟨b, o, none⟩, len0, cap0, rfl, hl, .inr ⟨b, o, cap0, hb, by rw [hl], by omega, h3, ?_⟩⟩
    intro j x hj
    rw [List.getElem?_take] at hj
    split at hj
    · have := h6 j (by omega)
      rw [Go.WideShapes.add_plain] at this
      rw [this]
      simp [List.getD, hj]
    · simp at hj
end Go.Proofs.YtojcaoieodogdaaDoor
