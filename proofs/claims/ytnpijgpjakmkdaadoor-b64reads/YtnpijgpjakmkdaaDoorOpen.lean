/- Slices of bytes that came in, and what is laid. -/
import Derived.Test.YtnpijgpjakmkdaaDoorRows
import Derived.Test.YtnpijgpjakmkdaaDoorReadsWalk
import Derived.ProofKit
import Derived.OpenShut
import Derived.LaidMore
import Derived.LaidHandle
namespace Go.Proofs.YtnpijgpjakmkdaaDoor
open Go.ChangeShapes Go.WideShapes Go.ChangeAt Go.RowKit

theorem own : ownKnob Tryd.prog.godebug = none := by kernel_rfl
theorem laidOut : laidOutB Tryd.prog = true := by kernel_rfl
theorem cells5 : Tryd.prog.cellsOf 5 = 1 := by kernel_rfl
theorem bytes5 : Tryd.prog.bytesOf 5 = 1 := by kernel_rfl
set_option maxRecDepth 100000 in
theorem slice_place {W : World} {base t e len cap : Nat} {a : Addr} (ht : Tryd.prog.underlying t = some (.slice e)) (hv : Value.okWide Tryd.prog W .any base t (.slice (some a) len cap)) : a.spot = none ∧ a.block < W.heap.size := by
  simp only [Value.okWide, ht, Cell.okWide, Cell.ok] at hv
  obtain ⟨_, _, _, h1, row, cells, h2, _⟩ := hv
  refine ⟨h1, ?_⟩
  unfold World.shape? at h2
  rcases Nat.lt_or_ge a.block W.heap.size with h | h
  · exact h
  · rw [Array.getElem?_eq_none h] at h2; simp at h2
set_option maxRecDepth 100000 in
theorem open_bytesW {H : Type} {enc : TypeId × Value → H} {W : World} {base : Nat} {v : Value} {d : DataW H} {p : List MemPlace} (hv : Value.okWide Tryd.prog W .any base 22 v) (h : DataW.Trod enc Tryd.prog W 0 (fun _ => true) true 22 v d p) (hw : ∀ x ∈ d.weights Tryd.prog 22, x ≤ reachBytes) :
    ∃ (bs : List Int) (pv : Option Addr) (N c : Nat), v = .slice pv N c ∧ bs.length = N ∧ ArgAt W (.slice pv N c) bs ∧ Oct bs ∧ N ≤ 140737488355328 := by
  obtain ⟨pa, len0, cap0, rfl⟩ := okWide_slice Tryd.underlying22 hv
  obtain ⟨fuel, hf⟩ := h
  rcases open_ints Tryd.underlying22 Tryd.underlying5 cells5 hf with ⟨hcs, _⟩ | ⟨a, len, cap, zs, hcs, h1, h2, h3, h4, h5, h6, h7⟩
  · simp only [Value.cells] at hcs
    obtain ⟨rfl, rfl, rfl⟩ : pa = none ∧ len0 = 0 ∧ cap0 = 0 := by simpa using hcs
    exact ⟨[], none, 0, 0, rfl, rfl, .inl ⟨rfl, rfl⟩, fun x hx => by simp at hx, by omega⟩
  · simp only [Value.cells] at hcs
    obtain ⟨rfl, rfl, rfl⟩ : pa = some a ∧ len0 = len ∧ cap0 = cap := by simpa using hcs
    obtain ⟨hs, hb⟩ := slice_place Tryd.underlying22 hv
    obtain ⟨b, o, sp⟩ := a
    simp only at hs hb
    subst hs
    simp only [if_true] at h4
    have hd : d = .slice (lits .u8 (zs.take len0)) (lits .u8 (zs.drop len0)) := congrArg Prod.fst h5
    subst hd
    have hlen : cap0 ≤ reachBytes := by
      have := hw ((len0 + (cap0 - len0)) * 1) (by
        simp only [DataW.weights, Tryd.underlying22, bytes5]
        simp [Go.ChangeShapes.lits, h4]
        left
        omega)
      omega
    unfold reachBytes at hlen
    have hl : (zs.take len0).length = len0 := by simp; omega
    refine ⟨zs.take len0, some ⟨b, o, none⟩, len0, cap0, rfl, hl, .inr ⟨b, o, cap0, hb, by rw [hl], by omega, h3, ?_⟩, ?_, by omega⟩
    · intro j x hj
      rw [List.getElem?_take] at hj
      split at hj
      · have := h6 j (by omega)
        rw [Go.WideShapes.add_plain] at this
        rw [this]
        simp [List.getD, hj]
      · simp at hj
    · intro x hx
      have := bounds_u8 (h7 x (List.mem_of_mem_take hx))
      omega
theorem gErr : Tryd.prog.globalNamed "errors.errorType" = some 0 := by kernel_rfl
theorem rtyp : (Tryd.prog.cutTypes.find? (·.1 == "internal/reflectlite.rtype")).map (·.2) = some 60 := by kernel_rfl
theorem oneRow : ((List.range 102).filter fun t => Tryd.prog.rowNamed t [101, 114, 114, 111, 114]) = [26] := by kernel_rfl
theorem size : Tryd.prog.types.size = 102 := by kernel_rfl
set_option maxRecDepth 100000 in
theorem errAt_of {W : World} (h : handlesMet Tryd.prog [("errors.errorType", Rows.laid_errors_errorType)] W) : ErrAt W := by
  obtain ⟨name, u, ty, e1, e2, e3, e4, e5⟩ := h _ (List.mem_singleton.2 rfl)
  have en : name = [101, 114, 114, 111, 114] := (Option.some.inj e1).symm
  subst en
  obtain rfl := Option.some.inj (rtyp.symm.trans e2)
  have hm : ty ∈ (List.range 102).filter fun t => Tryd.prog.rowNamed t [101, 114, 114, 111, 114] := List.mem_filter.2 ⟨List.mem_range.2 (by rw [← size]; exact e3), e4⟩
  rw [oneRow] at hm
  obtain rfl := List.mem_singleton.1 hm
  have hh : typeHandle Tryd.prog 26 = .pointer (some ⟨1, 26, none⟩) := by kernel_rfl
  rw [hh] at e5
  have := World.var?_cell gErr e5 0
  unfold ErrAt
  simpa using this
end Go.Proofs.YtnpijgpjakmkdaaDoor
