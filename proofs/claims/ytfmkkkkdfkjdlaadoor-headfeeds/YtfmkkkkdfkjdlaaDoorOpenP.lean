/- Pieces that were handed in, with the bounds that the first form gives. -/
import Derived.Test.YtfmkkkkdfkjdlaaDoorOpenB
import Derived.Test.YtfmkkkkdfkjdlaaDoorLFeed0
import Derived.Deep.Strs
namespace Go.Proofs.YtfmkkkkdfkjdlaaDoor
open Go.RowKit Go.ChangeShapes Go.WideShapes Go.Deep

theorem weights_memP {H : Type} {e : TypeId} {d : DataW H} : ∀ {l : List (DataW H)}, d ∈ l → ∀ x ∈ d.weights Tryd.prog e, x ∈ DataW.weightsAll Tryd.prog e l
  | [], hd, _, _ => by simp at hd
  | c :: r, hd, x, hx => by
    simp only [DataW.weightsAll, List.mem_append]
    rcases List.mem_cons.1 hd with rfl | hd
    · exact .inl hx
    · exact .inr (weights_memP hd x hx)
theorem bytesU8 : Tryd.prog.bytesOf 5 = 1 := by kernel_rfl
theorem bytesSl : Tryd.prog.bytesOf 22 = 24 := by kernel_rfl
theorem cellsSl : Tryd.prog.cellsOf 22 = 1 := by kernel_rfl
theorem open_piece {H : Type} {enc : TypeId × Value → H} {W : World} {fuel : Nat} {v : Value} {y : DataW H × List MemPlace} (h : DataW.trod enc Tryd.prog W 0 (fun _ => true) true fuel 22 [v] = some y) (hw : ∀ x ∈ y.1.weights Tryd.prog 22, x ≤ reachBytes) :
    ∃ (l : B) (q : Option Addr) (cc : Nat), v = .slice q l.length cc ∧ ArgAt W q l ∧ l.length ≤ 140737488355328 := by
  obtain ⟨l, q, cc, rfl, _, ha⟩ := open_bytes fuel _ _ h
  refine ⟨l, q, cc, rfl, ha, ?_⟩
  rcases DataW.trod_slice Tryd.underlying22 h with ⟨e, rfl⟩ | ⟨a, len2, cap2, elems, rest, n2, rfl, e, rfl, _, hcp, _, hlen, hel, _, _⟩
  · simp only [List.cons.injEq, and_true, Value.slice.injEq] at e
    omega
  · simp only [List.cons.injEq, and_true, Value.slice.injEq] at e
    have hl := hw ((elems.length + rest.length) * Tryd.prog.bytesOf 5) (by
      simp only [DataW.weights, Tryd.underlying22, List.mem_cons, List.length_map]
      exact .inl trivial)
    rw [bytesU8] at hl
    have : (elems.length + rest.length) * 1 ≤ 140737488355328 := Nat.le_trans hl (by decide)
    omega
set_option maxRecDepth 100000 in
theorem open_pieces {H : Type} {enc : TypeId × Value → H} {W : World} {fuel : Nat} {v : Value} {y : DataW H × List MemPlace} (h : DataW.trod enc Tryd.prog W 0 (fun _ => true) true fuel 48 [v] = some y) (hw : ∀ x ∈ y.1.weights Tryd.prog 48, x ≤ reachBytes) :
    ∃ (ls : List B) (p : Option Addr) (n c : Nat), v = .slice p n c ∧ ls.length = n ∧ PcsAt W p ls ∧ n ≤ 140737488355328 := by
  rcases DataW.trod_slice Tryd.underlying48 h with ⟨e, rfl⟩ | ⟨a, len, cap, elems, rest, n2, rfl, e, rfl, h1, h2, h3, h4, h5, h6, h7⟩
  · simp only [List.cons.injEq, and_true] at e
    exact ⟨[], none, 0, 0, e, rfl, fun j l hj => by simp at hj, by omega⟩
  · simp only [List.cons.injEq, and_true] at e
    subst e
    have hone : ∀ k (hk : k < len), ∃ (l : B) (q : Option Addr) (cc : Nat), W.cell? (a.add k) = some (.slice q l.length cc) ∧ ArgAt W q l ∧ l.length ≤ 140737488355328 := by
      intro k hk
      have h8 := h5 k hk
      rw [cellsSl, Nat.mul_one] at h8
      obtain ⟨y, hy⟩ : ∃ y, elems[k]? = some y := ⟨_, List.getElem?_eq_getElem (by omega)⟩
      rw [hy, Option.bind_eq_some_iff] at h8
      obtain ⟨cs, hc, ht⟩ := h8
      obtain ⟨_, hcl, hcell⟩ := World.cells?_some hc
      rcases cs with _ | ⟨x, _ | ⟨x1, r⟩⟩ <;> simp at hcl
      have hx := hcell 0 (by omega)
      have hadd0 : (a.add k).add 0 = a.add k := by unfold Addr.add; split <;> split <;> simp_all
      rw [hadd0] at hx
      have hwt : ∀ z ∈ y.1.weights Tryd.prog 22, z ≤ reachBytes := by
        intro z hz
        refine hw z ?_
        simp only [DataW.weights, Tryd.underlying48, List.mem_cons, List.mem_append]
        right; left
        exact weights_memP (List.mem_map.2 ⟨_, List.mem_of_getElem? hy, rfl⟩) z hz
      obtain ⟨l, q, cc, rfl, ha, hl⟩ := open_piece ht hwt
      exact ⟨l, q, cc, by simpa using hx, ha, hl⟩
    have hln : len ≤ 140737488355328 := by
      have hl := hw ((elems.length + rest.length) * Tryd.prog.bytesOf 22) (by
        simp only [DataW.weights, Tryd.underlying48, List.mem_cons, List.length_map]
        exact .inl trivial)
      rw [bytesSl] at hl
      have : (elems.length + rest.length) * 24 ≤ 140737488355328 := Nat.le_trans hl (by decide)
      omega
    obtain ⟨f, hf⟩ : ∃ f : Nat → B, ∀ k, k < len → ∃ (q : Option Addr) (cc : Nat), W.cell? (a.add k) = some (.slice q (f k).length cc) ∧ ArgAt W q (f k) ∧ (f k).length ≤ 140737488355328 := by
      refine Classical.axiomOfChoice (r := fun k l => k < len → ∃ (q : Option Addr) (cc : Nat), W.cell? (a.add k) = some (.slice q (List.length l) cc) ∧ ArgAt W q l ∧ List.length l ≤ 140737488355328) (fun k => ?_)
      by_cases hk : k < len
      · obtain ⟨l, q, cc, k1, k2, k3⟩ := hone k hk
        exact ⟨l, fun _ => ⟨q, cc, k1, k2, k3⟩⟩
      · exact ⟨[], fun h => absurd h hk⟩
    refine ⟨(List.range len).map f, some a, len, cap, rfl, by simp, fun j l hj => ?_, hln⟩
    have hjl : j < len := by have := (List.getElem?_eq_some_iff.1 hj).1; simpa using this
    have hl' : f j = l := by
      have := (List.getElem?_eq_some_iff.1 hj).2
      simpa using this
    obtain ⟨q, cc, k1, k2, k3⟩ := hf j hjl
    rw [hl'] at k1 k2 k3
    have hsp : a.spot = none := by
      obtain ⟨_, _, k0, _⟩ := hf 0 (by omega)
      exact World.cell?_spot k0
    obtain ⟨g, off, spot⟩ := a
    simp only at hsp
    subst hsp
    rw [add_plain] at k1
    exact ⟨g, off, q, cc, rfl, k1, k2, k3⟩
end Go.Proofs.YtfmkkkkdfkjdlaaDoor
