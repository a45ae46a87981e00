/- What was handed in, with the bounds that the first form gives: rows of fields, a change. -/
import Derived.Test.YthakldcfpndabaaDoorOpenQ
namespace Go.Proofs.YthakldcfpndabaaDoor
open Go.RowKit Go.ChangeShapes

theorem weights_memX {H : Type} {e : TypeId} {d : DataW H} : ∀ {l : List (DataW H)}, d ∈ l → ∀ x ∈ d.weights Tryd.prog e, x ∈ DataW.weightsAll Tryd.prog e l
  | [], hd, _, _ => by simp at hd
  | c :: r, hd, x, hx => by
    simp only [DataW.weightsAll, List.mem_append]
    rcases List.mem_cons.1 hd with rfl | hd
    · exact .inl hx
    · exact .inr (weights_memX hd x hx)
theorem bytesX : Tryd.prog.bytesOf 25 = 32 := by kernel_rfl
theorem reach_leX {n : Nat} (h : n ≤ reachBytes) : n ≤ 140737488351232 := Nat.le_trans h (by decide)
def szX (f : B × B) : Prop := f.1.length ≤ 140737488351232 ∧ f.2.length ≤ 140737488351232
theorem open_fieldX {H : Type} {enc : TypeId × Value → H} {W : World} {sp : Nat → Bool} {held : Bool} (fuel : Nat) (cs : List Value) (x : DataW H × List MemPlace) (h : DataW.trod enc Tryd.prog W 0 sp held fuel 25 cs = some x) (hw : ∀ z ∈ x.1.weights Tryd.prog 25, z ≤ reachBytes) : ∃ f : B × B, cs = [.string (str f.1), .string (str f.2)] ∧ szX f := by
  obtain ⟨xs, n, rfl, rfl, hl, hx, hf⟩ := DataW.trod_struct Tryd.underlying25 h
  have c2 : Tryd.prog.cellsOf 25 = 2 := by kernel_rfl
  have c9 : Tryd.prog.cellsOf 9 = 1 := by kernel_rfl
  rw [c2] at hl
  have hx2 : xs.length = 2 := by rw [hx]; rfl
  rcases cs with _ | ⟨d0, _ | ⟨d1, _ | ⟨d2, r⟩⟩⟩ <;> simp at hl
  rcases xs with _ | ⟨y0, _ | ⟨y1, _ | ⟨y2, r⟩⟩⟩ <;> simp at hx2
  have f0 : DataW.trod enc Tryd.prog W 0 sp held n 9 (([d0, d1].drop 0).take (Tryd.prog.cellsOf 9)) = some y0 := hf 0 _ rfl
  rw [c9] at f0
  replace f0 : DataW.trod enc Tryd.prog W 0 sp held n 9 [d0] = some y0 := f0
  have f1 : DataW.trod enc Tryd.prog W 0 sp held n 9 (([d0, d1].drop 1).take (Tryd.prog.cellsOf 9)) = some y1 := hf 1 _ rfl
  rw [c9] at f1
  replace f1 : DataW.trod enc Tryd.prog W 0 sp held n 9 [d1] = some y1 := f1
  obtain ⟨s0, e0, rfl, _⟩ := DataW.trod_string Tryd.underlying9 f0
  obtain ⟨s1, e1, rfl, _⟩ := DataW.trod_string Tryd.underlying9 f1
  simp only [List.cons.injEq, and_true] at e0 e1
  subst e0 e1
  simp only [DataW.weights, Tryd.underlying25, List.map_cons, List.map_nil, DataW.weightsEach] at hw
  exact ⟨⟨s0.data.toList, s1.data.toList⟩, by simp only [str_self], reach_leX (hw _ (by simp)), reach_leX (hw _ (by simp))⟩
theorem open_eachX {H : Type} {W : World} {a : Addr} (hs : a.spot = none) : ∀ (es : List (DataW H × List MemPlace)) (o : Nat), (∀ i y, es[i]? = some y → ∃ f : B × B, W.cells? 0 (a.add ((o + i) * 2)) 2 = some [.string (str f.1), .string (str f.2)] ∧ szX f) →
    ∃ fs : List (B × B), fs.length = es.length ∧ (∀ j f, fs[j]? = some f → W.cell? ⟨a.block, a.off + (o + j) * 2, none⟩ = some (.string (str f.1)) ∧ W.cell? ⟨a.block, a.off + (o + j) * 2 + 1, none⟩ = some (.string (str f.2))) ∧ ∀ f ∈ fs, szX f
  | [], o, _ => ⟨[], rfl, fun j f h => by simp at h, fun f h => by simp at h⟩
  | y :: ys, o, h => by
    obtain ⟨f, hc, hw⟩ := h 0 y rfl
    obtain ⟨fs, h1, h2, h3⟩ := open_eachX hs ys (o + 1) (fun i z hz => by
      have := h (i + 1) z (by simpa using hz)
      rw [show o + (i + 1) = o + 1 + i by omega] at this
      exact this)
    obtain ⟨_, hcl, hcell⟩ := World.cells?_some hc
    have hadd : ∀ j, (a.add ((o + 0) * 2)).add j = ⟨a.block, a.off + (o + 0) * 2 + j, none⟩ := fun j => by
      obtain ⟨g, off, spot⟩ := a
      simp only at hs
      subst hs
      unfold Addr.add
      split <;> split <;> simp_all
    have q0 := hcell 0 (by omega)
    have q1 := hcell 1 (by omega)
    rw [hadd] at q0 q1
    refine ⟨f :: fs, by simp [h1], fun j g hj => ?_, ?_⟩
    · cases j with
      | zero =>
        simp at hj
        subst hj
        exact ⟨by simpa using q0, by simpa using q1⟩
      | succ j =>
        have := h2 j g (by simpa using hj)
        rw [show o + (j + 1) = o + 1 + j by omega]
        exact this
    · intro g hg
      rcases List.mem_cons.1 hg with rfl | hg
      · exact hw
      · exact h3 g hg
theorem open_fieldsX {H : Type} {enc : TypeId × Value → H} {W : World} {sp : Nat → Bool} {held : Bool} (fuel : Nat) (d : Value) (x : DataW H × List MemPlace) (h : DataW.trod enc Tryd.prog W 0 sp held fuel 22 [d] = some x) (hw0 : ∀ z ∈ x.1.weights Tryd.prog 22, z ≤ reachBytes) : ∃ (fs : List (B × B)) (p : Option Addr) (c : Nat), d = .slice p fs.length c ∧ fs.length ≤ c ∧ FAt W p fs ∧ (∀ f ∈ fs, szX f) ∧ fs.length + 3 ≤ 4398046511104 ∧ (p = none → c = 0) := by
  have c2 : Tryd.prog.cellsOf 25 = 2 := by kernel_rfl
  rcases DataW.trod_slice Tryd.underlying22 h with ⟨e, rfl⟩ | ⟨a, len, cap, elems, rest, n2, rfl, e, rfl, _, hcp, _, hlen, hel, _, _⟩
  · simp only [List.cons.injEq, and_true] at e
    exact ⟨[], none, 0, e, Nat.le_refl _, fun j f h => by simp at h, fun f h => by simp at h, by decide, fun _ => rfl⟩
  · simp only [List.cons.injEq, and_true] at e
    rw [c2] at hel
    have each : ∀ j y, elems[j]? = some y → ∃ f : B × B, W.cells? 0 (a.add ((0 + j) * 2)) 2 = some [.string (str f.1), .string (str f.2)] ∧ szX f := by
      intro j y hy
      have hj : j < len := by
        have := (List.getElem?_eq_some_iff.1 hy).1
        omega
      have h2 := hel j hj
      rw [hy] at h2
      cases hc : W.cells? 0 (a.add (j * 2)) 2 with
      | none => rw [hc] at h2; cases h2
      | some cs =>
        rw [hc] at h2
        simp only [Option.bind_some] at h2
        obtain ⟨f, rfl, hw⟩ := open_fieldX n2 cs y h2 (fun z hz => hw0 z (by
          simp only [DataW.weights, Tryd.underlying22, List.mem_cons, List.mem_append]
          right; left
          exact weights_memX (List.mem_map.2 ⟨_, List.mem_of_getElem? hy, rfl⟩) z hz))
        exact ⟨f, by rw [Nat.zero_add]; exact hc, hw⟩
    rcases Nat.eq_zero_or_pos len with h0 | hpos
    · subst h0
      exact ⟨[], some a, cap, e, Nat.zero_le _, fun j f h => by simp at h, fun f h => by simp at h, by decide, fun h => by cases h⟩
    · obtain ⟨y, hy⟩ : ∃ y, elems[0]? = some y := ⟨elems[0]'(by omega), List.getElem?_eq_getElem (by omega)⟩
      obtain ⟨f, hc, _⟩ := each 0 y hy
      obtain ⟨_, hcl, hcell⟩ := World.cells?_some hc
      have hc0 := hcell 0 (by omega)
      have hsp : a.spot = none := by simpa [Addr.add] using World.cell?_spot hc0
      obtain ⟨fs, h1, h2, h3⟩ := open_eachX hsp elems 0 each
      refine ⟨fs, some a, cap, by rw [h1, hlen]; exact e, by omega, fun j f hj => ?_, ?_⟩
      · obtain ⟨q0, q1⟩ := h2 j f hj
        rw [Nat.zero_add] at q0 q1
        refine ⟨a.block, a.off, ?_, q0, q1⟩
        obtain ⟨g, off, spot⟩ := a
        simp only at hsp
        subst hsp
        rfl
      · refine ⟨h3, ?_, fun h => by cases h⟩
        have hl := hw0 ((elems.length + rest.length) * Tryd.prog.bytesOf 25) (by
          simp only [DataW.weights, Tryd.underlying22, List.mem_cons, List.length_map]
          exact .inl trivial)
        rw [bytesX] at hl
        have := reach_leX hl
        omega
theorem open_changeX {H : Type} {enc : TypeId × Value → H} {W : World} {sp : Nat → Bool} {held : Bool} (fuel : Nat) (cs : List Value) (x : DataW H × List MemPlace) (h : DataW.trod enc Tryd.prog W 0 sp held fuel 24 cs = some x) (hw : ∀ z ∈ x.1.weights Tryd.prog 24, z ≤ reachBytes) : ∃ f : B × B, cs = [.string (str f.1), .string (str f.2)] ∧ szX f := by
  obtain ⟨xs, n, rfl, rfl, hl, hx, hf⟩ := DataW.trod_struct Tryd.underlying24 h
  have c2 : Tryd.prog.cellsOf 24 = 2 := by kernel_rfl
  have c9 : Tryd.prog.cellsOf 9 = 1 := by kernel_rfl
  rw [c2] at hl
  have hx2 : xs.length = 2 := by rw [hx]; rfl
  rcases cs with _ | ⟨d0, _ | ⟨d1, _ | ⟨d2, r⟩⟩⟩ <;> simp at hl
  rcases xs with _ | ⟨y0, _ | ⟨y1, _ | ⟨y2, r⟩⟩⟩ <;> simp at hx2
  have f0 : DataW.trod enc Tryd.prog W 0 sp held n 9 (([d0, d1].drop 0).take (Tryd.prog.cellsOf 9)) = some y0 := hf 0 _ rfl
  rw [c9] at f0
  replace f0 : DataW.trod enc Tryd.prog W 0 sp held n 9 [d0] = some y0 := f0
  have f1 : DataW.trod enc Tryd.prog W 0 sp held n 9 (([d0, d1].drop 1).take (Tryd.prog.cellsOf 9)) = some y1 := hf 1 _ rfl
  rw [c9] at f1
  replace f1 : DataW.trod enc Tryd.prog W 0 sp held n 9 [d1] = some y1 := f1
  obtain ⟨s0, e0, rfl, _⟩ := DataW.trod_string Tryd.underlying9 f0
  obtain ⟨s1, e1, rfl, _⟩ := DataW.trod_string Tryd.underlying9 f1
  simp only [List.cons.injEq, and_true] at e0 e1
  subst e0 e1
  simp only [DataW.weights, Tryd.underlying24, List.map_cons, List.map_nil, DataW.weightsEach] at hw
  exact ⟨⟨s0.data.toList, s1.data.toList⟩, by simp only [str_self], reach_leX (hw _ (by simp)), reach_leX (hw _ (by simp))⟩
end Go.Proofs.YthakldcfpndabaaDoor
