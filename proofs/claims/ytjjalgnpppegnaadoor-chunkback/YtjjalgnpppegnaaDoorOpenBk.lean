/- What was handed in: rows of bytes in a row, fields, a text; with the bounds that the first form gives. -/
import Derived.Test.YtjjalgnpppegnaaDoorOpenK
import Derived.Test.YtjjalgnpppegnaaDoorLBack
import Derived.Deep.Strs
namespace Go.Proofs.YtjjalgnpppegnaaDoor
open Go.RowKit Go.ChangeShapes Go.WideShapes Go.Deep

theorem str_self (s : ByteArray) : str s.data.toList = s := by cases s; rfl
theorem weights_mem {H : Type} {e : TypeId} {d : DataW H} : ∀ {l : List (DataW H)}, d ∈ l → ∀ x ∈ d.weights Tryd.prog e, x ∈ DataW.weightsAll Tryd.prog e l
  | [], hd, _, _ => by simp at hd
  | c :: r, hd, x, hx => by
    simp only [DataW.weightsAll, List.mem_append]
    rcases List.mem_cons.1 hd with rfl | hd
    · exact .inl hx
    · exact .inr (weights_mem hd x hx)
theorem bytesF : Tryd.prog.bytesOf 51 = 32 := by kernel_rfl
theorem reach_le {n : Nat} (h : n ≤ reachBytes) : n ≤ 140737488355328 := Nat.le_trans h (by decide)
def szF (f : B × B) : Prop := f.1.length ≤ 140737488355328 ∧ f.2.length ≤ 140737488355328
theorem open_fieldW {H : Type} {enc : TypeId × Value → H} {W : World} {sp : Nat → Bool} {held : Bool} (fuel : Nat) (cs : List Value) (x : DataW H × List MemPlace) (h : DataW.trod enc Tryd.prog W 0 sp held fuel 51 cs = some x) (hw : ∀ z ∈ x.1.weights Tryd.prog 51, z ≤ reachBytes) : ∃ f : B × B, cs = [.string (str f.1), .string (str f.2)] ∧ szF f := by
  obtain ⟨xs, n, rfl, rfl, hl, hx, hf⟩ := DataW.trod_struct Tryd.underlying51 h
  have c2 : Tryd.prog.cellsOf 51 = 2 := by kernel_rfl
  have c9 : Tryd.prog.cellsOf 9 = 1 := by kernel_rfl
  rw [c2] at hl
  have hx2 : xs.length = 2 := by rw [hx]; rfl
  rcases cs with _ | ⟨d0, _ | ⟨d1, _ | ⟨d2, r⟩⟩⟩ <;> simp at hl
  rcases xs with _ | ⟨y0, _ | ⟨y1, _ | ⟨y2, r⟩⟩⟩ <;> simp at hx2
  have f0 : DataW.trod enc Tryd.prog W 0 sp held n 9 (([d0, d1].drop 0).take (Tryd.prog.cellsOf 9)) = some y0 := hf 0 _ rfl
  rw [c9] at f0
  replace f0 : DataW.trod enc Tryd.prog W 0 sp held n 9 [d0] = some y0 := f0
  have f1 : DataW.trod enc Tryd.prog W 0 sp held n 9 (([d0, d1].drop 1).take (Tryd.prog.cellsOf 9)) = some y1 := hf 1 _ rfl
  rw [c9] at f1
  replace f1 : DataW.trod enc Tryd.prog W 0 sp held n 9 [d1] = some y1 := f1
  obtain ⟨s0, e0, rfl, _⟩ := DataW.trod_string Tryd.underlying9 f0
  obtain ⟨s1, e1, rfl, _⟩ := DataW.trod_string Tryd.underlying9 f1
  simp only [List.cons.injEq, and_true] at e0 e1
  subst e0 e1
  simp only [DataW.weights, Tryd.underlying51, List.map_cons, List.map_nil, DataW.weightsEach] at hw
  exact ⟨⟨s0.data.toList, s1.data.toList⟩, by simp only [str_self], reach_le (hw _ (by simp)), reach_le (hw _ (by simp))⟩
theorem open_eachW {H : Type} {W : World} {a : Addr} (hs : a.spot = none) : ∀ (es : List (DataW H × List MemPlace)) (o : Nat), (∀ i y, es[i]? = some y → ∃ f : B × B, W.cells? 0 (a.add ((o + i) * 2)) 2 = some [.string (str f.1), .string (str f.2)] ∧ szF f) →
    ∃ fs : List (B × B), fs.length = es.length ∧ (∀ j f, fs[j]? = some f → W.cell? ⟨a.block, a.off + (o + j) * 2, none⟩ = some (.string (str f.1)) ∧ W.cell? ⟨a.block, a.off + (o + j) * 2 + 1, none⟩ = some (.string (str f.2))) ∧ ∀ f ∈ fs, szF f
  | [], o, _ => ⟨[], rfl, fun j f h => by simp at h, fun f h => by simp at h⟩
  | y :: ys, o, h => by
    obtain ⟨f, hc, hw⟩ := h 0 y rfl
    obtain ⟨fs, h1, h2, h3⟩ := open_eachW hs ys (o + 1) (fun i z hz => by
      have := h (i + 1) z (by simpa using hz)
      rw [show o + (i + 1) = o + 1 + i by omega] at this
      exact this)
    obtain ⟨_, hcl, hcell⟩ := World.cells?_some hc
    have hadd : ∀ j, (a.add ((o + 0) * 2)).add j = ⟨a.block, a.off + (o + 0) * 2 + j, none⟩ := fun j => by
      obtain ⟨g, off, spot⟩ := a
      simp only at hs
      subst hs
      unfold Addr.add
      split <;> split <;> simp_all
    have q0 := hcell 0 (by omega)
    have q1 := hcell 1 (by omega)
    rw [hadd] at q0 q1
    refine ⟨f :: fs, by simp [h1], fun j g hj => ?_, ?_⟩
    · cases j with
      | zero =>
        simp at hj
        subst hj
        exact ⟨by simpa using q0, by simpa using q1⟩
      | succ j =>
        have := h2 j g (by simpa using hj)
        rw [show o + (j + 1) = o + 1 + j by omega]
        exact this
    · intro g hg
      rcases List.mem_cons.1 hg with rfl | hg
      · exact hw
      · exact h3 g hg
theorem open_fieldsW {H : Type} {enc : TypeId × Value → H} {W : World} {sp : Nat → Bool} {held : Bool} (fuel : Nat) (d : Value) (x : DataW H × List MemPlace) (h : DataW.trod enc Tryd.prog W 0 sp held fuel 23 [d] = some x) (hw0 : ∀ z ∈ x.1.weights Tryd.prog 23, z ≤ reachBytes) : ∃ (fs : List (B × B)) (p : Option Addr) (c : Nat), d = .slice p fs.length c ∧ fs.length ≤ c ∧ FAt W p fs ∧ (∀ f ∈ fs, szF f) ∧ fs.length ≤ 140737488355328 := by
  have c2 : Tryd.prog.cellsOf 51 = 2 := by kernel_rfl
  rcases DataW.trod_slice Tryd.underlying23 h with ⟨e, rfl⟩ | ⟨a, len, cap, elems, rest, n2, rfl, e, rfl, _, hcp, _, hlen, hel, _, _⟩
  · simp only [List.cons.injEq, and_true] at e
    exact ⟨[], none, 0, e, Nat.le_refl _, fun j f h => by simp at h, fun f h => by simp at h, Nat.zero_le _⟩
  · simp only [List.cons.injEq, and_true] at e
    rw [c2] at hel
    have each : ∀ j y, elems[j]? = some y → ∃ f : B × B, W.cells? 0 (a.add ((0 + j) * 2)) 2 = some [.string (str f.1), .string (str f.2)] ∧ szF f := by
      intro j y hy
      have hj : j < len := by
        have := (List.getElem?_eq_some_iff.1 hy).1
        omega
      have h2 := hel j hj
      rw [hy] at h2
      cases hc : W.cells? 0 (a.add (j * 2)) 2 with
      | none => rw [hc] at h2; cases h2
      | some cs =>
        rw [hc] at h2
        simp only [Option.bind_some] at h2
        obtain ⟨f, rfl, hw⟩ := open_fieldW n2 cs y h2 (fun z hz => hw0 z (by
          simp only [DataW.weights, Tryd.underlying23, List.mem_cons, List.mem_append]
          right; left
          exact weights_mem (List.mem_map.2 ⟨_, List.mem_of_getElem? hy, rfl⟩) z hz))
        exact ⟨f, by rw [Nat.zero_add]; exact hc, hw⟩
    rcases Nat.eq_zero_or_pos len with h0 | hpos
    · subst h0
      exact ⟨[], some a, cap, e, Nat.zero_le _, fun j f h => by simp at h, fun f h => by simp at h, Nat.zero_le _⟩
    · obtain ⟨y, hy⟩ : ∃ y, elems[0]? = some y := ⟨elems[0]'(by omega), List.getElem?_eq_getElem (by omega)⟩
      obtain ⟨f, hc, _⟩ := each 0 y hy
      obtain ⟨_, hcl, hcell⟩ := World.cells?_some hc
      have hc0 := hcell 0 (by omega)
      have hsp : a.spot = none := by simpa [Addr.add] using World.cell?_spot hc0
      obtain ⟨fs, h1, h2, h3⟩ := open_eachW hsp elems 0 each
      refine ⟨fs, some a, cap, by rw [h1, hlen]; exact e, by omega, fun j f hj => ?_, ?_⟩
      · obtain ⟨q0, q1⟩ := h2 j f hj
        rw [Nat.zero_add] at q0 q1
        refine ⟨a.block, a.off, ?_, q0, q1⟩
        obtain ⟨g, off, spot⟩ := a
        simp only at hsp
        subst hsp
        rfl
      · refine ⟨h3, ?_⟩
        have hl := hw0 ((elems.length + rest.length) * Tryd.prog.bytesOf 51) (by
          simp only [DataW.weights, Tryd.underlying23, List.mem_cons, List.length_map]
          exact .inl trivial)
        rw [bytesF] at hl
        have := reach_le hl
        omega
theorem cellsSl : Tryd.prog.cellsOf 24 = 1 := by kernel_rfl
set_option maxRecDepth 100000 in
theorem open_partsK {H : Type} {enc : TypeId × Value → H} {W : World} {fuel : Nat} {v : Value} {y : DataW H × List MemPlace} (h : DataW.trod enc Tryd.prog W 0 (fun _ => true) true fuel 22 [v] = some y) :
    ∃ (ls : List B) (p : Option Addr) (n c : Nat), v = .slice p n c ∧ ls.length = n ∧ PartsAt W p ls := by
  rcases DataW.trod_slice Tryd.underlying22 h with ⟨e, rfl⟩ | ⟨a, len, cap, elems, rest, n2, rfl, e, rfl, h1, h2, h3, h4, h5, h6, h7⟩
  · simp only [List.cons.injEq, and_true] at e
    exact ⟨[], none, 0, 0, e, rfl, fun j l hj => by simp at hj⟩
  · simp only [List.cons.injEq, and_true] at e
    subst e
    have hone : ∀ k (hk : k < len), ∃ (l : B) (q : Option Addr) (cc : Nat), W.cell? (a.add k) = some (.slice q l.length cc) ∧ ArgAt W q l ∧ (q = none → cc = 0) := by
      intro k hk
      have h8 := h5 k hk
      rw [cellsSl, Nat.mul_one] at h8
      obtain ⟨y, hy⟩ : ∃ y, elems[k]? = some y := ⟨_, List.getElem?_eq_getElem (by omega)⟩
      rw [hy, Option.bind_eq_some_iff] at h8
      obtain ⟨cs, hc, ht⟩ := h8
      obtain ⟨_, hcl, hcell⟩ := World.cells?_some hc
      rcases cs with _ | ⟨x, _ | ⟨x1, r⟩⟩ <;> simp at hcl
      have hx := hcell 0 (by omega)
      have hadd0 : (a.add k).add 0 = a.add k := by unfold Addr.add; split <;> split <;> simp_all
      rw [hadd0] at hx
      obtain ⟨l, q, cc, rfl, hs, ha⟩ := open_bytesK _ _ _ ht
      exact ⟨l, q, cc, by simpa using hx, ha, hs.nil⟩
    obtain ⟨f, hf⟩ : ∃ f : Nat → B, ∀ k, k < len → ∃ (q : Option Addr) (cc : Nat), W.cell? (a.add k) = some (.slice q (f k).length cc) ∧ ArgAt W q (f k) ∧ (q = none → cc = 0) := by
      refine Classical.axiomOfChoice (r := fun k l => k < len → ∃ (q : Option Addr) (cc : Nat), W.cell? (a.add k) = some (.slice q (List.length l) cc) ∧ ArgAt W q l ∧ (q = none → cc = 0)) (fun k => ?_)
      by_cases hk : k < len
      · obtain ⟨l, q, cc, k1, k2, k3⟩ := hone k hk
        exact ⟨l, fun _ => ⟨q, cc, k1, k2, k3⟩⟩
      · exact ⟨[], fun h => absurd h hk⟩
    refine ⟨(List.range len).map f, some a, len, cap, rfl, by simp, fun j l hj => ?_⟩
    have hjl : j < len := by have := (List.getElem?_eq_some_iff.1 hj).1; simpa using this
    have hl' : f j = l := by
      have := (List.getElem?_eq_some_iff.1 hj).2
      simpa using this
    obtain ⟨q, cc, k1, k2, k3⟩ := hf j hjl
    rw [hl'] at k1 k2
    have hsp : a.spot = none := by
      obtain ⟨_, _, k0, _⟩ := hf 0 (by omega)
      exact World.cell?_spot k0
    obtain ⟨g, off, spot⟩ := a
    simp only at hsp
    subst hsp
    rw [add_plain] at k1
    exact ⟨g, off, q, cc, rfl, k1, k2, k3⟩
end Go.Proofs.YtjjalgnpppegnaaDoor
