/- Rows of texts that are handed in: opened, by their bulk or by their weights. -/
import Derived.Test.YtkjgdfihhhdjaaaDoorRows
import Derived.Test.YtkjgdfihhhdjaaaDoorSLTx
import Derived.OpenShut
import Derived.ShutString
import Derived.ChangeOld
import Derived.ChangeArms
import Derived.SizedLaws
namespace Go.Proofs.YtkjgdfihhhdjaaaDoor
open Go.ChangeShapes Go.WideShapes Go.RowKit

theorem str_selfT (s : ByteArray) : str s.data.toList = s := by cases s; rfl
/-- The weight of texts. -/
def wtT : List B → Nat
  | [] => 0
  | s :: l => s.length + 1 + wtT l
theorem wtT_len : ∀ l : List B, l.length ≤ wtT l ∧ ∀ s ∈ l, s.length ≤ wtT l
  | [] => ⟨Nat.le_refl _, fun s h => by cases h⟩
  | x :: l => by
    obtain ⟨h1, h2⟩ := wtT_len l
    refine ⟨by simp [wtT]; omega, fun s hs => ?_⟩
    simp only [wtT]
    rcases List.mem_cons.1 hs with h | h
    · rw [h]; omega
    · have := h2 s h
      omega
theorem open_eachT {H : Type} {W : World} {a : Addr} (hs : a.spot = none) : ∀ (es : List (DataW H × List MemPlace)) (o : Nat), (∀ (i : Nat) (y : DataW H × List MemPlace), es[i]? = some y → ∃ f : B, W.cells? 0 (a.add ((o + i) * 1)) 1 = some [.string (str f)] ∧ f.length + 1 ≤ Rows.uptoBulk y.1) →
    ∃ fs : List B, fs.length = es.length ∧ (∀ (j : Nat) (f : B), fs[j]? = some f → W.cell? ⟨a.block, a.off + (o + j), none⟩ = some (.string (str f))) ∧ wtT fs ≤ Rows.uptoBulkAll (es.map (·.1))
  | [], o, _ => ⟨[], rfl, fun j f h => by simp at h, Nat.zero_le _⟩
  | y :: ys, o, h => by
    obtain ⟨f, hc, hw⟩ := h 0 y rfl
    obtain ⟨fs, h1, h2, h3⟩ := open_eachT hs ys (o + 1) (fun i z hz => by
      have := h (i + 1) z (by simpa using hz)
      rw [show o + (i + 1) = o + 1 + i by omega] at this
      exact this)
    obtain ⟨_, hcl, hcell⟩ := World.cells?_some hc
    have hadd : ∀ j, (a.add ((o + 0) * 1)).add j = ⟨a.block, a.off + (o + 0) * 1 + j, none⟩ := fun j => by
      obtain ⟨g, off, spot⟩ := a
      simp only at hs
      subst hs
      unfold Addr.add
      split <;> split <;> simp_all
    have q0 := hcell 0 (by omega)
    rw [hadd] at q0
    refine ⟨f :: fs, by simp [h1], fun j g hj => ?_, ?_⟩
    · cases j with
      | zero =>
        simp at hj
        subst hj
        simpa using q0
      | succ j =>
        have := h2 j g (by simpa using hj)
        rw [show o + (j + 1) = o + 1 + j by omega]
        exact this
    · simp only [wtT, List.map_cons, Rows.uptoBulkAll]
      omega
theorem open_textsT {H : Type} {enc : TypeId × Value → H} {W : World} {sp : Nat → Bool} {held : Bool} (fuel : Nat) (d : Value) (x : DataW H × List MemPlace) (h : DataW.trod enc Tryd.prog W 0 sp held fuel 44 [d] = some x) : ∃ (fs : List B) (p : Option Addr) (c : Nat), d = .slice p fs.length c ∧ fs.length ≤ c ∧ LbAt W p fs ∧ wtT fs ≤ Rows.uptoBulk x.1 := by
  have c2 : Tryd.prog.cellsOf 9 = 1 := by kernel_rfl
  rcases DataW.trod_slice Tryd.underlying44 h with ⟨e, rfl⟩ | ⟨a, len, cap, elems, rest, n2, rfl, e, rfl, _, hcp, _, hlen, hel, _, _⟩
  · simp only [List.cons.injEq, and_true] at e
    exact ⟨[], none, 0, e, Nat.le_refl _, fun j f h => by simp at h, Nat.zero_le _⟩
  · simp only [List.cons.injEq, and_true] at e
    rw [c2] at hel
    have each : ∀ (j : Nat) (y : DataW H × List MemPlace), elems[j]? = some y → ∃ f : B, W.cells? 0 (a.add ((0 + j) * 1)) 1 = some [.string (str f)] ∧ f.length + 1 ≤ Rows.uptoBulk y.1 := by
      intro j y hy
      have hj : j < len := by
        have := (List.getElem?_eq_some_iff.1 hy).1
        omega
      have h2 := hel j hj
      rw [hy] at h2
      cases hc : W.cells? 0 (a.add (j * 1)) 1 with
      | none => rw [hc] at h2; cases h2
      | some cs =>
        rw [hc] at h2
        simp only [Option.bind_some] at h2
        obtain ⟨_, hcl, _⟩ := World.cells?_some hc
        rcases cs with _ | ⟨d0, _ | ⟨d1, r⟩⟩ <;> simp at hcl
        obtain ⟨s0, e0, rfl, _⟩ := DataW.trod_string Tryd.underlying9 h2
        simp only [List.cons.injEq, and_true] at e0
        subst e0
        exact ⟨s0.data.toList, by rw [Nat.zero_add, str_selfT]; exact hc, by simp [Rows.uptoBulk]⟩
    rcases Nat.eq_zero_or_pos len with h0 | hpos
    · subst h0
      exact ⟨[], some a, cap, e, Nat.zero_le _, fun j f h => by simp at h, Nat.zero_le _⟩
    · obtain ⟨y, hy⟩ : ∃ y, elems[0]? = some y := ⟨elems[0]'(by omega), List.getElem?_eq_getElem (by omega)⟩
      obtain ⟨f, hc, _⟩ := each 0 y hy
      obtain ⟨_, hcl, hcell⟩ := World.cells?_some hc
      have hc0 := hcell 0 (by omega)
      have hsp : a.spot = none := by simpa [Addr.add] using World.cell?_spot hc0
      obtain ⟨fs, h1, h2, h3⟩ := open_eachT hsp elems 0 each
      refine ⟨fs, some a, cap, by rw [h1, hlen]; exact e, by omega, fun j f hj => ?_, ?_⟩
      · have q0 := h2 j f hj
        rw [Nat.zero_add] at q0
        refine ⟨a.block, a.off, ?_, q0⟩
        obtain ⟨g, off, spot⟩ := a
        simp only at hsp
        subst hsp
        rfl
      · simp only [Rows.uptoBulk]
        omega
theorem weights_memT {H : Type} {e : TypeId} {d : DataW H} : ∀ {l : List (DataW H)}, d ∈ l → ∀ x ∈ d.weights Tryd.prog e, x ∈ DataW.weightsAll Tryd.prog e l
  | [], hd, _, _ => by simp at hd
  | c :: r, hd, x, hx => by
    simp only [DataW.weightsAll, List.mem_append]
    rcases List.mem_cons.1 hd with rfl | hd
    · exact .inl hx
    · exact .inr (weights_memT hd x hx)
theorem bytesS : Tryd.prog.bytesOf 9 = 16 := by kernel_rfl
theorem reach_leT {n : Nat} (h : n ≤ reachBytes) : n ≤ 140737488355328 := Nat.le_trans h (by decide)
theorem open_eachV {H : Type} {W : World} {a : Addr} (hs : a.spot = none) : ∀ (es : List (DataW H × List MemPlace)) (o : Nat), (∀ (i : Nat) (y : DataW H × List MemPlace), es[i]? = some y → ∃ f : B, W.cells? 0 (a.add ((o + i) * 1)) 1 = some [.string (str f)] ∧ f.length ≤ 140737488355328) →
    ∃ fs : List B, fs.length = es.length ∧ (∀ (j : Nat) (f : B), fs[j]? = some f → W.cell? ⟨a.block, a.off + (o + j), none⟩ = some (.string (str f))) ∧ ∀ s ∈ fs, s.length ≤ 140737488355328
  | [], o, _ => ⟨[], rfl, fun j f h => by simp at h, fun s h => by cases h⟩
  | y :: ys, o, h => by
    obtain ⟨f, hc, hw⟩ := h 0 y rfl
    obtain ⟨fs, h1, h2, h3⟩ := open_eachV hs ys (o + 1) (fun i z hz => by
      have := h (i + 1) z (by simpa using hz)
      rw [show o + (i + 1) = o + 1 + i by omega] at this
      exact this)
    obtain ⟨_, hcl, hcell⟩ := World.cells?_some hc
    have hadd : ∀ j, (a.add ((o + 0) * 1)).add j = ⟨a.block, a.off + (o + 0) * 1 + j, none⟩ := fun j => by
      obtain ⟨g, off, spot⟩ := a
      simp only at hs
      subst hs
      unfold Addr.add
      split <;> split <;> simp_all
    have q0 := hcell 0 (by omega)
    rw [hadd] at q0
    refine ⟨f :: fs, by simp [h1], fun j g hj => ?_, ?_⟩
    · cases j with
      | zero =>
        simp at hj
        subst hj
        simpa using q0
      | succ j =>
        have := h2 j g (by simpa using hj)
        rw [show o + (j + 1) = o + 1 + j by omega]
        exact this
    · intro s hs9
      rcases List.mem_cons.1 hs9 with h9 | h9
      · rw [h9]; exact hw
      · exact h3 s h9
theorem open_textsV {H : Type} {enc : TypeId × Value → H} {W : World} {sp : Nat → Bool} {held : Bool} (fuel : Nat) (d : Value) (x : DataW H × List MemPlace) (h : DataW.trod enc Tryd.prog W 0 sp held fuel 44 [d] = some x) (hw0 : ∀ z ∈ x.1.weights Tryd.prog 44, z ≤ reachBytes) : ∃ (fs : List B) (p : Option Addr) (c : Nat), d = .slice p fs.length c ∧ fs.length ≤ c ∧ LbAt W p fs ∧ (∀ s ∈ fs, s.length ≤ 140737488355328) ∧ fs.length ≤ 140737488355328 := by
  have c2 : Tryd.prog.cellsOf 9 = 1 := by kernel_rfl
  rcases DataW.trod_slice Tryd.underlying44 h with ⟨e, rfl⟩ | ⟨a, len, cap, elems, rest, n2, rfl, e, rfl, _, hcp, _, hlen, hel, _, _⟩
  · simp only [List.cons.injEq, and_true] at e
    exact ⟨[], none, 0, e, Nat.le_refl _, fun j f h => by simp at h, fun s h => by simp at h, Nat.zero_le _⟩
  · simp only [List.cons.injEq, and_true] at e
    rw [c2] at hel
    have each : ∀ (j : Nat) (y : DataW H × List MemPlace), elems[j]? = some y → ∃ f : B, W.cells? 0 (a.add ((0 + j) * 1)) 1 = some [.string (str f)] ∧ f.length ≤ 140737488355328 := by
      intro j y hy
      have hj : j < len := by
        have := (List.getElem?_eq_some_iff.1 hy).1
        omega
      have h2 := hel j hj
      rw [hy] at h2
      cases hc : W.cells? 0 (a.add (j * 1)) 1 with
      | none => rw [hc] at h2; cases h2
      | some cs =>
        rw [hc] at h2
        simp only [Option.bind_some] at h2
        obtain ⟨_, hcl, _⟩ := World.cells?_some hc
        rcases cs with _ | ⟨d0, _ | ⟨d1, r⟩⟩ <;> simp at hcl
        obtain ⟨s0, e0, rfl, _⟩ := DataW.trod_string Tryd.underlying9 h2
        simp only [List.cons.injEq, and_true] at e0
        subst e0
        exact ⟨s0.data.toList, by rw [Nat.zero_add, str_selfT]; exact hc, reach_leT (hw0 _ (by
          simp only [DataW.weights, Tryd.underlying44, List.mem_cons, List.mem_append]
          right; left
          exact weights_memT (List.mem_map.2 ⟨_, List.mem_of_getElem? hy, rfl⟩) _ (by simp [DataW.weights])))⟩
    rcases Nat.eq_zero_or_pos len with h0 | hpos
    · subst h0
      exact ⟨[], some a, cap, e, Nat.zero_le _, fun j f h => by simp at h, fun s h => by simp at h, Nat.zero_le _⟩
    · obtain ⟨y, hy⟩ : ∃ y, elems[0]? = some y := ⟨elems[0]'(by omega), List.getElem?_eq_getElem (by omega)⟩
      obtain ⟨f, hc, _⟩ := each 0 y hy
      obtain ⟨_, hcl, hcell⟩ := World.cells?_some hc
      have hc0 := hcell 0 (by omega)
      have hsp : a.spot = none := by simpa [Addr.add] using World.cell?_spot hc0
      obtain ⟨fs, h1, h2, h3⟩ := open_eachV hsp elems 0 each
      refine ⟨fs, some a, cap, by rw [h1, hlen]; exact e, by omega, fun j f hj => ?_, ?_⟩
      · have q0 := h2 j f hj
        rw [Nat.zero_add] at q0
        refine ⟨a.block, a.off, ?_, q0⟩
        obtain ⟨g, off, spot⟩ := a
        simp only at hsp
        subst hsp
        rfl
      · refine ⟨h3, ?_⟩
        have hl := hw0 ((elems.length + rest.length) * Tryd.prog.bytesOf 9) (by
          simp only [DataW.weights, Tryd.underlying44, List.mem_cons, List.length_map]
          exact .inl trivial)
        rw [bytesS] at hl
        have := reach_leT hl
        omega
end Go.Proofs.YtkjgdfihhhdjaaaDoor
