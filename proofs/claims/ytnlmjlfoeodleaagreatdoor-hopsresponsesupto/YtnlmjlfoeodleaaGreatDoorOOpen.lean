/- What was handed in: rows of fields, requests and responses. -/
import Derived.Test.YtnlmjlfoeodleaaGreatDoorRows
import Derived.Test.YtnlmjlfoeodleaaGreatDoorHFine
import Derived.SliceStrings
import Derived.ChangeArms
import Derived.OpenShut
namespace Go.Proofs.YtnlmjlfoeodleaaGreatDoor
open Go.RowKit Go.ChangeShapes

def wtF : List (B × B) → Nat
  | [] => 0
  | f :: l => f.1.length + f.2.length + 1 + wtF l
theorem wtF_len : ∀ fs : List (B × B), fs.length ≤ wtF fs ∧ ∀ f ∈ fs, f.1.length ≤ wtF fs ∧ f.2.length ≤ wtF fs
  | [] => ⟨Nat.le_refl _, by simp⟩
  | x :: xs => by
    obtain ⟨h1, h2⟩ := wtF_len xs
    simp only [wtF, List.length_cons]
    refine ⟨by omega, fun z hz => ?_⟩
    simp only [List.mem_cons] at hz
    rcases hz with rfl | hz
    · omega
    · have := h2 z hz
      omega
theorem str_self (s : ByteArray) : str s.data.toList = s := by cases s; rfl
theorem open_field {H : Type} {enc : TypeId × Value → H} {W : World} {sp : Nat → Bool} {held : Bool} (fuel : Nat) (cs : List Value) (x : DataW H × List MemPlace) (h : DataW.trod enc Tryz.prog W 0 sp held fuel 88 cs = some x) : ∃ f : B × B, cs = [.string (str f.1), .string (str f.2)] ∧ f.1.length + f.2.length + 1 ≤ Rows.uptoBulk x.1 := by
  obtain ⟨xs, n, rfl, rfl, hl, hx, hf⟩ := DataW.trod_struct Tryz.underlying88 h
  have c2 : Tryz.prog.cellsOf 88 = 2 := by kernel_rfl
  have c9 : Tryz.prog.cellsOf 9 = 1 := by kernel_rfl
  rw [c2] at hl
  have hx2 : xs.length = 2 := by rw [hx]; rfl
  rcases cs with _ | ⟨d0, _ | ⟨d1, _ | ⟨d2, r⟩⟩⟩ <;> simp at hl
  rcases xs with _ | ⟨y0, _ | ⟨y1, _ | ⟨y2, r⟩⟩⟩ <;> simp at hx2
  have f0 : DataW.trod enc Tryz.prog W 0 sp held n 9 (([d0, d1].drop 0).take (Tryz.prog.cellsOf 9)) = some y0 := hf 0 _ rfl
  rw [c9] at f0
  replace f0 : DataW.trod enc Tryz.prog W 0 sp held n 9 [d0] = some y0 := f0
  have f1 : DataW.trod enc Tryz.prog W 0 sp held n 9 (([d0, d1].drop 1).take (Tryz.prog.cellsOf 9)) = some y1 := hf 1 _ rfl
  rw [c9] at f1
  replace f1 : DataW.trod enc Tryz.prog W 0 sp held n 9 [d1] = some y1 := f1
  obtain ⟨s0, e0, rfl, _⟩ := DataW.trod_string Tryz.underlying9 f0
  obtain ⟨s1, e1, rfl, _⟩ := DataW.trod_string Tryz.underlying9 f1
  simp only [List.cons.injEq, and_true] at e0 e1
  subst e0 e1
  refine ⟨⟨s0.data.toList, s1.data.toList⟩, by simp only [str_self], ?_⟩
  simp [Rows.uptoBulk, Rows.uptoBulkAll]
  omega
theorem open_each {H : Type} {W : World} {a : Addr} (hs : a.spot = none) : ∀ (es : List (DataW H × List MemPlace)) (o : Nat), (∀ i y, es[i]? = some y → ∃ f : B × B, W.cells? 0 (a.add ((o + i) * 2)) 2 = some [.string (str f.1), .string (str f.2)] ∧ f.1.length + f.2.length + 1 ≤ Rows.uptoBulk y.1) →
    ∃ fs : List (B × B), fs.length = es.length ∧ (∀ j f, fs[j]? = some f → W.cell? ⟨a.block, a.off + (o + j) * 2, none⟩ = some (.string (str f.1)) ∧ W.cell? ⟨a.block, a.off + (o + j) * 2 + 1, none⟩ = some (.string (str f.2))) ∧ wtF fs ≤ Rows.uptoBulkAll (es.map (·.1))
  | [], o, _ => ⟨[], rfl, fun j f h => by simp at h, Nat.zero_le _⟩
  | y :: ys, o, h => by
    obtain ⟨f, hc, hw⟩ := h 0 y rfl
    obtain ⟨fs, h1, h2, h3⟩ := open_each hs ys (o + 1) (fun i z hz => by
      have := h (i + 1) z (by simpa using hz)
      rw [show o + (i + 1) = o + 1 + i by omega] at this
      exact this)
    obtain ⟨_, hcl, hcell⟩ := World.cells?_some hc
    have hadd : ∀ j, (a.add ((o + 0) * 2)).add j = ⟨a.block, a.off + (o + 0) * 2 + j, none⟩ := fun j => by
      obtain ⟨g, off, spot⟩ := a
      simp only at hs
      subst hs
      unfold Addr.add
      split <;> split <;> simp_all
    have q0 := hcell 0 (by omega)
    have q1 := hcell 1 (by omega)
    rw [hadd] at q0 q1
    refine ⟨f :: fs, by simp [h1], fun j g hj => ?_, ?_⟩
    · cases j with
      | zero =>
        simp at hj
        subst hj
        exact ⟨by simpa using q0, by simpa using q1⟩
      | succ j =>
        have := h2 j g (by simpa using hj)
        rw [show o + (j + 1) = o + 1 + j by omega]
        exact this
    · simp only [wtF, List.map_cons, Rows.uptoBulkAll]
      omega
theorem open_fields {H : Type} {enc : TypeId × Value → H} {W : World} {sp : Nat → Bool} {held : Bool} (fuel : Nat) (d : Value) (x : DataW H × List MemPlace) (h : DataW.trod enc Tryz.prog W 0 sp held fuel 33 [d] = some x) : ∃ (fs : List (B × B)) (p : Option Addr) (c : Nat), d = .slice p fs.length c ∧ fs.length ≤ c ∧ FAt W p fs ∧ wtF fs ≤ Rows.uptoBulk x.1 := by
  have c2 : Tryz.prog.cellsOf 88 = 2 := by kernel_rfl
  rcases DataW.trod_slice Tryz.underlying33 h with ⟨e, rfl⟩ | ⟨a, len, cap, elems, rest, n2, rfl, e, rfl, _, hcp, _, hlen, hel, _, _⟩
  · simp only [List.cons.injEq, and_true] at e
    exact ⟨[], none, 0, e, Nat.le_refl _, fun j f h => by simp at h, Nat.zero_le _⟩
  · simp only [List.cons.injEq, and_true] at e
    rw [c2] at hel
    have each : ∀ j y, elems[j]? = some y → ∃ f : B × B, W.cells? 0 (a.add ((0 + j) * 2)) 2 = some [.string (str f.1), .string (str f.2)] ∧ f.1.length + f.2.length + 1 ≤ Rows.uptoBulk y.1 := by
      intro j y hy
      have hj : j < len := by
        have := (List.getElem?_eq_some_iff.1 hy).1
        omega
      have h2 := hel j hj
      rw [hy] at h2
      cases hc : W.cells? 0 (a.add (j * 2)) 2 with
      | none => rw [hc] at h2; cases h2
      | some cs =>
        rw [hc] at h2
        simp only [Option.bind_some] at h2
        obtain ⟨f, rfl, hw⟩ := open_field n2 cs y h2
        exact ⟨f, by rw [Nat.zero_add]; exact hc, hw⟩
    rcases Nat.eq_zero_or_pos len with h0 | hpos
    · subst h0
      exact ⟨[], some a, cap, e, Nat.zero_le _, fun j f h => by simp at h, Nat.zero_le _⟩
    · obtain ⟨y, hy⟩ : ∃ y, elems[0]? = some y := ⟨elems[0]'(by omega), List.getElem?_eq_getElem (by omega)⟩
      obtain ⟨f, hc, _⟩ := each 0 y hy
      obtain ⟨_, hcl, hcell⟩ := World.cells?_some hc
      have hc0 := hcell 0 (by omega)
      have hsp : a.spot = none := by simpa [Addr.add] using World.cell?_spot hc0
      obtain ⟨fs, h1, h2, h3⟩ := open_each hsp elems 0 each
      refine ⟨fs, some a, cap, by rw [h1, hlen]; exact e, by omega, fun j f hj => ?_, ?_⟩
      · obtain ⟨q0, q1⟩ := h2 j f hj
        rw [Nat.zero_add] at q0 q1
        refine ⟨a.block, a.off, ?_, q0, q1⟩
        obtain ⟨g, off, spot⟩ := a
        simp only at hsp
        subst hsp
        rfl
      · simp only [Rows.uptoBulk]
        omega
set_option maxHeartbeats 2000000 in
theorem open_response {H : Type} {enc : TypeId × Value → H} {W : World} {sp : Nat → Bool} {held : Bool} (fuel : Nat) (cs : List Value) (x : DataW H × List MemPlace) (h : DataW.trod enc Tryz.prog W 0 sp held fuel 62 cs = some x) : ∃ (s : Int) (t : B) (k : Int) (fs : List (B × B)) (p : Option Addr) (c : Nat), cs = [.int .i64 s, .string (str t), .int .i64 k, .slice p fs.length c] ∧ FAt W p fs ∧ t.length + wtF fs ≤ Rows.uptoBulk x.1 := by
  obtain ⟨xs, n, rfl, rfl, hl, hx, hf⟩ := DataW.trod_struct Tryz.underlying62 h
  have c4 : Tryz.prog.cellsOf 62 = 4 := by kernel_rfl
  have c3 : Tryz.prog.cellsOf 3 = 1 := by kernel_rfl
  have c9 : Tryz.prog.cellsOf 9 = 1 := by kernel_rfl
  have cf : Tryz.prog.cellsOf 33 = 1 := by kernel_rfl
  rw [c4] at hl
  have hx4 : xs.length = 4 := by rw [hx]; rfl
  rcases cs with _ | ⟨d0, _ | ⟨d1, _ | ⟨d2, _ | ⟨d3, _ | ⟨d4, r⟩⟩⟩⟩⟩ <;> simp at hl
  rcases xs with _ | ⟨y0, _ | ⟨y1, _ | ⟨y2, _ | ⟨y3, _ | ⟨y4, r⟩⟩⟩⟩⟩ <;> simp at hx4
  have f0 : DataW.trod enc Tryz.prog W 0 sp held n 3 (([d0, d1, d2, d3].drop 0).take (Tryz.prog.cellsOf 3)) = some y0 := hf 0 _ rfl
  rw [c3] at f0
  replace f0 : DataW.trod enc Tryz.prog W 0 sp held n 3 [d0] = some y0 := f0
  have f1 : DataW.trod enc Tryz.prog W 0 sp held n 9 (([d0, d1, d2, d3].drop 1).take (Tryz.prog.cellsOf 9)) = some y1 := hf 1 _ rfl
  rw [c9] at f1
  replace f1 : DataW.trod enc Tryz.prog W 0 sp held n 9 [d1] = some y1 := f1
  have f2 : DataW.trod enc Tryz.prog W 0 sp held n 3 (([d0, d1, d2, d3].drop 2).take (Tryz.prog.cellsOf 3)) = some y2 := hf 2 _ rfl
  rw [c3] at f2
  replace f2 : DataW.trod enc Tryz.prog W 0 sp held n 3 [d2] = some y2 := f2
  have f3 : DataW.trod enc Tryz.prog W 0 sp held n 33 (([d0, d1, d2, d3].drop 3).take (Tryz.prog.cellsOf 33)) = some y3 := hf 3 _ rfl
  rw [cf] at f3
  replace f3 : DataW.trod enc Tryz.prog W 0 sp held n 33 [d3] = some y3 := f3
  obtain ⟨s0, e0, rfl, _⟩ := DataW.trod_int Tryz.underlying3 f0
  obtain ⟨s1, e1, rfl, _⟩ := DataW.trod_string Tryz.underlying9 f1
  obtain ⟨k, e2, rfl, _⟩ := DataW.trod_int Tryz.underlying3 f2
  obtain ⟨fs, p, c, rfl, _, hF, hw⟩ := open_fields n d3 y3 f3
  simp only [List.cons.injEq, and_true] at e0 e1 e2
  subst e0 e1 e2
  refine ⟨s0, s1.data.toList, k, fs, p, c, by simp only [str_self], hF, ?_⟩
  simp [Rows.uptoBulk, Rows.uptoBulkAll]
  omega
end Go.Proofs.YtnlmjlfoeodleaaGreatDoor
/- What was handed in: bounds of numbers and rows. -/
namespace Go.Proofs.YtnlmjlfoeodleaaGreatDoor
open Go.RowKit Go.ChangeShapes Go.WideShapes

theorem open_capO {H : Type} {enc : TypeId × Value → H} {W : World} {sp : Nat → Bool} {held : Bool} {fuel : Nat} {p : Option Addr} {n c : Nat} {x : DataW H × List MemPlace} (h : DataW.trod enc Tryz.prog W 0 sp held fuel 33 [.slice p n c] = some x) : p = none → c = 0 := by
  rcases DataW.trod_slice Tryz.underlying33 h with ⟨e, rfl⟩ | ⟨a, len, cap, elems, rest, n2, rfl, e, rfl, _⟩
  · simp only [List.cons.injEq, and_true, Value.slice.injEq] at e
    exact fun _ => e.2.2
  · simp only [List.cons.injEq, and_true, Value.slice.injEq] at e
    intro h
    rw [e.1] at h
    cases h
set_option maxHeartbeats 2000000 in
theorem open_frameO {H : Type} {enc : TypeId × Value → H} {W : World} {sp : Nat → Bool} {held : Bool} (fuel : Nat) (cs : List Value) (x : DataW H × List MemPlace) (h : DataW.trod enc Tryz.prog W 0 sp held fuel 23 cs = some x) : ∃ (K N : Int), cs = [.int .i64 K, .int .i64 N] ∧ (-9223372036854775808 ≤ N ∧ N ≤ 9223372036854775807) ∧ 1 ≤ Rows.uptoBulk x.1 := by
  obtain ⟨xs, n, rfl, rfl, hl, hx, hf⟩ := DataW.trod_struct Tryz.underlying23 h
  have c2 : Tryz.prog.cellsOf 23 = 2 := by kernel_rfl
  have c3 : Tryz.prog.cellsOf 3 = 1 := by kernel_rfl
  rw [c2] at hl
  have hx2 : xs.length = 2 := by rw [hx]; rfl
  rcases cs with _ | ⟨d0, _ | ⟨d1, _ | ⟨d2, r⟩⟩⟩ <;> simp at hl
  rcases xs with _ | ⟨y0, _ | ⟨y1, _ | ⟨y2, r⟩⟩⟩ <;> simp at hx2
  have f0 : DataW.trod enc Tryz.prog W 0 sp held n 3 (([d0, d1].drop 0).take (Tryz.prog.cellsOf 3)) = some y0 := hf 0 _ rfl
  rw [c3] at f0
  replace f0 : DataW.trod enc Tryz.prog W 0 sp held n 3 [d0] = some y0 := f0
  have f1 : DataW.trod enc Tryz.prog W 0 sp held n 3 (([d0, d1].drop 1).take (Tryz.prog.cellsOf 3)) = some y1 := hf 1 _ rfl
  rw [c3] at f1
  replace f1 : DataW.trod enc Tryz.prog W 0 sp held n 3 [d1] = some y1 := f1
  obtain ⟨s0, e0, rfl, _⟩ := DataW.trod_int Tryz.underlying3 f0
  obtain ⟨s1, e1, rfl, hwf1⟩ := DataW.trod_int Tryz.underlying3 f1
  simp only [List.cons.injEq, and_true] at e0 e1
  subst e0 e1
  refine ⟨s0, s1, rfl, bounds_i64 hwf1, ?_⟩
  simp [Rows.uptoBulk, Rows.uptoBulkAll]
  try omega
end Go.Proofs.YtnlmjlfoeodleaaGreatDoor
