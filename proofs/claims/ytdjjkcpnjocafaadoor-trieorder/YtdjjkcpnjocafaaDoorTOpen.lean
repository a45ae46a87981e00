/- Rows of texts, and of patterns with numbers, that are handed in: opened. -/
import Derived.Test.YtdjjkcpnjocafaaDoorRows
import Derived.Test.YtdjjkcpnjocafaaDoorTLaw
import Derived.OpenShut
import Derived.ShutString
import Derived.ChangeOld
import Derived.ChangeArms
namespace Go.Proofs.YtdjjkcpnjocafaaDoor
open Go.ChangeShapes Go.WideShapes Go.RowKit

theorem str_selfT (s : ByteArray) : str s.data.toList = s := by cases s; rfl
/-- The weight of texts. -/
def wtT : List B → Nat
  | [] => 0
  | s :: l => s.length + 1 + wtT l
theorem wtT_len : ∀ l : List B, l.length ≤ wtT l ∧ ∀ s ∈ l, s.length ≤ wtT l
  | [] => ⟨Nat.le_refl _, fun s h => by cases h⟩
  | x :: l => by
    obtain ⟨h1, h2⟩ := wtT_len l
    refine ⟨by simp [wtT]; omega, fun s hs => ?_⟩
    simp only [wtT]
    rcases List.mem_cons.1 hs with h | h
    · rw [h]; omega
    · have := h2 s h
      omega
/-- The weight of patterns. -/
def wtP : List (B × Int) → Nat
  | [] => 0
  | s :: l => s.1.length + 1 + wtP l
theorem wtP_len : ∀ l : List (B × Int), l.length ≤ wtP l ∧ ∀ s ∈ l, s.1.length ≤ wtP l
  | [] => ⟨Nat.le_refl _, fun s h => by cases h⟩
  | x :: l => by
    obtain ⟨h1, h2⟩ := wtP_len l
    refine ⟨by simp [wtP]; omega, fun s hs => ?_⟩
    simp only [wtP]
    rcases List.mem_cons.1 hs with h | h
    · rw [h]; omega
    · have := h2 s h
      omega
/-- Patterns with their numbers in memory. -/
def PtAt (w : World) (p : Option Addr) (l : List (B × Int)) : Prop := ∀ (j : Nat) (x : B × Int), l[j]? = some x → ∃ g o, p = some ⟨g, o, none⟩ ∧ w.cell? ⟨g, o + j * 2, none⟩ = some (.string (str x.1)) ∧ w.cell? ⟨g, o + j * 2 + 1, none⟩ = some (.int .i64 x.2)
theorem PtAt.next {w w' : World} {p : Option Addr} {l : List (B × Int)} (h : PtAt w p l) (hb : Below w.heap.size w w') : PtAt w' p l := by
  intro j x hj
  obtain ⟨g, o, e, h1, h2⟩ := h j x hj
  exact ⟨g, o, e, cell_keep hb h1, cell_keep hb h2⟩
theorem open_eachT {H : Type} {W : World} {a : Addr} (hs : a.spot = none) : ∀ (es : List (DataW H × List MemPlace)) (o : Nat), (∀ (i : Nat) (y : DataW H × List MemPlace), es[i]? = some y → ∃ f : B, W.cells? 0 (a.add ((o + i) * 1)) 1 = some [.string (str f)] ∧ f.length + 1 ≤ Rows.uptoBulk y.1) →
    ∃ fs : List B, fs.length = es.length ∧ (∀ (j : Nat) (f : B), fs[j]? = some f → W.cell? ⟨a.block, a.off + (o + j), none⟩ = some (.string (str f))) ∧ wtT fs ≤ Rows.uptoBulkAll (es.map (·.1))
  | [], o, _ => ⟨[], rfl, fun j f h => by simp at h, Nat.zero_le _⟩
  | y :: ys, o, h => by
    obtain ⟨f, hc, hw⟩ := h 0 y rfl
    obtain ⟨fs, h1, h2, h3⟩ := open_eachT hs ys (o + 1) (fun i z hz => by
      have := h (i + 1) z (by simpa using hz)
      rw [show o + (i + 1) = o + 1 + i by omega] at this
      exact this)
    obtain ⟨_, hcl, hcell⟩ := World.cells?_some hc
    have hadd : ∀ j, (a.add ((o + 0) * 1)).add j = ⟨a.block, a.off + (o + 0) * 1 + j, none⟩ := fun j => by
      obtain ⟨g, off, spot⟩ := a
      simp only at hs
      subst hs
      unfold Addr.add
      split <;> split <;> simp_all
    have q0 := hcell 0 (by omega)
    rw [hadd] at q0
    refine ⟨f :: fs, by simp [h1], fun j g hj => ?_, ?_⟩
    · cases j with
      | zero =>
        simp at hj
        subst hj
        simpa using q0
      | succ j =>
        have := h2 j g (by simpa using hj)
        rw [show o + (j + 1) = o + 1 + j by omega]
        exact this
    · simp only [wtT, List.map_cons, Rows.uptoBulkAll]
      omega
theorem open_textsT {H : Type} {enc : TypeId × Value → H} {W : World} {sp : Nat → Bool} {held : Bool} (fuel : Nat) (d : Value) (x : DataW H × List MemPlace) (h : DataW.trod enc Tryd.prog W 0 sp held fuel 23 [d] = some x) : ∃ (fs : List B) (p : Option Addr) (c : Nat), d = .slice p fs.length c ∧ fs.length ≤ c ∧ TxAt W p fs ∧ wtT fs ≤ Rows.uptoBulk x.1 := by
  have c2 : Tryd.prog.cellsOf 9 = 1 := by kernel_rfl
  rcases DataW.trod_slice Tryd.underlying23 h with ⟨e, rfl⟩ | ⟨a, len, cap, elems, rest, n2, rfl, e, rfl, _, hcp, _, hlen, hel, _, _⟩
  · simp only [List.cons.injEq, and_true] at e
    exact ⟨[], none, 0, e, Nat.le_refl _, fun j f h => by simp at h, Nat.zero_le _⟩
  · simp only [List.cons.injEq, and_true] at e
    rw [c2] at hel
    have each : ∀ (j : Nat) (y : DataW H × List MemPlace), elems[j]? = some y → ∃ f : B, W.cells? 0 (a.add ((0 + j) * 1)) 1 = some [.string (str f)] ∧ f.length + 1 ≤ Rows.uptoBulk y.1 := by
      intro j y hy
      have hj : j < len := by
        have := (List.getElem?_eq_some_iff.1 hy).1
        omega
      have h2 := hel j hj
      rw [hy] at h2
      cases hc : W.cells? 0 (a.add (j * 1)) 1 with
      | none => rw [hc] at h2; cases h2
      | some cs =>
        rw [hc] at h2
        simp only [Option.bind_some] at h2
        obtain ⟨_, hcl, _⟩ := World.cells?_some hc
        rcases cs with _ | ⟨d0, _ | ⟨d1, r⟩⟩ <;> simp at hcl
        obtain ⟨s0, e0, rfl, _⟩ := DataW.trod_string Tryd.underlying9 h2
        simp only [List.cons.injEq, and_true] at e0
        subst e0
        exact ⟨s0.data.toList, by rw [Nat.zero_add, str_selfT]; exact hc, by simp [Rows.uptoBulk]⟩
    rcases Nat.eq_zero_or_pos len with h0 | hpos
    · subst h0
      exact ⟨[], some a, cap, e, Nat.zero_le _, fun j f h => by simp at h, Nat.zero_le _⟩
    · obtain ⟨y, hy⟩ : ∃ y, elems[0]? = some y := ⟨elems[0]'(by omega), List.getElem?_eq_getElem (by omega)⟩
      obtain ⟨f, hc, _⟩ := each 0 y hy
      obtain ⟨_, hcl, hcell⟩ := World.cells?_some hc
      have hc0 := hcell 0 (by omega)
      have hsp : a.spot = none := by simpa [Addr.add] using World.cell?_spot hc0
      obtain ⟨fs, h1, h2, h3⟩ := open_eachT hsp elems 0 each
      refine ⟨fs, some a, cap, by rw [h1, hlen]; exact e, by omega, fun j f hj => ?_, ?_⟩
      · have q0 := h2 j f hj
        rw [Nat.zero_add] at q0
        refine ⟨a.block, a.off, ?_, q0⟩
        obtain ⟨g, off, spot⟩ := a
        simp only at hsp
        subst hsp
        rfl
      · simp only [Rows.uptoBulk]
        omega
theorem open_pat {H : Type} {enc : TypeId × Value → H} {W : World} {sp : Nat → Bool} {held : Bool} (fuel : Nat) (cs : List Value) (x : DataW H × List MemPlace) (h : DataW.trod enc Tryd.prog W 0 sp held fuel 31 cs = some x) : ∃ f : B × Int, cs = [.string (str f.1), .int .i64 f.2] ∧ f.1.length + 1 ≤ Rows.uptoBulk x.1 := by
  obtain ⟨xs, n, rfl, rfl, hl, hx, hf⟩ := DataW.trod_struct Tryd.underlying31 h
  have c2 : Tryd.prog.cellsOf 31 = 2 := by kernel_rfl
  have c9 : Tryd.prog.cellsOf 9 = 1 := by kernel_rfl
  have c3 : Tryd.prog.cellsOf 3 = 1 := by kernel_rfl
  rw [c2] at hl
  have hx2 : xs.length = 2 := by rw [hx]; rfl
  rcases cs with _ | ⟨d0, _ | ⟨d1, _ | ⟨d2, r⟩⟩⟩ <;> simp at hl
  rcases xs with _ | ⟨y0, _ | ⟨y1, _ | ⟨y2, r⟩⟩⟩ <;> simp at hx2
  have f0 : DataW.trod enc Tryd.prog W 0 sp held n 9 (([d0, d1].drop 0).take (Tryd.prog.cellsOf 9)) = some y0 := hf 0 _ rfl
  rw [c9] at f0
  replace f0 : DataW.trod enc Tryd.prog W 0 sp held n 9 [d0] = some y0 := f0
  have f1 : DataW.trod enc Tryd.prog W 0 sp held n 3 (([d0, d1].drop 1).take (Tryd.prog.cellsOf 3)) = some y1 := hf 1 _ rfl
  rw [c3] at f1
  replace f1 : DataW.trod enc Tryd.prog W 0 sp held n 3 [d1] = some y1 := f1
  obtain ⟨s0, e0, rfl, _⟩ := DataW.trod_string Tryd.underlying9 f0
  obtain ⟨s1, e1, rfl, _⟩ := DataW.trod_int Tryd.underlying3 f1
  simp only [List.cons.injEq, and_true] at e0 e1
  subst e0 e1
  refine ⟨⟨s0.data.toList, s1⟩, by simp only [str_selfT], ?_⟩
  simp [Rows.uptoBulk, Rows.uptoBulkAll]
theorem open_eachP {H : Type} {W : World} {a : Addr} (hs : a.spot = none) : ∀ (es : List (DataW H × List MemPlace)) (o : Nat), (∀ (i : Nat) (y : DataW H × List MemPlace), es[i]? = some y → ∃ f : B × Int, W.cells? 0 (a.add ((o + i) * 2)) 2 = some [.string (str f.1), .int .i64 f.2] ∧ f.1.length + 1 ≤ Rows.uptoBulk y.1) →
    ∃ fs : List (B × Int), fs.length = es.length ∧ (∀ (j : Nat) (f : B × Int), fs[j]? = some f → W.cell? ⟨a.block, a.off + (o + j) * 2, none⟩ = some (.string (str f.1)) ∧ W.cell? ⟨a.block, a.off + (o + j) * 2 + 1, none⟩ = some (.int .i64 f.2)) ∧ wtP fs ≤ Rows.uptoBulkAll (es.map (·.1))
  | [], o, _ => ⟨[], rfl, fun j f h => by simp at h, Nat.zero_le _⟩
  | y :: ys, o, h => by
    obtain ⟨f, hc, hw⟩ := h 0 y rfl
    obtain ⟨fs, h1, h2, h3⟩ := open_eachP hs ys (o + 1) (fun i z hz => by
      have := h (i + 1) z (by simpa using hz)
      rw [show o + (i + 1) = o + 1 + i by omega] at this
      exact this)
    obtain ⟨_, hcl, hcell⟩ := World.cells?_some hc
    have hadd : ∀ j, (a.add ((o + 0) * 2)).add j = ⟨a.block, a.off + (o + 0) * 2 + j, none⟩ := fun j => by
      obtain ⟨g, off, spot⟩ := a
      simp only at hs
      subst hs
      unfold Addr.add
      split <;> split <;> simp_all
    have q0 := hcell 0 (by omega)
    have q1 := hcell 1 (by omega)
    rw [hadd] at q0 q1
    refine ⟨f :: fs, by simp [h1], fun j g hj => ?_, ?_⟩
    · cases j with
      | zero =>
        simp at hj
        subst hj
        exact ⟨by simpa using q0, by simpa using q1⟩
      | succ j =>
        have := h2 j g (by simpa using hj)
        rw [show o + (j + 1) = o + 1 + j by omega]
        exact this
    · simp only [wtP, List.map_cons, Rows.uptoBulkAll]
      omega
theorem open_pats {H : Type} {enc : TypeId × Value → H} {W : World} {sp : Nat → Bool} {held : Bool} (fuel : Nat) (d : Value) (x : DataW H × List MemPlace) (h : DataW.trod enc Tryd.prog W 0 sp held fuel 22 [d] = some x) : ∃ (fs : List (B × Int)) (p : Option Addr) (c : Nat), d = .slice p fs.length c ∧ fs.length ≤ c ∧ PtAt W p fs ∧ wtP fs ≤ Rows.uptoBulk x.1 := by
  have c2 : Tryd.prog.cellsOf 31 = 2 := by kernel_rfl
  rcases DataW.trod_slice Tryd.underlying22 h with ⟨e, rfl⟩ | ⟨a, len, cap, elems, rest, n2, rfl, e, rfl, _, hcp, _, hlen, hel, _, _⟩
  · simp only [List.cons.injEq, and_true] at e
    exact ⟨[], none, 0, e, Nat.le_refl _, fun j f h => by simp at h, Nat.zero_le _⟩
  · simp only [List.cons.injEq, and_true] at e
    rw [c2] at hel
    have each : ∀ (j : Nat) (y : DataW H × List MemPlace), elems[j]? = some y → ∃ f : B × Int, W.cells? 0 (a.add ((0 + j) * 2)) 2 = some [.string (str f.1), .int .i64 f.2] ∧ f.1.length + 1 ≤ Rows.uptoBulk y.1 := by
      intro j y hy
      have hj : j < len := by
        have := (List.getElem?_eq_some_iff.1 hy).1
        omega
      have h2 := hel j hj
      rw [hy] at h2
      cases hc : W.cells? 0 (a.add (j * 2)) 2 with
      | none => rw [hc] at h2; cases h2
      | some cs =>
        rw [hc] at h2
        simp only [Option.bind_some] at h2
        obtain ⟨f, rfl, hw⟩ := open_pat n2 cs y h2
        exact ⟨f, by rw [Nat.zero_add]; exact hc, hw⟩
    rcases Nat.eq_zero_or_pos len with h0 | hpos
    · subst h0
      exact ⟨[], some a, cap, e, Nat.zero_le _, fun j f h => by simp at h, Nat.zero_le _⟩
    · obtain ⟨y, hy⟩ : ∃ y, elems[0]? = some y := ⟨elems[0]'(by omega), List.getElem?_eq_getElem (by omega)⟩
      obtain ⟨f, hc, _⟩ := each 0 y hy
      obtain ⟨_, hcl, hcell⟩ := World.cells?_some hc
      have hc0 := hcell 0 (by omega)
      have hsp : a.spot = none := by simpa [Addr.add] using World.cell?_spot hc0
      obtain ⟨fs, h1, h2, h3⟩ := open_eachP hsp elems 0 each
      refine ⟨fs, some a, cap, by rw [h1, hlen]; exact e, by omega, fun j f hj => ?_, ?_⟩
      · obtain ⟨q0, q1⟩ := h2 j f hj
        rw [Nat.zero_add] at q0 q1
        refine ⟨a.block, a.off, ?_, q0, q1⟩
        obtain ⟨g, off, spot⟩ := a
        simp only at hsp
        subst hsp
        rfl
      · simp only [Rows.uptoBulk]
        omega
end Go.Proofs.YtdjjkcpnjocafaaDoor
