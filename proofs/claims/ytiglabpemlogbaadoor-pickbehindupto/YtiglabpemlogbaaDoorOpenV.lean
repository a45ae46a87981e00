/- A value that was handed in is a value; a row of texts is one. -/
import Derived.Test.YtiglabpemlogbaaDoorRows
import Derived.Test.YtiglabpemlogbaaDoorMem
import Derived.SliceStrings
import Derived.ChangeArms
namespace Go.Proofs.YtiglabpemlogbaaDoor
open Go.RowKit Go.ChangeShapes

mutual
/-- How much there is of a value. -/
def wt : JV → Nat
  | .mk _ _ t _ _ ls ns => 1 + t.length + wtL ls + wtN ns
def wtL : List JV → Nat
  | [] => 0
  | x :: xs => wt x + wtL xs
def wtN : List B → Nat
  | [] => 0
  | x :: xs => x.length + 1 + wtN xs
end
theorem wtL_mem {x : JV} : ∀ {ls : List JV}, x ∈ ls → wt x ≤ wtL ls
  | [], h => by simp at h
  | y :: ys, h => by
    simp only [List.mem_cons] at h
    simp only [wtL]
    rcases h with rfl | h
    · omega
    · have := wtL_mem h
      omega
theorem wt_pos : ∀ t : JV, 1 ≤ wt t
  | .mk _ _ _ _ _ _ _ => by simp only [wt]; omega
theorem wtL_len : ∀ ls : List JV, ls.length ≤ wtL ls
  | [] => Nat.le_refl _
  | x :: xs => by
    have := wtL_len xs
    have := wt_pos x
    simp only [wtL, List.length_cons]
    omega
theorem wtN_len : ∀ ns : List B, ns.length ≤ wtN ns ∧ ∀ z ∈ ns, z.length ≤ wtN ns
  | [] => ⟨Nat.le_refl _, by simp⟩
  | x :: xs => by
    obtain ⟨h1, h2⟩ := wtN_len xs
    simp only [wtN, List.length_cons]
    refine ⟨by omega, fun z hz => ?_⟩
    simp only [List.mem_cons] at hz
    rcases hz with rfl | hz
    · omega
    · have := h2 z hz
      omega
mutual
theorem fits_wt : ∀ t : JV, wt t ≤ maxI → Fits t
  | .mk k b t n hh ls ns, h => by
    simp only [wt] at h
    have h1 := wtL_len ls
    obtain ⟨h2, h3⟩ := wtN_len ns
    simp only [Fits, fitsL_iff]
    exact ⟨by omega, by omega, by omega, fun z hz => by have := h3 z hz; omega, fitss_wt ls (by omega)⟩
theorem fitss_wt : ∀ ls : List JV, wtL ls ≤ maxI → ∀ x ∈ ls, Fits x
  | [], _, x, h => by simp at h
  | y :: ys, hl, x, h => by
    simp only [wtL] at hl
    simp only [List.mem_cons] at h
    rcases h with rfl | h
    · exact fits_wt x (by omega)
    · exact fitss_wt ys (by omega) x h
end
theorem open_vals {H : Type} {W : World} {a : Addr} : ∀ (es : List (DataW H × List MemPlace)) (o : Nat), (∀ i y, es[i]? = some y → ∃ cs, W.cells? 0 (a.add ((o + i) * 7)) 7 = some cs ∧ ∃ t, ValIs W (fun k => k < W.heap.size) t cs ∧ wt t ≤ Rows.uptoBulk y.1) → a.spot = none →
    ∃ ls : List JV, ls.length = es.length ∧ ValsIs W (fun k => k < W.heap.size) ls a.block (a.off + o * 7) ∧ wtL ls ≤ Rows.uptoBulkAll (es.map (·.1))
  | [], o, _, _ => ⟨[], rfl, by simp [ValsIs], Nat.zero_le _⟩
  | y :: ys, o, h, hs => by
    obtain ⟨cs, hc, t, hv, hw⟩ := h 0 y rfl
    obtain ⟨ls, h1, h2, h3⟩ := open_vals ys (o + 1) (fun i z hz => by
      have := h (i + 1) z (by simpa using hz)
      rw [show o + (i + 1) = o + 1 + i by omega] at this
      exact this) hs
    obtain ⟨_, hcl, hcell⟩ := World.cells?_some hc
    refine ⟨t :: ls, by simp [h1], ?_, ?_⟩
    · simp only [ValsIs]
      refine ⟨⟨cs, hv, fun j c hj => ?_⟩, by rw [show a.off + o * 7 + 7 = a.off + (o + 1) * 7 by omega]; exact h2⟩
      have hjlt : j < 7 := by
        have := (List.getElem?_eq_some_iff.1 hj).1
        omega
      have := hcell j hjlt
      rw [hj] at this
      rw [← this]
      congr 1
      obtain ⟨g, off, spot⟩ := a
      simp only at hs
      subst hs
      unfold Addr.add
      split <;> split <;> simp_all <;> omega
    · simp only [wtL, List.map_cons, Rows.uptoBulkAll]
      omega
theorem strs_bulk {H : Type} : ∀ ss : List ByteArray, wtN (ss.map fun s => s.data.toList) = Rows.uptoBulkAll (strs (H := H) ss)
  | [] => rfl
  | s :: ss => by
    have := strs_bulk (H := H) ss
    simp only [strs, List.map_cons, wtN, Rows.uptoBulkAll, Rows.uptoBulk] at this ⊢
    omega
set_option maxHeartbeats 2000000 in
theorem open_value {H : Type} {enc : TypeId × Value → H} {W : World} {sp : Nat → Bool} {held : Bool} : ∀ (m fuel : Nat), fuel ≤ m → ∀ (cs : List Value) (x : DataW H × List MemPlace), DataW.trod enc Tryd.prog W 0 sp held fuel 25 cs = some x → ∃ t, ValIs W (fun k => k < W.heap.size) t cs ∧ wt t ≤ Rows.uptoBulk x.1 := by
  intro m
  induction m with
  | zero =>
    intro fuel hm cs x h
    obtain ⟨xs, n, rfl, _⟩ := DataW.trod_struct Tryd.underlying25 h
    omega
  | succ m ih =>
    intro fuel hm cs x h
    obtain ⟨xs, n, rfl, rfl, hl, hx, hf⟩ := DataW.trod_struct Tryd.underlying25 h
    have c7 : Tryd.prog.cellsOf 25 = 7 := by kernel_rfl
    have c3 : Tryd.prog.cellsOf 3 = 1 := by kernel_rfl
    have c4 : Tryd.prog.cellsOf 4 = 1 := by kernel_rfl
    have c9 : Tryd.prog.cellsOf 9 = 1 := by kernel_rfl
    have cl : Tryd.prog.cellsOf 22 = 1 := by kernel_rfl
    have cn : Tryd.prog.cellsOf 23 = 1 := by kernel_rfl
    rw [c7] at hl
    have hx7 : xs.length = 7 := by rw [hx]; rfl
    rcases cs with _ | ⟨d0, _ | ⟨d1, _ | ⟨d2, _ | ⟨d3, _ | ⟨d4, _ | ⟨d5, _ | ⟨d6, _ | ⟨d7, r⟩⟩⟩⟩⟩⟩⟩⟩ <;> simp at hl
    rcases xs with _ | ⟨y0, _ | ⟨y1, _ | ⟨y2, _ | ⟨y3, _ | ⟨y4, _ | ⟨y5, _ | ⟨y6, _ | ⟨y7, r⟩⟩⟩⟩⟩⟩⟩⟩ <;> simp at hx7
    have f0 : DataW.trod enc Tryd.prog W 0 sp held n 3 (([d0, d1, d2, d3, d4, d5, d6].drop 0).take (Tryd.prog.cellsOf 3)) = some y0 := hf 0 _ rfl
    rw [c3] at f0
    replace f0 : DataW.trod enc Tryd.prog W 0 sp held n 3 [d0] = some y0 := f0
    have f1 : DataW.trod enc Tryd.prog W 0 sp held n 4 (([d0, d1, d2, d3, d4, d5, d6].drop 1).take (Tryd.prog.cellsOf 4)) = some y1 := hf 1 _ rfl
    rw [c4] at f1
    replace f1 : DataW.trod enc Tryd.prog W 0 sp held n 4 [d1] = some y1 := f1
    have f2 : DataW.trod enc Tryd.prog W 0 sp held n 9 (([d0, d1, d2, d3, d4, d5, d6].drop 2).take (Tryd.prog.cellsOf 9)) = some y2 := hf 2 _ rfl
    rw [c9] at f2
    replace f2 : DataW.trod enc Tryd.prog W 0 sp held n 9 [d2] = some y2 := f2
    have f3 : DataW.trod enc Tryd.prog W 0 sp held n 3 (([d0, d1, d2, d3, d4, d5, d6].drop 3).take (Tryd.prog.cellsOf 3)) = some y3 := hf 3 _ rfl
    rw [c3] at f3
    replace f3 : DataW.trod enc Tryd.prog W 0 sp held n 3 [d3] = some y3 := f3
    have f4 : DataW.trod enc Tryd.prog W 0 sp held n 4 (([d0, d1, d2, d3, d4, d5, d6].drop 4).take (Tryd.prog.cellsOf 4)) = some y4 := hf 4 _ rfl
    rw [c4] at f4
    replace f4 : DataW.trod enc Tryd.prog W 0 sp held n 4 [d4] = some y4 := f4
    have f5 : DataW.trod enc Tryd.prog W 0 sp held n 22 (([d0, d1, d2, d3, d4, d5, d6].drop 5).take (Tryd.prog.cellsOf 22)) = some y5 := hf 5 _ rfl
    rw [cl] at f5
    replace f5 : DataW.trod enc Tryd.prog W 0 sp held n 22 [d5] = some y5 := f5
    have f6 : DataW.trod enc Tryd.prog W 0 sp held n 23 (([d0, d1, d2, d3, d4, d5, d6].drop 6).take (Tryd.prog.cellsOf 23)) = some y6 := hf 6 _ rfl
    rw [cn] at f6
    replace f6 : DataW.trod enc Tryd.prog W 0 sp held n 23 [d6] = some y6 := f6
    obtain ⟨k, e0, rfl, _⟩ := DataW.trod_int Tryd.underlying3 f0
    obtain ⟨b, e1, rfl⟩ := DataW.trod_bool Tryd.underlying4 f1
    obtain ⟨s, e2, rfl, _⟩ := DataW.trod_string Tryd.underlying9 f2
    obtain ⟨i, e3, rfl, _⟩ := DataW.trod_int Tryd.underlying3 f3
    obtain ⟨hh, e4, rfl⟩ := DataW.trod_bool Tryd.underlying4 f4
    simp only [List.cons.injEq, and_true] at e0 e1 e2 e3 e4
    subst e0 e1 e2 e3 e4
    obtain ⟨ls, c5, p5, hd5, hk5, hs5, hw5⟩ : ∃ (ls : List JV) (c5 : Nat) (p5 : Option Addr), d5 = .slice p5 ls.length c5 ∧ ls.length ≤ c5 ∧ (0 < ls.length → ∃ g o, p5 = some ⟨g, o, none⟩ ∧ g < W.heap.size ∧ ValsIs W (fun k => k < W.heap.size) ls g o) ∧ wtL ls ≤ Rows.uptoBulk y5.1 := by
      rcases DataW.trod_slice Tryd.underlying22 f5 with ⟨e, rfl⟩ | ⟨a, len, cap, elems, rest, n2, rfl, e, rfl, _, hcp, _, hlen, hel, _, _⟩
      · simp only [List.cons.injEq, and_true] at e
        exact ⟨[], 0, none, e, Nat.le_refl _, fun h => absurd h (by simp), Nat.zero_le _⟩
      · simp only [List.cons.injEq, and_true] at e
        rw [c7] at hel
        have each : ∀ j y, elems[j]? = some y → ∃ cs, W.cells? 0 (a.add ((0 + j) * 7)) 7 = some cs ∧ ∃ t, ValIs W (fun k => k < W.heap.size) t cs ∧ wt t ≤ Rows.uptoBulk y.1 := by
          intro j y hy
          have hj : j < len := by
            have := (List.getElem?_eq_some_iff.1 hy).1
            omega
          have h2 := hel j hj
          rw [hy] at h2
          cases hc : W.cells? 0 (a.add (j * 7)) 7 with
          | none => rw [hc] at h2; cases h2
          | some cs =>
            rw [hc] at h2
            simp only [Option.bind_some] at h2
            obtain ⟨t, ht⟩ := ih n2 (by omega) cs y h2
            exact ⟨cs, by rw [Nat.zero_add]; exact hc, t, ht⟩
        rcases Nat.eq_zero_or_pos len with h0 | hpos
        · subst h0
          have : elems = [] := List.eq_nil_of_length_eq_zero hlen
          subst this
          exact ⟨[], cap, some a, e, Nat.zero_le _, fun h => absurd h (by simp), Nat.zero_le _⟩
        · obtain ⟨y, hy⟩ : ∃ y, elems[0]? = some y := ⟨elems[0]'(by omega), List.getElem?_eq_getElem (by omega)⟩
          obtain ⟨cs, hc, _⟩ := each 0 y hy
          obtain ⟨_, hcl, hcell⟩ := World.cells?_some hc
          have hc0 := hcell 0 (by omega)
          obtain ⟨v0, hv0⟩ : ∃ v0, cs[0]? = some v0 := ⟨cs[0]'(by omega), List.getElem?_eq_getElem (by omega)⟩
          rw [hv0] at hc0
          have hsp : a.spot = none := by simpa [Addr.add] using World.cell?_spot hc0
          obtain ⟨ls, h1, h2, h3⟩ := open_vals elems 0 each hsp
          refine ⟨ls, cap, some a, by rw [h1, hlen]; exact e, by omega, fun _ => ⟨a.block, a.off, ?_, ?_, by simpa using h2⟩, ?_⟩
          · obtain ⟨g, off, spot⟩ := a
            simp only at hsp
            subst hsp
            rfl
          · obtain ⟨g, off, spot⟩ := a
            simp only at hsp
            subst hsp
            simp [Addr.add] at hc0
            exact lt_of_cell hc0
          · simp only [Rows.uptoBulk]
            omega
    obtain ⟨ns, c6, p6, hd6, hk6, hs6, hw6⟩ : ∃ (ns : List B) (c6 : Nat) (p6 : Option Addr), d6 = .slice p6 ns.length c6 ∧ ns.length ≤ c6 ∧ (0 < ns.length → ∃ g o, p6 = some ⟨g, o, none⟩ ∧ g < W.heap.size ∧ StrsAt W ns g o) ∧ wtN ns ≤ Rows.uptoBulk y6.1 := by
      rcases open_strings Tryd.underlying23 Tryd.underlying9 c9 f6 with ⟨e, rfl⟩ | ⟨a, len, cap, ss, e, _, hlc, _, hsl, rfl, hcell, _⟩
      · simp only [List.cons.injEq, and_true] at e
        exact ⟨[], 0, none, e, Nat.le_refl _, fun h => absurd h (by simp), Nat.zero_le _⟩
      · simp only [List.cons.injEq, and_true] at e
        have hge : len ≤ ss.length := by rw [hsl]; split <;> omega
        have hnl : ((ss.take len).map fun s => s.data.toList).length = len := by rw [List.length_map, List.length_take]; omega
        refine ⟨(ss.take len).map fun s => s.data.toList, cap, some a, by rw [hnl]; exact e, by rw [hnl]; exact hlc, fun hpos => ?_, ?_⟩
        · rw [hnl] at hpos
          have hc0 := hcell 0 (by omega)
          have hsp : a.spot = none := by simpa [Addr.add] using World.cell?_spot hc0
          obtain ⟨g, off, spot⟩ := a
          simp only at hsp
          subst hsp
          have hc1 : W.cell? ⟨g, off, none⟩ = some (.string (ss.getD 0 ByteArray.empty)) := by simpa [Addr.add] using hc0
          refine ⟨g, off, rfl, lt_of_cell hc1, fun j t hj => ?_⟩
          rw [List.getElem?_map, List.getElem?_take] at hj
          split at hj
          · rename_i hjl
            have hjs : j < ss.length := by omega
            have := hcell j hjs
            rw [List.getElem?_eq_getElem hjs] at hj
            simp only [Option.map_some, Option.some.injEq] at hj
            have e2 : (⟨g, off, none⟩ : Addr).add j = ⟨g, off + j, none⟩ := by unfold Addr.add; split <;> simp_all
            rw [e2] at this
            rw [this, ← hj]
            simp only [List.getD_eq_getElem?_getD, List.getElem?_eq_getElem hjs, Option.getD_some]
          · simp at hj
        · rw [strs_bulk (H := H)]
          simp only [Rows.uptoBulk]
          omega
    subst hd5 hd6
    refine ⟨.mk k b s.data.toList i hh ls ns, ?_, ?_⟩
    · simp only [ValIs]
      refine ⟨_, _, ?_, ⟨p5, c5, rfl, hk5, fun h => by obtain ⟨g, o, h1, h2, h3⟩ := hs5 h; exact ⟨g, o, h1, h2, h3⟩⟩, ⟨p6, c6, rfl, hk6, fun h => by obtain ⟨g, o, h1, h2, h3⟩ := hs6 h; exact ⟨g, o, h1, h2, h3⟩⟩⟩
      simp [vcells]
    · simp only [wt, List.map_cons, List.map_nil, Rows.uptoBulk, Rows.uptoBulkAll]
      omega
theorem open_names {H : Type} {enc : TypeId × Value → H} {W : World} {sp : Nat → Bool} {held : Bool} {n : Nat} {v : Value} {x : DataW H × List MemPlace} (h : DataW.trod enc Tryd.prog W 0 sp held n 23 [v] = some x) : ∃ (ns : List B) (c : Nat) (p : Option Addr), v = .slice p ns.length c ∧ (p = none → ns = [] ∧ c = 0) ∧ NamesOn W ns p ∧ wtN ns ≤ Rows.uptoBulk x.1 := by
  have c9 : Tryd.prog.cellsOf 9 = 1 := by kernel_rfl
  rcases open_strings Tryd.underlying23 Tryd.underlying9 c9 h with ⟨e, rfl⟩ | ⟨a, len, cap, ss, e, _, hlc, _, hsl, rfl, hcell, _⟩
  · simp only [List.cons.injEq, and_true] at e
    exact ⟨[], 0, none, e, fun _ => ⟨rfl, rfl⟩, fun j t hj => (by simp at hj), Nat.zero_le _⟩
  · simp only [List.cons.injEq, and_true] at e
    have hge : len ≤ ss.length := by rw [hsl]; split <;> omega
    have hnl : ((ss.take len).map fun s => s.data.toList).length = len := by rw [List.length_map, List.length_take]; omega
    refine ⟨(ss.take len).map fun s => s.data.toList, cap, some a, by rw [hnl]; exact e, fun h => (by cases h), fun j t hj => ?_, ?_⟩
    · have hjl : j < len := by
        have := (List.getElem?_eq_some_iff.1 hj).1
        rw [hnl] at this
        exact this
      have hc0 := hcell 0 (by omega)
      have hsp : a.spot = none := by simpa [Addr.add] using World.cell?_spot hc0
      obtain ⟨g, off, spot⟩ := a
      simp only at hsp
      subst hsp
      refine ⟨g, off, rfl, ?_⟩
      rw [List.getElem?_map, List.getElem?_take, if_pos hjl] at hj
      have hjs : j < ss.length := by omega
      have := hcell j hjs
      rw [List.getElem?_eq_getElem hjs] at hj
      simp only [Option.map_some, Option.some.injEq] at hj
      have e2 : (⟨g, off, none⟩ : Addr).add j = ⟨g, off + j, none⟩ := by unfold Addr.add; split <;> simp_all
      rw [e2] at this
      rw [this, ← hj]
      simp only [List.getD_eq_getElem?_getD, List.getElem?_eq_getElem hjs, Option.getD_some]
    · rw [strs_bulk (H := H)]
      simp only [Rows.uptoBulk]
      omega
end Go.Proofs.YtiglabpemlogbaaDoor
