/- A value that was handed in is a value. -/
import Derived.Test.YtkoeihliaandeaaGreatDoorRows
import Derived.Test.YtkoeihliaandeaaGreatDoorFit
import Derived.SliceStrings
import Derived.ChangeArms
import Derived.Test.YtkoeihliaandeaaGreatDoorRefC
import Derived.Test.YtkoeihliaandeaaGreatDoorWorks
import Derived.Test.YtkoeihliaandeaaGreatDoorText
import Derived.Lib.LaidU8T
import Derived.PinnedBridge
import Derived.Stop.LaidErr
import Derived.LaidLaws
namespace Go.Proofs.YtkoeihliaandeaaGreatDoor
open Go.RowKit Go.ChangeShapes

mutual
/-- How much there is of a value. -/
def wt : JV → Nat
  | .mk _ _ t _ _ ls ns => 1 + t.length + wtL ls + wtN ns
def wtL : List JV → Nat
  | [] => 0
  | x :: xs => wt x + wtL xs
def wtN : List B → Nat
  | [] => 0
  | x :: xs => x.length + 1 + wtN xs
end
theorem wtL_mem {x : JV} : ∀ {ls : List JV}, x ∈ ls → wt x ≤ wtL ls
  | [], h => by simp at h
  | y :: ys, h => by
    simp only [List.mem_cons] at h
    simp only [wtL]
    rcases h with rfl | h
    · omega
    · have := wtL_mem h
      omega
theorem wt_pos : ∀ t : JV, 1 ≤ wt t
  | .mk _ _ _ _ _ _ _ => by simp only [wt]; omega
theorem wtL_len : ∀ ls : List JV, ls.length ≤ wtL ls
  | [] => Nat.le_refl _
  | x :: xs => by
    have := wtL_len xs
    have := wt_pos x
    simp only [wtL, List.length_cons]
    omega
theorem wtN_len : ∀ ns : List B, ns.length ≤ wtN ns ∧ ∀ z ∈ ns, z.length ≤ wtN ns
  | [] => ⟨Nat.le_refl _, by simp⟩
  | x :: xs => by
    obtain ⟨h1, h2⟩ := wtN_len xs
    simp only [wtN, List.length_cons]
    refine ⟨by omega, fun z hz => ?_⟩
    simp only [List.mem_cons] at hz
    rcases hz with rfl | hz
    · omega
    · have := h2 z hz
      omega
mutual
theorem fits_wt : ∀ t : JV, wt t ≤ maxI → Fits t
  | .mk k b t n hh ls ns, h => by
    simp only [wt] at h
    have h1 := wtL_len ls
    obtain ⟨h2, h3⟩ := wtN_len ns
    simp only [Fits, fitsL_iff]
    exact ⟨by omega, by omega, by omega, fun z hz => by have := h3 z hz; omega, fitss_wt ls (by omega)⟩
theorem fitss_wt : ∀ ls : List JV, wtL ls ≤ maxI → ∀ x ∈ ls, Fits x
  | [], _, x, h => by simp at h
  | y :: ys, hl, x, h => by
    simp only [wtL] at hl
    simp only [List.mem_cons] at h
    rcases h with rfl | h
    · exact fits_wt x (by omega)
    · exact fitss_wt ys (by omega) x h
end
theorem quote_most (s : B) : (quoteB s).length ≤ 6 * s.length + 2 := by
  have := escs_most s
  simp only [quoteB, List.length_cons, List.length_append, List.length_nil]
  omega
mutual
theorem print_wt : ∀ t : JV, (printV t).length + 4 ≤ 20 * wt t
  | .mk k b t n hh ls ns => by
    simp only [printV]
    have ew : wt (.mk k b t n hh ls ns) = 1 + t.length + wtL ls + wtN ns := by simp only [wt]
    rw [ew]
    have hq := quote_most t
    have h1 := prints_wt false true ls ns
    have h2 := prints_wt true true ls ns
    split
    · simp; omega
    split
    · split <;> simp <;> omega
    split
    · omega
    split
    · omega
    split
    · simp only [List.length_cons, List.length_append, List.length_nil]; omega
    split
    · simp only [List.length_cons, List.length_append, List.length_nil]; omega
    · simp only [List.length_nil]; omega
theorem prints_wt : ∀ (o fi : Bool) (ls : List JV) (ns : List B), (printL o fi ls ns).length ≤ 20 * wtL ls + 6 * wtN ns
  | o, fi, [], ns => by simp [printL]
  | o, fi, x :: xs, ns => by
    rw [printL_cons]
    have h1 := print_wt x
    have h2 := prints_wt o false xs ns.tail
    have h3 := quote_most (ns.headD [])
    have h4 : (ns.headD []).length * 6 + 6 * wtN ns.tail ≤ 6 * wtN ns := by
      cases ns with
      | nil => simp [wtN]
      | cons z zs => simp only [List.headD_cons, List.tail_cons, wtN]; omega
    obtain ⟨hd, hhd⟩ : ∃ hd, ns.headD [] = hd := ⟨_, rfl⟩
    rw [hhd] at h3 h4 ⊢
    simp only [List.length_append, wtL]
    cases fi <;> cases o <;> simp <;> omega
end
theorem open_vals {H : Type} {W : World} {a : Addr} : ∀ (es : List (DataW H × List MemPlace)) (o : Nat), (∀ i y, es[i]? = some y → ∃ cs, W.cells? 0 (a.add ((o + i) * 7)) 7 = some cs ∧ ∃ t, ValIs W (fun k => k < W.heap.size) t cs ∧ wt t ≤ Rows.uptoBulk y.1) → a.spot = none →
    ∃ ls : List JV, ls.length = es.length ∧ ValsIs W (fun k => k < W.heap.size) ls a.block (a.off + o * 7) ∧ wtL ls ≤ Rows.uptoBulkAll (es.map (·.1))
  | [], o, _, _ => ⟨[], rfl, by simp [ValsIs], Nat.zero_le _⟩
  | y :: ys, o, h, hs => by
    obtain ⟨cs, hc, t, hv, hw⟩ := h 0 y rfl
    obtain ⟨ls, h1, h2, h3⟩ := open_vals ys (o + 1) (fun i z hz => by
      have := h (i + 1) z (by simpa using hz)
      rw [show o + (i + 1) = o + 1 + i by omega] at this
      exact this) hs
    obtain ⟨_, hcl, hcell⟩ := World.cells?_some hc
    refine ⟨t :: ls, by simp [h1], ?_, ?_⟩
    · simp only [ValsIs]
      refine ⟨⟨cs, hv, fun j c hj => ?_⟩, by rw [show a.off + o * 7 + 7 = a.off + (o + 1) * 7 by omega]; exact h2⟩
      have hjlt : j < 7 := by
        have := (List.getElem?_eq_some_iff.1 hj).1
        omega
      have := hcell j hjlt
      rw [hj] at this
      rw [← this]
      congr 1
      obtain ⟨g, off, spot⟩ := a
      simp only at hs
      subst hs
      unfold Addr.add
      split <;> split <;> simp_all <;> omega
    · simp only [wtL, List.map_cons, Rows.uptoBulkAll]
      omega
theorem strs_bulk {H : Type} : ∀ ss : List ByteArray, wtN (ss.map fun s => s.data.toList) = Rows.uptoBulkAll (strs (H := H) ss)
  | [] => rfl
  | s :: ss => by
    have := strs_bulk (H := H) ss
    simp only [strs, List.map_cons, wtN, Rows.uptoBulkAll, Rows.uptoBulk] at this ⊢
    omega
set_option maxHeartbeats 2000000 in
theorem open_value {H : Type} {enc : TypeId × Value → H} {W : World} {sp : Nat → Bool} {held : Bool} : ∀ (m fuel : Nat), fuel ≤ m → ∀ (cs : List Value) (x : DataW H × List MemPlace), DataW.trod enc Tryz.prog W 0 sp held fuel 25 cs = some x → ∃ t, ValIs W (fun k => k < W.heap.size) t cs ∧ wt t ≤ Rows.uptoBulk x.1 := by
  intro m
  induction m with
  | zero =>
    intro fuel hm cs x h
    obtain ⟨xs, n, rfl, _⟩ := DataW.trod_struct Tryz.underlying25 h
    omega
  | succ m ih =>
    intro fuel hm cs x h
    obtain ⟨xs, n, rfl, rfl, hl, hx, hf⟩ := DataW.trod_struct Tryz.underlying25 h
    have c7 : Tryz.prog.cellsOf 25 = 7 := by kernel_rfl
    have c3 : Tryz.prog.cellsOf 3 = 1 := by kernel_rfl
    have c4 : Tryz.prog.cellsOf 4 = 1 := by kernel_rfl
    have c9 : Tryz.prog.cellsOf 9 = 1 := by kernel_rfl
    have cl : Tryz.prog.cellsOf 22 = 1 := by kernel_rfl
    have cn : Tryz.prog.cellsOf 23 = 1 := by kernel_rfl
    rw [c7] at hl
    have hx7 : xs.length = 7 := by rw [hx]; rfl
    rcases cs with _ | ⟨d0, _ | ⟨d1, _ | ⟨d2, _ | ⟨d3, _ | ⟨d4, _ | ⟨d5, _ | ⟨d6, _ | ⟨d7, r⟩⟩⟩⟩⟩⟩⟩⟩ <;> simp at hl
    rcases xs with _ | ⟨y0, _ | ⟨y1, _ | ⟨y2, _ | ⟨y3, _ | ⟨y4, _ | ⟨y5, _ | ⟨y6, _ | ⟨y7, r⟩⟩⟩⟩⟩⟩⟩⟩ <;> simp at hx7
    have f0 : DataW.trod enc Tryz.prog W 0 sp held n 3 (([d0, d1, d2, d3, d4, d5, d6].drop 0).take (Tryz.prog.cellsOf 3)) = some y0 := hf 0 _ rfl
    rw [c3] at f0
    replace f0 : DataW.trod enc Tryz.prog W 0 sp held n 3 [d0] = some y0 := f0
    have f1 : DataW.trod enc Tryz.prog W 0 sp held n 4 (([d0, d1, d2, d3, d4, d5, d6].drop 1).take (Tryz.prog.cellsOf 4)) = some y1 := hf 1 _ rfl
    rw [c4] at f1
    replace f1 : DataW.trod enc Tryz.prog W 0 sp held n 4 [d1] = some y1 := f1
    have f2 : DataW.trod enc Tryz.prog W 0 sp held n 9 (([d0, d1, d2, d3, d4, d5, d6].drop 2).take (Tryz.prog.cellsOf 9)) = some y2 := hf 2 _ rfl
    rw [c9] at f2
    replace f2 : DataW.trod enc Tryz.prog W 0 sp held n 9 [d2] = some y2 := f2
    have f3 : DataW.trod enc Tryz.prog W 0 sp held n 3 (([d0, d1, d2, d3, d4, d5, d6].drop 3).take (Tryz.prog.cellsOf 3)) = some y3 := hf 3 _ rfl
    rw [c3] at f3
    replace f3 : DataW.trod enc Tryz.prog W 0 sp held n 3 [d3] = some y3 := f3
    have f4 : DataW.trod enc Tryz.prog W 0 sp held n 4 (([d0, d1, d2, d3, d4, d5, d6].drop 4).take (Tryz.prog.cellsOf 4)) = some y4 := hf 4 _ rfl
    rw [c4] at f4
    replace f4 : DataW.trod enc Tryz.prog W 0 sp held n 4 [d4] = some y4 := f4
    have f5 : DataW.trod enc Tryz.prog W 0 sp held n 22 (([d0, d1, d2, d3, d4, d5, d6].drop 5).take (Tryz.prog.cellsOf 22)) = some y5 := hf 5 _ rfl
    rw [cl] at f5
    replace f5 : DataW.trod enc Tryz.prog W 0 sp held n 22 [d5] = some y5 := f5
    have f6 : DataW.trod enc Tryz.prog W 0 sp held n 23 (([d0, d1, d2, d3, d4, d5, d6].drop 6).take (Tryz.prog.cellsOf 23)) = some y6 := hf 6 _ rfl
    rw [cn] at f6
    replace f6 : DataW.trod enc Tryz.prog W 0 sp held n 23 [d6] = some y6 := f6
    obtain ⟨k, e0, rfl, _⟩ := DataW.trod_int Tryz.underlying3 f0
    obtain ⟨b, e1, rfl⟩ := DataW.trod_bool Tryz.underlying4 f1
    obtain ⟨s, e2, rfl, _⟩ := DataW.trod_string Tryz.underlying9 f2
    obtain ⟨i, e3, rfl, _⟩ := DataW.trod_int Tryz.underlying3 f3
    obtain ⟨hh, e4, rfl⟩ := DataW.trod_bool Tryz.underlying4 f4
    simp only [List.cons.injEq, and_true] at e0 e1 e2 e3 e4
    subst e0 e1 e2 e3 e4
    obtain ⟨ls, c5, p5, hd5, hk5, hs5, hw5⟩ : ∃ (ls : List JV) (c5 : Nat) (p5 : Option Addr), d5 = .slice p5 ls.length c5 ∧ ls.length ≤ c5 ∧ (0 < ls.length → ∃ g o, p5 = some ⟨g, o, none⟩ ∧ g < W.heap.size ∧ ValsIs W (fun k => k < W.heap.size) ls g o) ∧ wtL ls ≤ Rows.uptoBulk y5.1 := by
      rcases DataW.trod_slice Tryz.underlying22 f5 with ⟨e, rfl⟩ | ⟨a, len, cap, elems, rest, n2, rfl, e, rfl, _, hcp, _, hlen, hel, _, _⟩
      · simp only [List.cons.injEq, and_true] at e
        exact ⟨[], 0, none, e, Nat.le_refl _, fun h => absurd h (by simp), Nat.zero_le _⟩
      · simp only [List.cons.injEq, and_true] at e
        rw [c7] at hel
        have each : ∀ j y, elems[j]? = some y → ∃ cs, W.cells? 0 (a.add ((0 + j) * 7)) 7 = some cs ∧ ∃ t, ValIs W (fun k => k < W.heap.size) t cs ∧ wt t ≤ Rows.uptoBulk y.1 := by
          intro j y hy
          have hj : j < len := by
            have := (List.getElem?_eq_some_iff.1 hy).1
            omega
          have h2 := hel j hj
          rw [hy] at h2
          cases hc : W.cells? 0 (a.add (j * 7)) 7 with
          | none => rw [hc] at h2; cases h2
          | some cs =>
            rw [hc] at h2
            simp only [Option.bind_some] at h2
            obtain ⟨t, ht⟩ := ih n2 (by omega) cs y h2
            exact ⟨cs, by rw [Nat.zero_add]; exact hc, t, ht⟩
        rcases Nat.eq_zero_or_pos len with h0 | hpos
        · subst h0
          have : elems = [] := List.eq_nil_of_length_eq_zero hlen
          subst this
          exact ⟨[], cap, some a, e, Nat.zero_le _, fun h => absurd h (by simp), Nat.zero_le _⟩
        · obtain ⟨y, hy⟩ : ∃ y, elems[0]? = some y := ⟨elems[0]'(by omega), List.getElem?_eq_getElem (by omega)⟩
          obtain ⟨cs, hc, _⟩ := each 0 y hy
          obtain ⟨_, hcl, hcell⟩ := World.cells?_some hc
          have hc0 := hcell 0 (by omega)
          obtain ⟨v0, hv0⟩ : ∃ v0, cs[0]? = some v0 := ⟨cs[0]'(by omega), List.getElem?_eq_getElem (by omega)⟩
          rw [hv0] at hc0
          have hsp : a.spot = none := by simpa [Addr.add] using World.cell?_spot hc0
          obtain ⟨ls, h1, h2, h3⟩ := open_vals elems 0 each hsp
          refine ⟨ls, cap, some a, by rw [h1, hlen]; exact e, by omega, fun _ => ⟨a.block, a.off, ?_, ?_, by simpa using h2⟩, ?_⟩
          · obtain ⟨g, off, spot⟩ := a
            simp only at hsp
            subst hsp
            rfl
          · obtain ⟨g, off, spot⟩ := a
            simp only at hsp
            subst hsp
            simp [Addr.add] at hc0
            exact lt_of_cell hc0
          · simp only [Rows.uptoBulk]
            omega
    obtain ⟨ns, c6, p6, hd6, hk6, hs6, hw6⟩ : ∃ (ns : List B) (c6 : Nat) (p6 : Option Addr), d6 = .slice p6 ns.length c6 ∧ ns.length ≤ c6 ∧ (0 < ns.length → ∃ g o, p6 = some ⟨g, o, none⟩ ∧ g < W.heap.size ∧ StrsAt W ns g o) ∧ wtN ns ≤ Rows.uptoBulk y6.1 := by
      rcases open_strings Tryz.underlying23 Tryz.underlying9 c9 f6 with ⟨e, rfl⟩ | ⟨a, len, cap, ss, e, _, hlc, _, hsl, rfl, hcell, _⟩
      · simp only [List.cons.injEq, and_true] at e
        exact ⟨[], 0, none, e, Nat.le_refl _, fun h => absurd h (by simp), Nat.zero_le _⟩
      · simp only [List.cons.injEq, and_true] at e
        have hge : len ≤ ss.length := by rw [hsl]; split <;> omega
        have hnl : ((ss.take len).map fun s => s.data.toList).length = len := by rw [List.length_map, List.length_take]; omega
        refine ⟨(ss.take len).map fun s => s.data.toList, cap, some a, by rw [hnl]; exact e, by rw [hnl]; exact hlc, fun hpos => ?_, ?_⟩
        · rw [hnl] at hpos
          have hc0 := hcell 0 (by omega)
          have hsp : a.spot = none := by simpa [Addr.add] using World.cell?_spot hc0
          obtain ⟨g, off, spot⟩ := a
          simp only at hsp
          subst hsp
          have hc1 : W.cell? ⟨g, off, none⟩ = some (.string (ss.getD 0 ByteArray.empty)) := by simpa [Addr.add] using hc0
          refine ⟨g, off, rfl, lt_of_cell hc1, fun j t hj => ?_⟩
          rw [List.getElem?_map, List.getElem?_take] at hj
          split at hj
          · rename_i hjl
            have hjs : j < ss.length := by omega
            have := hcell j hjs
            rw [List.getElem?_eq_getElem hjs] at hj
            simp only [Option.map_some, Option.some.injEq] at hj
            have e2 : (⟨g, off, none⟩ : Addr).add j = ⟨g, off + j, none⟩ := by unfold Addr.add; split <;> simp_all
            rw [e2] at this
            rw [this, ← hj]
            simp only [List.getD_eq_getElem?_getD, List.getElem?_eq_getElem hjs, Option.getD_some]
          · simp at hj
        · rw [strs_bulk (H := H)]
          simp only [Rows.uptoBulk]
          omega
    subst hd5 hd6
    refine ⟨.mk k b s.data.toList i hh ls ns, ?_, ?_⟩
    · simp only [ValIs]
      refine ⟨_, _, ?_, ⟨p5, c5, rfl, hk5, fun h => by obtain ⟨g, o, h1, h2, h3⟩ := hs5 h; exact ⟨g, o, h1, h2, h3⟩⟩, ⟨p6, c6, rfl, hk6, fun h => by obtain ⟨g, o, h1, h2, h3⟩ := hs6 h; exact ⟨g, o, h1, h2, h3⟩⟩⟩
      simp [vcells]
    · simp only [wt, List.map_cons, List.map_nil, Rows.uptoBulk, Rows.uptoBulkAll]
      omega
end Go.Proofs.YtkoeihliaandeaaGreatDoor
/- The document's answers: what is laid of every value. -/
namespace Go.Proofs.YtkoeihliaandeaaGreatDoor
open Go.RowKit

mutual
/-- What may be laid: every kind as it is asked, and nothing too long. -/
def PG : JV → Prop
  | .mk k _ t _ _ ls ns => (k = 1 ∨ k = 2 ∨ k = 3 ∨ (k = 4 ∧ Lib.validD t = true) ∨ k = 5 ∨ (k = 6 ∧ ns.length = ls.length ∧ ns.all Lib.validD = true)) ∧ t.length ≤ 1048576 ∧ ls.length ≤ 1048576 ∧ (∀ z ∈ ns, z.length ≤ 1048576) ∧ PGL ls
def PGL : List JV → Prop
  | [] => True
  | x :: xs => PG x ∧ PGL xs
end
theorem pgL_iff : ∀ ls : List JV, PGL ls ↔ ∀ x ∈ ls, PG x
  | [] => by simp [PGL]
  | x :: xs => by simp [PGL, pgL_iff xs]
mutual
theorem pg_of : ∀ t : JV, fault t = 0 → wt t ≤ 1048576 → PG t
  | .mk k b t n hh ls ns, h, hw => by
    obtain ⟨h1, _, h3⟩ := fault_zero h
    simp only [wt] at hw
    have w1 := wtL_len ls
    obtain ⟨w2, w3⟩ := wtN_len ns
    simp only [PG, pgL_iff]
    refine ⟨?_, by omega, by omega, fun z hz => by have := w3 z hz; omega, pgs_of ls h3 (by omega)⟩
    rcases formed_cases h1 with e | e | ⟨_, e, _⟩ | ⟨e2, e⟩ | e | ⟨e1, e2, e⟩
    · simp only [JV.mk.injEq] at e; exact .inl e.1
    · simp only [JV.mk.injEq] at e; exact .inr (.inl e.1)
    · exact .inr (.inr (.inl e))
    · simp only [JV.mk.injEq] at e; exact .inr (.inr (.inr (.inl ⟨e.1, e2⟩)))
    · simp only [JV.mk.injEq] at e; exact .inr (.inr (.inr (.inr (.inl e.1))))
    · simp only [JV.mk.injEq] at e; exact .inr (.inr (.inr (.inr (.inr ⟨e.1, e1, e2⟩))))
theorem pgs_of : ∀ ls : List JV, (∀ x ∈ ls, fault x = 0) → wtL ls ≤ 1048576 → ∀ x ∈ ls, PG x
  | [], _, _, x, h => by simp at h
  | y :: ys, hf, hw, x, h => by
    simp only [wtL] at hw
    simp only [List.mem_cons] at h
    rcases h with rfl | h
    · exact pg_of x (hf x (by simp)) (by omega)
    · exact pgs_of ys (fun z hz => hf z (by simp [hz])) (by omega) x h
end
/-- put lays the value. -/
def PutOk (t : JV) : Prop := ∀ (w : World) (N : Nat) (v : Value) (acc : B) (cs : List Value), N ≤ w.heap.size → Own w N v acc → ValB w N t cs → acc.length + (printV t).length ≤ 70368744177664 → Calls Tryz.prog 23 #[v, .agg cs.toArray] w fun e w' => ToldPut N acc (printV t) w e w'
theorem cell_kf {N g o : Nat} {U V : World} {v : Value} (hk : KF N U V) (hg : g < N) (h : U.cell? ⟨g, o, none⟩ = some v) : V.cell? ⟨g, o, none⟩ = some v := (cell_block (hk.below.block g hg)).trans h
theorem row_kf {N g o : Nat} {U V : World} {c0 c1 c2 c3 c4 c5 c6 : Value} (hk : KF N U V) (hg : g < N) (h : Row7 U g o c0 c1 c2 c3 c4 c5 c6) : Row7 V g o c0 c1 c2 c3 c4 c5 c6 :=
  ⟨cell_kf hk hg h.a0, cell_kf hk hg h.a1, cell_kf hk hg h.a2, cell_kf hk hg h.a3, cell_kf hk hg h.a4, cell_kf hk hg h.a5, cell_kf hk hg h.a6⟩
theorem box_kf {N g : Nat} {U V : World} {c0 c1 c2 c3 c4 c5 c6 : Value} (hk : KF N U V) (h : U.heap[g]? = some (.cells #[c0, c1, c2, c3, c4, c5, c6] 25 (0, 0))) : V.heap[g]? = some (.cells #[c0, c1, c2, c3, c4, c5, c6] 25 (0, 0)) := hk.typed g _ 25 (0, 0) (by decide) h
theorem kf_size {N : Nat} {U V : World} (hk : KF N U V) (hN : N ≤ U.heap.size) : N ≤ V.heap.size := Nat.le_trans hN hk.below.size
/-- One byte is appended. -/
theorem wp_byte {ops : Array Oper} {rest : List Oper} {o : Oper} {a : Act} {Q : Exit → Act → World → Prop} {w : World} {N p0 : Nat} {p : Option Addr} {L c0 : Nat} {acc : B} (b : UInt8) (hgd : o.guard = none) (s x : Operand)
    (ho : o.op = .call { callee := .builtin .append, args := #[s, x], argTypes := #[55, 55] }) (hp : p0 = b.toNat) (hN : N ≤ w.heap.size) (hO : Own w N (.slice p L c0) acc) (hlen : acc.length + 1 ≤ 70368744177664) (hs : a.eval s = .slice p L c0) (hx : a.eval x = .slice (some ⟨w.heap.size, 0, none⟩) 1 1)
    (h : ∀ p' L' c' w', Own w' N (.slice p' L' c') (acc ++ [b]) → KF N w w' → wpList Tryz.prog ops Q rest (a.put o.dst (.slice p' L' c')) w') : wpList Tryz.prog ops Q (o :: rest) a (w.alloc (.cells #[.int .u8 (p0 : Int)] 5 (0, 0))) := by
  subst hp
  obtain ⟨i0, hi0, hz0, hz1, hz2⟩ := info_parts infoB
  have hL := put_len hO
  have hO1 := hO.alloc (.cells #[.int .u8 (b.toNat : Int)] 5 (0, 0))
  have hO2 := hO1
  unfold Own at hO1
  refine wpList_append_own_at _ hgd s x 55 ho N 5 i0 _ 1 1 Tryz.underlying55 hi0 hz0 hz1 hz2 rfl (by decide) (.slice p L c0) acc.length (Lib.byteCells acc) hs hO1 ⟨w.heap.size, 0, none⟩ 1 1 [.int .u8 (b.toNat : Int)] hx rfl (cells_new w _ _) (by simp [Value.oneCell']) (by unfold maxLen; omega) (by omega) (Nat.le_trans hN (below_new _ _).size) ?_
  intro v' w' hown hgr _ _
  have hW : Own w' N v' (acc ++ [b]) := Own.put (bs := [b]) hown (by simp [Lib.byteCells]) rfl
  obtain ⟨p7, L7, c7, rfl⟩ := own_slice3 hown
  exact h p7 L7 c7 w' hW ((KF.of_below (below_new w _) hN).trans (KF.grown hO2 (Nat.le_trans hN (below_new _ _).size) hgr))
/-- A text is appended. -/
theorem wp_text {ops : Array Oper} {rest : List Oper} {o : Oper} {a : Act} {Q : Exit → Act → World → Prop} {w : World} {N : Nat} {p : Option Addr} {L c0 : Nat} {acc : B} (tx : B) (hgd : o.guard = none) (s x : Operand)
    (ho : o.op = .call { callee := .builtin .append, args := #[s, x], argTypes := #[55, 9] }) (hN : N ≤ w.heap.size) (hO : Own w N (.slice p L c0) acc) (hlen : acc.length + tx.length ≤ 70368744177664) (hs : a.eval s = .slice p L c0) (hx : a.eval x = .string (str tx))
    (h : ∀ p' L' c' w', Own w' N (.slice p' L' c') (acc ++ tx) → KF N w w' → wpList Tryz.prog ops Q rest (a.put o.dst (.slice p' L' c')) w') : wpList Tryz.prog ops Q (o :: rest) a w := by
  obtain ⟨i0, hi0, hz0, hz1, hz2⟩ := info_parts infoB
  have hO1 := hO
  unfold Own at hO1
  have hsz : (str tx).size = tx.length := str_size tx
  refine Lib.wpList_append_own_string w hgd s x 55 9 ho N 5 i0 Tryz.underlying55 Tryz.underlying9 hi0 hz0 hz1 hz2 (.slice p L c0) acc.length (Lib.byteCells acc) hs hO1 (str tx) hx (by unfold maxLen; omega) (by omega) hN ?_
  intro v' w' hown hgr _
  have hW : Own w' N v' (acc ++ tx) := Own.put (bs := tx) hown (by rw [strCells_str]) hsz.symm
  obtain ⟨p7, L7, c7, rfl⟩ := own_slice3 hown
  exact h p7 L7 c7 w' hW (KF.grown hO hN hgr)
set_option maxRecDepth 20000 in
set_option maxHeartbeats 8000000 in
theorem rput5 (b0 : Bool) (tx : B) (n : Int) (hh : Bool) (ls : List JV) (ns : List B) (hS : ∀ x ∈ ls, PutOk x) (hg : PG (.mk 5 b0 tx n hh ls ns)) : PutOk (.mk 5 b0 tx n hh ls ns) := by
  intro w N v acc cs hN ho hv hlen
  have eP : printV (.mk 5 b0 tx n hh ls ns) = [91] ++ (printL false true ls ns ++ [93]) := by simp [printV]
  by_cases hstop : 1048576 < acc.length
  · exact rput_stop _ w N v acc cs (hv.on hN) hN ho hstop
  rw [eP] at hlen ⊢
  obtain ⟨T, hT⟩ : ∃ T, [91] ++ (printL false true ls ns ++ [93]) = T := ⟨_, rfl⟩
  rw [hT] at hlen ⊢
  have HT := hid hT
  obtain ⟨p, L, c0, rfl⟩ := own_slice3 ho
  have hL := put_len ho
  obtain ⟨p1, c1, p2, c2, rfl, hp1, hp2⟩ := hv.open
  simp only [PG, pgL_iff] at hg
  obtain ⟨n1, e1⟩ : ∃ n1, ls.length = n1 := ⟨_, rfl⟩
  obtain ⟨n2, e2⟩ : ∃ n2, ns.length = n2 := ⟨_, rfl⟩
  have hn1 : n1 ≤ 1048576 := by rw [← e1]; exact hg.2.2.1
  have HN1 := hid e1
  have HN2 := hid e2
  have HGd := hid hg
  have HSO := hid hS
  rw [e1, e2]
  have d1 : decide ((1048576 : Int) < (L : Int)) = false := by rw [decide_eq_false_iff_not]; omega
  have HN := hid hN
  have HLen := hid (show acc.length + (1 + ((printL false true ls ns).length + 1)) ≤ 70368744177664 from by have := hlen; rw [← hT] at this; simp only [List.length_append, List.length_cons, List.length_nil] at this; omega)
  obtain ⟨W0, hW0⟩ : ∃ W0, W0 = w.alloc (C7 5 b0 tx n hh p1 n1 c1 p2 n2 c2) := ⟨_, rfl⟩
  have HW0 := hid hW0
  have HK0 := hid (show KF N w W0 from by rw [hW0]; exact KF.of_below (below_new _ _) hN)
  have HX0 := hid (show W0.heap[w.heap.size]? = some (C7 5 b0 tx n hh p1 n1 c1 p2 n2 c2) from by rw [hW0]; exact heap_alloc_new _ _)
  have HSz0 := hid (show w.heap.size + 1 = W0.heap.size from by rw [hW0]; simp)
  have HO0 := hid (show Own W0 N (.slice p L c0) acc from by rw [hW0]; exact ho.alloc _)
  have HP0 := hid (hp1.below HK0.out.below)
  have HNm0 := hid (hp2.below HK0.out.below)
  clear hS hg hN ho hv hlen hT hL hp1 hp2 e1 e2 eP hW0 hstop
  go_enter Tryz.func23, Tryz.ntmps23
  go_wp2_with (at_builtin; rw [← HW0.out]; refine wp_byte 91 rfl (.tmp 49) (.tmp 52) rfl rfl (kf_size HK0.out HN.out) HO0.out (by have := HLen.out; omega) (by go_simp) (by go_simp; exact HSz0.out) ?_; intro pA LA cA wA hOA hKA; have HOA := hid hOA; have HKA := hid hKA; clear hOA hKA)
  go_loopg [0, 8] (n1 + 1) (fun gk s0 s8 wr => ∃ (i : Nat) (ai : B), i ≤ n1 ∧ gk = n1 - i + 1 ∧ s8 = .int .i64 (i : Int) ∧ Own wr N s0 ai ∧ KF N W0 wr ∧ (∀ a', PT ai (printL false (decide (i = 0)) (ls.drop i) (ns.drop i) ++ [93]) a' → PT acc T a') ∧ ai.length + ((printL false (decide (i = 0)) (ls.drop i) (ns.drop i)).length + 1) ≤ 70368744177664)
  case atStart => exact ⟨0, acc ++ [91], by omega, rfl, rfl, HOA.out, HKA.out, fun a' q => by rw [← HT.out]; exact (PT.all acc [91]).trans q, by have := HLen.out; simp only [List.length_append, List.length_cons, List.length_nil]; show acc.length + (0 + 1) + ((printL false true ls ns).length + 1) ≤ _; omega⟩
  case round =>
    obtain ⟨i, ai, hi, rfl, rfl, hor, hkr, hpr, hlr⟩ := hrel
    obtain ⟨pr, Lr, cr, rfl⟩ := own_slice3 hor
    have HOr := hid hor
    have HKr := hid hkr
    have HPr := hid hpr
    have HLr := hid hlr
    have HXr := hid (box_kf hkr HX0.out)
    obtain ⟨bx0, bx1, bx2, bx3, bx4, bx5, bx6, _⟩ := seven HXr.out
    have HNr := hid (kf_size hkr (kf_size HK0.out HN.out))
    clear hor hkr hpr hlr
    by_cases hin : i < n1
    · have hi1 : i < ls.length := by rw [HN1.out]; exact hin
      obtain ⟨g, oo, cs, rfl, hgN, hv1, hc1⟩ := HP0.out.below HKr.out.below i ls[i] (List.getElem?_eq_getElem hi1)
      have HC := hid (HSO.out ls[i] (List.getElem_mem hi1))
      have hnd : (ns.drop i).tail = ns.drop (i + 1) := by simp
      have HStep := hid (show printL false (decide (i = 0)) (ls.drop i) (ns.drop i) = (if decide (i = 0) then [] else [44]) ++ (printV ls[i] ++ printL false false (ls.drop (i + 1)) (ns.drop (i + 1))) from by rw [drop_get hi1, printL_cons, hnd]; rfl)
      clear hnd
      obtain ⟨x, hx⟩ : ∃ x, ls[i] = x := ⟨_, rfl⟩
      rw [hx] at hv1 HC HStep
      obtain ⟨k1, k2, k3, k4, k5, k6, k7, k8, k9, k10, k11, rfl⟩ := (hv1.on HNr.out).form
      have HPg := hid hgN
      have HRow := hid (row7 hc1)
      have HV := hid hv1
      obtain ⟨ro0, ro1, ro2, ro3, ro4, ro5, ro6⟩ := HRow.out
      clear hc1 hv1 hx hi1 hgN
      obtain ⟨rest, hrest⟩ : ∃ rest, printL false false (ls.drop (i + 1)) (ns.drop (i + 1)) = rest := ⟨_, rfl⟩
      rw [hrest] at HStep
      have HRest := hid hrest
      clear hrest
      by_cases h0 : i = 0
      · subst h0
        simp only [Nat.zero_mul, Nat.add_zero] at ro0 ro1 ro2 ro3 ro4 ro5 ro6 HRow
        have HS2 := hid (show printL false (decide (0 = 0)) (ls.drop 0) (ns.drop 0) ++ [93] = printV x ++ (rest ++ [93]) from by rw [HStep.out]; simp)
        have HLn := hid (show ai.length + ((printV x).length + (rest.length + 1)) ≤ 70368744177664 from by have q := HLr.out; rw [HStep.out] at q; simp at q; omega)
        go_wp2_with (first
          | (go_at_call 23; have hcall := HC.out wr N _ ai _ HNr.out HOr.out HV.out (by have := HLn.out; (try simp); omega); (with_reducible refine hcall.mono ?_); clear hcall; rintro e wZ ⟨vZ, aZ, rfl, hpz, hoz, hkz⟩; obtain ⟨pZ, LZ, cZ, rfl⟩ := own_slice3 hoz; have HOZ := hid hoz; have HPZ := hid hpz; have HKZ := hid (HKr.out.trans hkz); clear hpz hoz hkz))
        go_roundg (n1 - (0 + 1) + 1)
        case measure => omega
        case rel =>
          refine ⟨0 + 1, aZ, by omega, rfl, by push_cast; rfl, HOZ.out, HKZ.out, fun a' q => HPr.out _ (by rw [HS2.out]; exact HPZ.out.trans (show PT aZ (rest ++ [93]) a' from by rw [← HRest.out]; exact q)), ?_⟩
          show aZ.length + ((printL false false (ls.drop (0 + 1)) (ns.drop (0 + 1))).length + 1) ≤ _
          rw [HRest.out]
          have h4 := HPZ.out.2.2.2
          have h5 := HLn.out
          (try simp at h4)
          omega
      · have hpos : 0 < i := by omega
        have HS2 := hid (show printL false (decide (i = 0)) (ls.drop i) (ns.drop i) ++ [93] = [44] ++ (printV x ++ (rest ++ [93])) from by rw [HStep.out]; simp [show ¬ i = 0 by omega])
        have HLn := hid (show ai.length + (1 + (printV x).length + (rest.length + 1)) ≤ 70368744177664 from by have q := HLr.out; rw [HStep.out] at q; simp [show ¬ i = 0 by omega] at q; omega)
        go_wp2_with (first
          | (at_builtin; refine wp_byte 44 rfl (.tmp 63) (.tmp 64) rfl rfl HNr.out HOr.out (by have := HLn.out; omega) (by go_simp) (by go_simp) ?_; intro pB LB cB wB hOB hKB; have HOB := hid hOB; have HKB := hid hKB; have HNB := hid (kf_size hKB HNr.out); have HXB := hid (box_kf HKB.out HXr.out); obtain ⟨bxB0, bxB1, bxB2, bxB3, bxB4, bxB5, bxB6, _⟩ := seven HXB.out; have HRB := hid (row_kf HKB.out HPg.out HRow.out); obtain ⟨roB0, roB1, roB2, roB3, roB4, roB5, roB6⟩ := HRB.out; clear hOB hKB)
          | (go_at_call 23; have hcall := HC.out wB N _ (ai ++ [44]) _ HNB.out HOB.out (HV.out.below HKB.out.below) (by have := HLn.out; (try simp); omega); (with_reducible refine hcall.mono ?_); clear hcall; rintro e wZ ⟨vZ, aZ, rfl, hpz, hoz, hkz⟩; obtain ⟨pZ, LZ, cZ, rfl⟩ := own_slice3 hoz; have HOZ := hid hoz; have HPZ := hid hpz; have HKZ := hid (HKr.out.trans (HKB.out.trans hkz)); clear hpz hoz hkz))
        go_roundg (n1 - (i + 1) + 1)
        case measure => omega
        case rel =>
          refine ⟨i + 1, aZ, by omega, rfl, by push_cast; rfl, HOZ.out, HKZ.out, fun a' q => HPr.out _ (by rw [HS2.out]; exact (PT.all ai ([44])).trans (HPZ.out.trans (show PT aZ (rest ++ [93]) a' from by rw [← HRest.out]; exact q))), ?_⟩
          show aZ.length + ((printL false false (ls.drop (i + 1)) (ns.drop (i + 1))).length + 1) ≤ _
          rw [HRest.out]
          have h4 := HPZ.out.2.2.2
          have h5 := HLn.out
          (try simp at h4)
          omega
    · obtain rfl : i = n1 := by omega
      have e1 : ls.drop i = [] := List.drop_of_length_le (by rw [HN1.out]; exact Nat.le_refl _)
      rw [e1] at HPr HLr
      simp only [printL, List.nil_append, List.length_nil] at HPr HLr
      clear e1
      go_wp2_with (at_builtin; refine wp_byte 93 rfl (.tmp 91) (.tmp 94) rfl rfl HNr.out HOr.out (by have := HLr.out; omega) (by go_simp) (by go_simp) ?_; intro pB LB cB wB hOB hKB; have HOB := hid hOB; have HKB := hid (HK0.out.trans (HKr.out.trans hKB)); clear hOB hKB)
      go_ret
      exact ⟨_, _, rfl, HPr.out _ (PT.all ai [93]), HOB.out, HKB.out⟩
set_option maxRecDepth 20000 in
set_option maxHeartbeats 8000000 in
theorem rput6 (b0 : Bool) (tx : B) (n : Int) (hh : Bool) (ls : List JV) (ns : List B) (hS : ∀ x ∈ ls, PutOk x) (hg : PG (.mk 6 b0 tx n hh ls ns)) : PutOk (.mk 6 b0 tx n hh ls ns) := by
  intro w N v acc cs hN ho hv hlen
  have eP : printV (.mk 6 b0 tx n hh ls ns) = [123] ++ (printL true true ls ns ++ [125]) := by simp [printV]
  by_cases hstop : 1048576 < acc.length
  · exact rput_stop _ w N v acc cs (hv.on hN) hN ho hstop
  rw [eP] at hlen ⊢
  obtain ⟨T, hT⟩ : ∃ T, [123] ++ (printL true true ls ns ++ [125]) = T := ⟨_, rfl⟩
  rw [hT] at hlen ⊢
  have HT := hid hT
  obtain ⟨p, L, c0, rfl⟩ := own_slice3 ho
  have hL := put_len ho
  obtain ⟨p1, c1, p2, c2, rfl, hp1, hp2⟩ := hv.open
  simp only [PG, pgL_iff] at hg
  obtain ⟨n1, e1⟩ : ∃ n1, ls.length = n1 := ⟨_, rfl⟩
  obtain ⟨n2, e2⟩ : ∃ n2, ns.length = n2 := ⟨_, rfl⟩
  have hn1 : n1 ≤ 1048576 := by rw [← e1]; exact hg.2.2.1
  have HN1 := hid e1
  have HN2 := hid e2
  have HGd := hid hg
  have HSO := hid hS
  rw [e1, e2]
  have d1 : decide ((1048576 : Int) < (L : Int)) = false := by rw [decide_eq_false_iff_not]; omega
  have HN := hid hN
  have HLen := hid (show acc.length + (1 + ((printL true true ls ns).length + 1)) ≤ 70368744177664 from by have := hlen; rw [← hT] at this; simp only [List.length_append, List.length_cons, List.length_nil] at this; omega)
  obtain ⟨W0, hW0⟩ : ∃ W0, W0 = w.alloc (C7 6 b0 tx n hh p1 n1 c1 p2 n2 c2) := ⟨_, rfl⟩
  have HW0 := hid hW0
  have HK0 := hid (show KF N w W0 from by rw [hW0]; exact KF.of_below (below_new _ _) hN)
  have HX0 := hid (show W0.heap[w.heap.size]? = some (C7 6 b0 tx n hh p1 n1 c1 p2 n2 c2) from by rw [hW0]; exact heap_alloc_new _ _)
  have HSz0 := hid (show w.heap.size + 1 = W0.heap.size from by rw [hW0]; simp)
  have HO0 := hid (show Own W0 N (.slice p L c0) acc from by rw [hW0]; exact ho.alloc _)
  have HP0 := hid (hp1.below HK0.out.below)
  have HNm0 := hid (hp2.below HK0.out.below)
  clear hS hg hN ho hv hlen hT hL hp1 hp2 e1 e2 eP hW0 hstop
  go_enter Tryz.func23, Tryz.ntmps23
  go_wp2_with (at_builtin; rw [← HW0.out]; refine wp_byte 123 rfl (.tmp 49) (.tmp 52) rfl rfl (kf_size HK0.out HN.out) HO0.out (by have := HLen.out; omega) (by go_simp) (by go_simp; exact HSz0.out) ?_; intro pA LA cA wA hOA hKA; have HOA := hid hOA; have HKA := hid hKA; clear hOA hKA)
  go_loopg [0, 8] (n1 + 1) (fun gk s0 s8 wr => ∃ (i : Nat) (ai : B), i ≤ n1 ∧ gk = n1 - i + 1 ∧ s8 = .int .i64 (i : Int) ∧ Own wr N s0 ai ∧ KF N W0 wr ∧ (∀ a', PT ai (printL true (decide (i = 0)) (ls.drop i) (ns.drop i) ++ [125]) a' → PT acc T a') ∧ ai.length + ((printL true (decide (i = 0)) (ls.drop i) (ns.drop i)).length + 1) ≤ 70368744177664)
  case atStart => exact ⟨0, acc ++ [123], by omega, rfl, rfl, HOA.out, HKA.out, fun a' q => by rw [← HT.out]; exact (PT.all acc [123]).trans q, by have := HLen.out; simp only [List.length_append, List.length_cons, List.length_nil]; show acc.length + (0 + 1) + ((printL true true ls ns).length + 1) ≤ _; omega⟩
  case round =>
    obtain ⟨i, ai, hi, rfl, rfl, hor, hkr, hpr, hlr⟩ := hrel
    obtain ⟨pr, Lr, cr, rfl⟩ := own_slice3 hor
    have HOr := hid hor
    have HKr := hid hkr
    have HPr := hid hpr
    have HLr := hid hlr
    have HXr := hid (box_kf hkr HX0.out)
    obtain ⟨bx0, bx1, bx2, bx3, bx4, bx5, bx6, _⟩ := seven HXr.out
    have HNr := hid (kf_size hkr (kf_size HK0.out HN.out))
    clear hor hkr hpr hlr
    by_cases hin : i < n1
    · have hi1 : i < ls.length := by rw [HN1.out]; exact hin
      obtain ⟨g, oo, cs, rfl, hgN, hv1, hc1⟩ := HP0.out.below HKr.out.below i ls[i] (List.getElem?_eq_getElem hi1)
      have HC := hid (HSO.out ls[i] (List.getElem_mem hi1))
      have hi2 : i < ns.length := by rw [show ns.length = ls.length from by rcases HGd.out.1 with e | e | e | e | e | e; all_goals first | exact e.2.1 | (exfalso; revert e; simp)]; exact hi1
      have hin2 : i < n2 := by rw [← HN2.out]; exact hi2
      obtain ⟨g2, o2, rfl, hg2, hnc⟩ := HNm0.out.below HKr.out.below i ns[i] (List.getElem?_eq_getElem hi2)
      have HNl := hid (HGd.out.2.2.2.1 ns[i] (List.getElem_mem hi2))
      have HNv := hid (show Lib.validD ns[i] = true from by
        have hall : ns.all Lib.validD = true := by rcases HGd.out.1 with e | e | e | e | e | e; all_goals first | exact e.2.2 | (exfalso; revert e; simp)
        exact List.all_eq_true.1 hall _ (List.getElem_mem hi2))
      obtain ⟨nm, hnm⟩ : ∃ nm, ns[i] = nm := ⟨_, rfl⟩
      have hnd : ns.drop i = nm :: ns.drop (i + 1) := by rw [drop_get hi2, hnm]
      rw [hnm] at hnc HNl HNv
      have HG2 := hid hg2
      have HNc := hid hnc
      have HQu := hid (refQuote_any nm (by have := HNl.out; omega))
      rw [show quoteS nm = (quoteB nm, 0) from by unfold quoteS; rw [HNv.out]; rfl] at HQu
      have HStep := hid (show printL true (decide (i = 0)) (ls.drop i) (ns.drop i) = (if decide (i = 0) then [] else [44]) ++ ((quoteB nm ++ [58]) ++ (printV ls[i] ++ printL true false (ls.drop (i + 1)) (ns.drop (i + 1)))) from by rw [drop_get hi1, hnd, printL_cons]; rfl)
      clear hnm hnd hi2 hg2
      obtain ⟨x, hx⟩ : ∃ x, ls[i] = x := ⟨_, rfl⟩
      rw [hx] at hv1 HC HStep
      obtain ⟨k1, k2, k3, k4, k5, k6, k7, k8, k9, k10, k11, rfl⟩ := (hv1.on HNr.out).form
      have HPg := hid hgN
      have HRow := hid (row7 hc1)
      have HV := hid hv1
      obtain ⟨ro0, ro1, ro2, ro3, ro4, ro5, ro6⟩ := HRow.out
      clear hc1 hv1 hx hi1 hgN
      obtain ⟨rest, hrest⟩ : ∃ rest, printL true false (ls.drop (i + 1)) (ns.drop (i + 1)) = rest := ⟨_, rfl⟩
      rw [hrest] at HStep
      have HRest := hid hrest
      clear hrest
      by_cases h0 : i = 0
      · subst h0
        simp only [Nat.zero_mul, Nat.add_zero] at ro0 ro1 ro2 ro3 ro4 ro5 ro6 HRow hnc HNc
        have HS2 := hid (show printL true (decide (0 = 0)) (ls.drop 0) (ns.drop 0) ++ [125] = quoteB nm ++ ([58] ++ (printV x ++ (rest ++ [125]))) from by rw [HStep.out]; simp)
        have HLn := hid (show ai.length + ((quoteB nm).length + 1 + (printV x).length + (rest.length + 1)) ≤ 70368744177664 from by have q := HLr.out; rw [HStep.out] at q; simp at q; omega)
        go_wp2_with (first
          | (go_at_call 42; (with_reducible refine (HQu.out wr).mono ?_); rintro e wC ⟨rfl, hb⟩; have HOC := hid (own_keep HOr.out hb); have HKC := hid (KF.of_below hb HNr.out); have HNC := hid (kf_size HKC.out HNr.out); have HXC := hid (box_kf HKC.out HXr.out); obtain ⟨bxC0, bxC1, bxC2, bxC3, bxC4, bxC5, bxC6, _⟩ := seven HXC.out; have HRC := hid (row_kf HKC.out HPg.out HRow.out); obtain ⟨roC0, roC1, roC2, roC3, roC4, roC5, roC6⟩ := HRC.out; have nmC := cell_kf HKC.out HG2.out HNc.out; clear hb)
          | (at_builtin; refine wp_text (quoteB nm) rfl (.tmp 78) (.tmp 79) rfl HNC.out HOC.out (by have := HLn.out; (try simp); omega) (by go_simp) (by go_simp) ?_; intro pD LD cD wD hOD hKD; have HOD := hid hOD; have HKD := hid (HKC.out.trans hKD); have HND := hid (kf_size HKD.out HNr.out); have HXD := hid (box_kf HKD.out HXr.out); obtain ⟨bxD0, bxD1, bxD2, bxD3, bxD4, bxD5, bxD6, _⟩ := seven HXD.out; have HRD := hid (row_kf HKD.out HPg.out HRow.out); obtain ⟨roD0, roD1, roD2, roD3, roD4, roD5, roD6⟩ := HRD.out; have nmD := cell_kf HKD.out HG2.out HNc.out; clear hOD hKD)
          | (at_builtin; refine wp_byte 58 rfl (.tmp 81) (.tmp 82) rfl rfl HND.out HOD.out (by have := HLn.out; (try simp); omega) (by go_simp) (by go_simp) ?_; intro pE LE cE wE hOE hKE; have HOE := hid hOE; have HKE := hid (HKD.out.trans hKE); have HNE := hid (kf_size HKE.out HNr.out); have HXE := hid (box_kf HKE.out HXr.out); obtain ⟨bxE0, bxE1, bxE2, bxE3, bxE4, bxE5, bxE6, _⟩ := seven HXE.out; have HRE := hid (row_kf HKE.out HPg.out HRow.out); obtain ⟨roE0, roE1, roE2, roE3, roE4, roE5, roE6⟩ := HRE.out; have nmE := cell_kf HKE.out HG2.out HNc.out; clear hOE hKE)
          | (go_at_call 23; have hcall := HC.out wE N _ ((ai ++ quoteB nm) ++ [58]) _ HNE.out HOE.out (HV.out.below HKE.out.below) (by have := HLn.out; (try simp); omega); (with_reducible refine hcall.mono ?_); clear hcall; rintro e wZ ⟨vZ, aZ, rfl, hpz, hoz, hkz⟩; obtain ⟨pZ, LZ, cZ, rfl⟩ := own_slice3 hoz; have HOZ := hid hoz; have HPZ := hid hpz; have HKZ := hid (HKr.out.trans (HKE.out.trans hkz)); clear hpz hoz hkz))
        go_roundg (n1 - (0 + 1) + 1)
        case measure => omega
        case rel =>
          refine ⟨0 + 1, aZ, by omega, rfl, by push_cast; rfl, HOZ.out, HKZ.out, fun a' q => HPr.out _ (by rw [HS2.out]; exact (PT.all ai (quoteB nm)).trans ((PT.all (ai ++ quoteB nm) ([58])).trans (HPZ.out.trans (show PT aZ (rest ++ [125]) a' from by rw [← HRest.out]; exact q)))), ?_⟩
          show aZ.length + ((printL true false (ls.drop (0 + 1)) (ns.drop (0 + 1))).length + 1) ≤ _
          rw [HRest.out]
          have h4 := HPZ.out.2.2.2
          have h5 := HLn.out
          (try simp at h4)
          omega
      · have hpos : 0 < i := by omega
        have HS2 := hid (show printL true (decide (i = 0)) (ls.drop i) (ns.drop i) ++ [125] = [44] ++ (quoteB nm ++ ([58] ++ (printV x ++ (rest ++ [125])))) from by rw [HStep.out]; simp [show ¬ i = 0 by omega])
        have HLn := hid (show ai.length + (1 + (quoteB nm).length + 1 + (printV x).length + (rest.length + 1)) ≤ 70368744177664 from by have q := HLr.out; rw [HStep.out] at q; simp [show ¬ i = 0 by omega] at q; omega)
        go_wp2_with (first
          | (at_builtin; refine wp_byte 44 rfl (.tmp 63) (.tmp 64) rfl rfl HNr.out HOr.out (by have := HLn.out; omega) (by go_simp) (by go_simp) ?_; intro pB LB cB wB hOB hKB; have HOB := hid hOB; have HKB := hid hKB; have HNB := hid (kf_size hKB HNr.out); have HXB := hid (box_kf HKB.out HXr.out); obtain ⟨bxB0, bxB1, bxB2, bxB3, bxB4, bxB5, bxB6, _⟩ := seven HXB.out; have HRB := hid (row_kf HKB.out HPg.out HRow.out); obtain ⟨roB0, roB1, roB2, roB3, roB4, roB5, roB6⟩ := HRB.out; have nmB := cell_kf HKB.out HG2.out HNc.out; clear hOB hKB)
          | (go_at_call 42; (with_reducible refine (HQu.out wB).mono ?_); rintro e wC ⟨rfl, hb⟩; have HOC := hid (own_keep HOB.out hb); have HKC := hid (HKB.out.trans (KF.of_below hb HNB.out)); have HNC := hid (kf_size HKC.out HNr.out); have HXC := hid (box_kf HKC.out HXr.out); obtain ⟨bxC0, bxC1, bxC2, bxC3, bxC4, bxC5, bxC6, _⟩ := seven HXC.out; have HRC := hid (row_kf HKC.out HPg.out HRow.out); obtain ⟨roC0, roC1, roC2, roC3, roC4, roC5, roC6⟩ := HRC.out; have nmC := cell_kf HKC.out HG2.out HNc.out; clear hb)
          | (at_builtin; refine wp_text (quoteB nm) rfl (.tmp 78) (.tmp 79) rfl HNC.out HOC.out (by have := HLn.out; (try simp); omega) (by go_simp) (by go_simp) ?_; intro pD LD cD wD hOD hKD; have HOD := hid hOD; have HKD := hid (HKC.out.trans hKD); have HND := hid (kf_size HKD.out HNr.out); have HXD := hid (box_kf HKD.out HXr.out); obtain ⟨bxD0, bxD1, bxD2, bxD3, bxD4, bxD5, bxD6, _⟩ := seven HXD.out; have HRD := hid (row_kf HKD.out HPg.out HRow.out); obtain ⟨roD0, roD1, roD2, roD3, roD4, roD5, roD6⟩ := HRD.out; have nmD := cell_kf HKD.out HG2.out HNc.out; clear hOD hKD)
          | (at_builtin; refine wp_byte 58 rfl (.tmp 81) (.tmp 82) rfl rfl HND.out HOD.out (by have := HLn.out; (try simp); omega) (by go_simp) (by go_simp) ?_; intro pE LE cE wE hOE hKE; have HOE := hid hOE; have HKE := hid (HKD.out.trans hKE); have HNE := hid (kf_size HKE.out HNr.out); have HXE := hid (box_kf HKE.out HXr.out); obtain ⟨bxE0, bxE1, bxE2, bxE3, bxE4, bxE5, bxE6, _⟩ := seven HXE.out; have HRE := hid (row_kf HKE.out HPg.out HRow.out); obtain ⟨roE0, roE1, roE2, roE3, roE4, roE5, roE6⟩ := HRE.out; have nmE := cell_kf HKE.out HG2.out HNc.out; clear hOE hKE)
          | (go_at_call 23; have hcall := HC.out wE N _ (((ai ++ [44]) ++ quoteB nm) ++ [58]) _ HNE.out HOE.out (HV.out.below HKE.out.below) (by have := HLn.out; (try simp); omega); (with_reducible refine hcall.mono ?_); clear hcall; rintro e wZ ⟨vZ, aZ, rfl, hpz, hoz, hkz⟩; obtain ⟨pZ, LZ, cZ, rfl⟩ := own_slice3 hoz; have HOZ := hid hoz; have HPZ := hid hpz; have HKZ := hid (HKr.out.trans (HKE.out.trans hkz)); clear hpz hoz hkz))
        go_roundg (n1 - (i + 1) + 1)
        case measure => omega
        case rel =>
          refine ⟨i + 1, aZ, by omega, rfl, by push_cast; rfl, HOZ.out, HKZ.out, fun a' q => HPr.out _ (by rw [HS2.out]; exact (PT.all ai ([44])).trans ((PT.all (ai ++ [44]) (quoteB nm)).trans ((PT.all ((ai ++ [44]) ++ quoteB nm) ([58])).trans (HPZ.out.trans (show PT aZ (rest ++ [125]) a' from by rw [← HRest.out]; exact q))))), ?_⟩
          show aZ.length + ((printL true false (ls.drop (i + 1)) (ns.drop (i + 1))).length + 1) ≤ _
          rw [HRest.out]
          have h4 := HPZ.out.2.2.2
          have h5 := HLn.out
          (try simp at h4)
          omega
    · obtain rfl : i = n1 := by omega
      have e1 : ls.drop i = [] := List.drop_of_length_le (by rw [HN1.out]; exact Nat.le_refl _)
      rw [e1] at HPr HLr
      simp only [printL, List.nil_append, List.length_nil] at HPr HLr
      clear e1
      go_wp2_with (at_builtin; refine wp_byte 125 rfl (.tmp 91) (.tmp 94) rfl rfl HNr.out HOr.out (by have := HLr.out; omega) (by go_simp) (by go_simp) ?_; intro pB LB cB wB hOB hKB; have HOB := hid hOB; have HKB := hid (HK0.out.trans (HKr.out.trans hKB)); clear hOB hKB)
      go_ret
      exact ⟨_, _, rfl, HPr.out _ (PT.all ai [125]), HOB.out, HKB.out⟩
mutual
theorem put_any : ∀ t : JV, PG t → PutOk t
  | .mk k b0 tx n hh ls ns, hg => by
    have hg' := hg
    simp only [PG, pgL_iff] at hg'
    rcases hg'.1 with rfl | rfl | rfl | ⟨rfl, hval⟩ | rfl | ⟨rfl, _, _⟩
    · intro w N v acc cs hN ho hv hlen
      by_cases hs : 1048576 < acc.length
      · exact rput_stop _ w N v acc cs (hv.on hN) hN ho hs
      · rw [show printV (.mk 1 b0 tx n hh ls ns) = [110, 117, 108, 108] from by simp [printV]]
        exact rput1 tx n hh ls ns b0 w N v acc cs (hv.on hN) hN ho (by omega)
    · intro w N v acc cs hN ho hv hlen
      by_cases hs : 1048576 < acc.length
      · exact rput_stop _ w N v acc cs (hv.on hN) hN ho hs
      · cases b0 with
        | true =>
          rw [show printV (.mk 2 true tx n hh ls ns) = [116, 114, 117, 101] from by simp [printV]]
          exact rput2t tx n hh ls ns w N v acc cs (hv.on hN) hN ho (by omega)
        | false =>
          rw [show printV (.mk 2 false tx n hh ls ns) = [102, 97, 108, 115, 101] from by simp [printV]]
          exact rput2f tx n hh ls ns w N v acc cs (hv.on hN) hN ho (by omega)
    · intro w N v acc cs hN ho hv hlen
      by_cases hs : 1048576 < acc.length
      · exact rput_stop _ w N v acc cs (hv.on hN) hN ho hs
      · rw [show printV (.mk 3 b0 tx n hh ls ns) = tx from by simp [printV]]
        exact rput3 tx n hh ls ns b0 w N v acc cs (hv.on hN) hN ho (by omega) (by have := hg'.2.1; omega)
    · intro w N v acc cs hN ho hv hlen
      by_cases hs : 1048576 < acc.length
      · exact rput_stop _ w N v acc cs (hv.on hN) hN ho hs
      · rw [show printV (.mk 4 b0 tx n hh ls ns) = quoteB tx from by simp [printV]]
        exact rput4 tx n hh ls ns b0 w N v acc cs (hv.on hN) hN ho (by omega) hval (by have := hg'.2.1; omega)
    · exact rput5 b0 tx n hh ls ns (puts_any ls hg'.2.2.2.2) hg
    · exact rput6 b0 tx n hh ls ns (puts_any ls hg'.2.2.2.2) hg
theorem puts_any : ∀ ls : List JV, (∀ x ∈ ls, PG x) → ∀ x ∈ ls, PutOk x
  | [], _, x, h => by simp at h
  | y :: ys, hf, x, h => by
    simp only [List.mem_cons] at h
    rcases h with rfl | h
    · exact put_any x (hf x (by simp))
    · exact puts_any ys (fun z hz => hf z (by simp [hz])) x h
end
end Go.Proofs.YtkoeihliaandeaaGreatDoor
/- many, small; JsonPrints: what is printed of a value that may be is read as it. -/
namespace Go.Proofs.YtkoeihliaandeaaGreatDoor
open Go.RowKit

def ManyOk (t : JV) : Prop := ∀ (w : World) (cs : List Value) (left : Int) (deep : Nat), Fits t → ValOn w t cs → 0 ≤ left → left ≤ 3000 → deep ≤ 200 →
  Calls Tryz.prog 21 #[.agg cs.toArray, .int .i64 left, .int .i64 (deep : Int)] w fun e w' => ∃ r : Int, e = .returned (.int .i64 r) ∧ -1 ≤ r ∧ r ≤ left ∧ Below w.heap.size w w'
set_option maxRecDepth 20000 in
set_option maxHeartbeats 4000000 in
theorem many_one {k : Int} {b : Bool} {t : B} {n : Int} {hh : Bool} {ls : List JV} {ns : List B} (hS : ∀ x ∈ ls, ManyOk x) : ManyOk (.mk k b t n hh ls ns) := by
  intro w cs left deep hf hv h0 h1 hd
  obtain ⟨p1, c1, p2, c2, rfl, hp1, hp2⟩ := hv.open
  simp only [Fits, fitsL_iff] at hf
  have hn := hf.2.1
  unfold maxI at hn
  have HF := hid hf
  have HSO := hid hS
  obtain ⟨n1, e1⟩ : ∃ n1, ls.length = n1 := ⟨_, rfl⟩
  obtain ⟨n2, e2⟩ : ∃ n2, ns.length = n2 := ⟨_, rfl⟩
  have HN := hid e1
  rw [e1, e2]
  rw [e1] at hn
  obtain ⟨W0, hW0⟩ : ∃ W0, W0 = w.alloc (C7 k b t n hh p1 n1 c1 p2 n2 c2) := ⟨_, rfl⟩
  have HW0 := hid hW0
  have HB0 := hid (show Below w.heap.size w W0 from by rw [hW0]; exact below_new _ _)
  have HX0 := hid (show W0.heap[w.heap.size]? = some (C7 k b t n hh p1 n1 c1 p2 n2 c2) from by rw [hW0]; exact heap_alloc_new _ _)
  have HP := hid (hp1.below HB0.out)
  clear hf hv hS hp1 hp2 e1 e2 hW0
  by_cases hd0 : deep = 0
  · subst hd0
    show Calls Tryz.prog 21 #[.agg _, .int .i64 left, .int .i64 0] w _
    go_enter Tryz.func21, Tryz.ntmps21
    go_wp2
    go_ret
    exact ⟨-1, rfl, by omega, by omega, below_new _ _⟩
  · obtain ⟨dp, hdp⟩ : ∃ dp, deep = dp + 1 := ⟨deep - 1, by omega⟩
    subst hdp
    have hc : ((dp + 1 : Nat) : Int) = (dp : Int) + 1 := by push_cast; rfl
    rw [hc]
    have z0 : ((dp : Int) + 1 == 0) = false := by simp only [beq_eq_false_iff_ne, ne_eq]; omega
    clear hc hd0
    go_enter Tryz.func21, Tryz.ntmps21
    go_wp2
    go_loopg [1, 7] (n1 + 1) (fun gk s1 s7 wr => ∃ (i : Nat) (L : Int), i ≤ n1 ∧ gk = n1 - i + 1 ∧ s1 = .int .i64 L ∧ s7 = .int .i64 (i : Int) ∧ -1 ≤ L ∧ L ≤ left - 1 ∧ Below W0.heap.size W0 wr)
    case atStart => exact ⟨0, left - 1, by omega, rfl, rfl, rfl, by omega, by omega, by rw [← HW0.out]; exact Below.refl _ _⟩
    case round =>
      obtain ⟨i, L, hi, rfl, rfl, rfl, hL1, hL2, hb⟩ := hrel
      have HB := hid hb
      have HXr := hid (keep7 HX0.out hb)
      obtain ⟨x0, x1, x2, x3, x4, x5, x6, _⟩ := seven HXr.out
      clear hb
      by_cases hin : i < n1
      · have b1 : (i : Int) < (n1 : Int) := by omega
        by_cases hneg : 0 ≤ L
        · have hi1 : i < ls.length := by rw [HN.out]; exact hin
          obtain ⟨g, o, cs, rfl, hv1, hc1⟩ := HP.out.below HB.out i ls[i] (List.getElem?_eq_getElem hi1)
          have HC := hid (HSO.out ls[i] (List.getElem_mem hi1))
          have HFx := hid (HF.out.2.2.2.2 ls[i] (List.getElem_mem hi1))
          generalize ls[i] = x at hv1 HC HFx
          obtain ⟨k1, k2, k3, k4, k5, k6, k7, k8, k9, k10, k11, rfl⟩ := hv1.form
          obtain ⟨a0, a1, a2, a3, a4, a5, a6⟩ := row7 hc1
          have HV1 := hid hv1
          clear hc1 hv1 hi1
          go_wp2_with (go_at_call 21; have hcall := HC.out _ _ L dp HFx.out HV1.out hneg (by omega) (by omega); (with_reducible refine hcall.mono ?_); clear hcall; rintro e w3 ⟨r, rfl, hr1, hr2, hb⟩; have HB3 := hid (HB.out.trans (hb.mono HB.out.size)); clear hb)
          go_roundg (n1 - (i + 1) + 1)
          case measure => omega
          case rel => exact ⟨i + 1, r, by omega, rfl, rfl, by push_cast; rfl, hr1, by omega, HB3.out⟩
        · go_wp2
          go_ret
          exact ⟨L, rfl, hL1, by omega, HB0.out.trans (HB.out.mono HB0.out.size)⟩
      · have b1 : ¬ (i : Int) < (n1 : Int) := by omega
        go_wp2
        go_ret
        exact ⟨L, rfl, hL1, by omega, HB0.out.trans (HB.out.mono HB0.out.size)⟩
mutual
theorem many_any : ∀ t : JV, ManyOk t
  | .mk _ _ _ _ _ ls _ => many_one (manys_any ls)
theorem manys_any : ∀ ls : List JV, ∀ x ∈ ls, ManyOk x
  | [], x, h => by simp at h
  | y :: ys, x, h => by
    simp only [List.mem_cons] at h
    rcases h with rfl | h
    · exact many_any x
    · exact manys_any ys x h
end
set_option maxRecDepth 20000 in
set_option maxHeartbeats 4000000 in
theorem small_any (t : JV) (w : World) (cs : List Value) (hf : Fits t) (hv : ValOn w t cs) : Calls Tryz.prog 10 #[.agg cs.toArray] w fun e w' => ∃ bb : Bool, e = .returned (.bool bb) ∧ Below w.heap.size w w' := by
  obtain ⟨k1, k2, k3, k4, k5, k6, k7, k8, k9, k10, k11, rfl⟩ := hv.form
  have HF := hid hf
  have HB0 := hid (below_new w (C7 k1 k2 k3 k4 k5 k6 k7 k8 k9 k10 k11))
  have HV := hid (hv.below HB0.out)
  clear hf hv
  go_enter Tryz.func10, Tryz.ntmps10
  go_wp2_with (go_at_call 21; have hcall : Calls Tryz.prog 21 #[.agg #[.int .i64 k1, .bool k2, .string (str k3), .int .i64 k4, .bool k5, .slice k6 k7 k8, .slice k9 k10 k11], .int .i64 3000, .int .i64 200] (w.alloc (C7 k1 k2 k3 k4 k5 k6 k7 k8 k9 k10 k11)) _ := many_any t _ _ 3000 200 HF.out HV.out (by omega) (by omega) (by omega); (with_reducible refine hcall.mono ?_); clear hcall; rintro e w1 ⟨r, rfl, hr1, hr2, hb⟩; have HB := hid (below_out HB0.out hb); clear hb)
  go_ret
  exact ⟨_, rfl, HB.out⟩
end Go.Proofs.YtkoeihliaandeaaGreatDoor
/- JsonValues. -/
namespace Go.Proofs.YtkoeihliaandeaaGreatDoor
open Go.RowKit

/-- The box of the value. -/
structure Vb (U : World) (g : Nat) (o : Obj) : Prop where
  x : U.heap[g]? = some o
theorem Vb.below {U V : World} {g : Nat} {o : Obj} (h : Vb U g o) (hb : Below U.heap.size U V) : Vb V g o := ⟨(hb.block g (lt_of_heap h.x)).trans h.x⟩
theorem put_nil {t : JV} {w : World} {cs : List Value} (hw : wt t ≤ 1048576) (hv : ValOn w t cs) (h0 : validN t = 0) (W : World) (hb : Below w.heap.size w W) : Calls Tryz.prog 23 #[.slice none 0 0, .agg cs.toArray] W fun e w' => ToldPut W.heap.size [] (printV t) W e w' := by
  have hf : fault t = 0 := by
    unfold validN at h0
    split at h0
    · cases h0
    · exact h0
  have hl := print_wt t
  exact put_any t (pg_of t hf hw) W W.heap.size (.slice none 0 0) [] cs (Nat.le_refl _) (World.ownsRow_nil _ _ _ _) (hv.below hb).low (by simp; omega)
set_option maxRecDepth 20000 in
set_option maxHeartbeats 8000000 in
theorem jdepth_any (t : JV) (w : World) (cs : List Value) (hf : Fits t) (hv : ValOn w t cs) : Calls Tryz.prog 15 #[.agg cs.toArray] w fun e w' => e = .returned (.int .i64 ((depthN 10000 t : Nat) : Int)) ∧ Below w.heap.size w w' := by
  obtain ⟨k1, k2, k3, k4, k5, k6, k7, k8, k9, k10, k11, rfl⟩ := hv.form
  have HB0 := hid (below_new w (C7 k1 k2 k3 k4 k5 k6 k7 k8 k9 k10 k11))
  have HC := hid (depth_any 10000 (Nat.le_refl _) t (w.alloc (C7 k1 k2 k3 k4 k5 k6 k7 k8 k9 k10 k11)) _ hf (hv.below HB0.out))
  obtain ⟨D, hD⟩ : ∃ D, depthN 10000 t = D := ⟨_, rfl⟩
  rw [hD]
  rw [hD] at HC
  clear hf hv hD
  go_enter Tryz.func15, Tryz.ntmps15
  go_wp2_with (go_at_call 24; have hcall : Calls Tryz.prog 24 #[.agg #[.int .i64 k1, .bool k2, .string (str k3), .int .i64 k4, .bool k5, .slice k6 k7 k8, .slice k9 k10 k11], .int .i64 10000] (w.alloc (C7 k1 k2 k3 k4 k5 k6 k7 k8 k9 k10 k11)) _ := HC.out; (with_reducible refine hcall.mono ?_); clear hcall; rintro e w1 ⟨rfl, hb⟩; have HB := hid (below_out HB0.out hb); clear hb)
  go_ret
  exact ⟨rfl, HB.out⟩
set_option maxRecDepth 20000 in
set_option maxHeartbeats 8000000 in
theorem jvalues_any (t : JV) (w : World) (cs : List Value) (hE : Env w) (hf : Fits t) (hwt : wt t ≤ 1048576) (hv : ValOn w t cs) :
    Calls Tryz.prog 4 #[.agg cs.toArray] w fun e w' => e = .returned (.bool true) ∧ Below w.heap.size w w' := by
  obtain ⟨k1, k2, k3, k4, k5, k6, k7, k8, k9, k10, k11, rfl⟩ := hv.form
  have HE := hid hE
  have HF := hid hf
  have HV := hid hv
  have HB0 := hid (below_new w (C7 k1 k2 k3 k4 k5 k6 k7 k8 k9 k10 k11))
  have HX0 := hid (show Vb (w.alloc (C7 k1 k2 k3 k4 k5 k6 k7 k8 k9 k10 k11)) w.heap.size (C7 k1 k2 k3 k4 k5 k6 k7 k8 k9 k10 k11) from ⟨heap_alloc_new _ _⟩)
  have HPr := hid (show ∀ W, Below w.heap.size w W → _ from fun W hb => print_any t W _ (hE.below hb) hf (hv.below hb) (fun _ => by have := print_wt t; omega))
  have HRp := hid (show ∀ W, Below w.heap.size w W → _ from fun W hb => rprint_any t W _ hf (hv.below hb) (fun h0 V hv2 => put_nil hwt (hv.below hb) h0 V hv2))
  have HSm := hid (show ∀ W, Below w.heap.size w W → _ from fun W hb => small_any t W _ hf (hv.below hb))
  have HVa := hid (show ∀ W, Below w.heap.size w W → _ from fun W hb => valid_any t W _ (hE.below hb) hf (hv.below hb))
  have HRv := hid (show ∀ W, Below w.heap.size w W → _ from fun W hb => rvalid_any t W _ hf (hv.below hb))
  have HDp := hid (show ∀ W, Below w.heap.size w W → _ from fun W hb => jdepth_any t W _ hf (hv.below hb))
  have HRd := hid (show ∀ W, Below w.heap.size w W → _ from fun W hb => rdepth_any t W _ hf (hv.below hb))
  have HSa := hid (show ∀ W, Below w.heap.size w W → _ from fun W hb => same_any t t W _ _ hf hf (hv.below hb) (hv.below hb))
  have HSr := hid (sameV_refl t)
  obtain ⟨⟨PS, PE⟩, hP⟩ : ∃ P, printS t = P := ⟨_, rfl⟩
  rw [hP] at HPr HRp
  obtain ⟨VN, hVN⟩ : ∃ VN, validN t = VN := ⟨_, rfl⟩
  rw [hVN] at HVa HRv
  obtain ⟨DN, hDN⟩ : ∃ DN, depthN 10000 t = DN := ⟨_, rfl⟩
  rw [hDN] at HDp HRd
  obtain ⟨SS, hSS⟩ : ∃ SS, str PS = SS := ⟨_, rfl⟩
  simp only at HPr HRp
  have HSS := hid hSS
  clear hE hf hwt hv hP hVN hDN hSS
  go_enter Tryz.func4, Tryz.ntmps4
  go_wp2_with (first
    | (go_at_call 10; have hcall := HSm.out _ HB0.out; (with_reducible refine hcall.mono ?_); clear hcall; rintro e w1 ⟨bb, rfl, hb⟩; have HB1 := hid (below_out HB0.out hb); have HX1 := hid (HX0.out.below hb); obtain ⟨e0, e1, e2, e3, e4, e5, e6, _⟩ := seven HX1.out.x; clear hb; cases bb)
    | (go_at_call 11; have hcall := HPr.out w1 HB1.out; (with_reducible refine hcall.mono ?_); clear hcall; intro e w2 hq; obtain ⟨rfl, hb⟩ := hq; rw [HSS.out]; have HB2 := hid (below_out HB1.out hb); have HX2 := hid (HX1.out.below hb); obtain ⟨f0, f1, f2, f3, f4, f5, f6, _⟩ := seven HX2.out.x; clear hb)
    | (go_at_call 12; have hcall := HRp.out w2 HB2.out; (with_reducible refine hcall.mono ?_); clear hcall; rintro e w3 ⟨rfl, hb⟩; rw [HSS.out]; have HB3 := hid (below_out HB2.out hb); have HX3 := hid (HX2.out.below hb); clear hb)
    | (go_at_call 9; have hcall := works_any _ (HE.out.below HB1.out); (with_reducible refine hcall.mono ?_); clear hcall; rintro e wk ⟨rfl, hb⟩; have HBk := hid (below_out HB1.out hb); clear hb))
  all_goals first
    | (go_ret; exact ⟨rfl, HBk.out⟩)
    | skip
  refine wp_region_noPanic ?_
  refine any_begin 33 (by kernel_rfl) (by kernel_rfl) ?_
  refine late_begin (fun U => Vb U w.heap.size (C7 k1 k2 k3 k4 k5 k6 k7 k8 k9 k10 k11)) (fun _ => false) (HX3.out.below (below_drew (Below.refl _ _) 1)) (fun hS => ?_)
  have HBV := hid (below_out HB3.out (show Below w3.heap.size w3 w3.drew from below_drew (Below.refl _ _) 1))
  generalize w3.drew = V at hS HBV ⊢
  refine late_take (i := 0) (some 21) rfl rfl (by kernel_rfl) (by kernel_rfl) (by kernel_rfl) (by kernel_rfl) (by kernel_rfl) (fun _ _ _ h => h) (by rfl) (v := ?v0a) ?hy0a hS ?rest0a
  case hy0a => intro w0 hSw; obtain ⟨e0, e1, e2, e3, e4, e5, e6, _⟩ := seven hSw.x; go_simp; try with_reducible rfl
  simp only [Act.put, List.setIfInBounds_toArray, List.set_cons_zero, List.set_cons_succ]
  refine late_take (i := 1) (some 22) rfl rfl (by kernel_rfl) (by kernel_rfl) (by kernel_rfl) (by kernel_rfl) (by kernel_rfl) (fun _ _ _ h => h) (by rfl) (v := ?v1a) ?hy1a hS ?rest1a
  case hy1a => intro w0 hSw; obtain ⟨e0, e1, e2, e3, e4, e5, e6, _⟩ := seven hSw.x; go_simp; try with_reducible rfl
  simp only [Act.put, List.setIfInBounds_toArray, List.set_cons_zero, List.set_cons_succ]
  refine late_take (i := 2) (some 23) rfl rfl (by kernel_rfl) (by kernel_rfl) (by kernel_rfl) (by kernel_rfl) (by kernel_rfl) (fun _ _ _ h => h) (by rfl) (v := ?v2a) ?hy2a hS ?rest2a
  case hy2a => intro w0 hSw; obtain ⟨e0, e1, e2, e3, e4, e5, e6, _⟩ := seven hSw.x; go_simp; try with_reducible rfl
  simp only [Act.put, List.setIfInBounds_toArray, List.set_cons_zero, List.set_cons_succ]
  refine late_take (i := 3) (some 24) rfl rfl (by kernel_rfl) (by kernel_rfl) (by kernel_rfl) (by kernel_rfl) (by kernel_rfl) (fun _ _ _ h => h) (by rfl) (v := ?v3a) ?hy3a hS ?rest3a
  case hy3a => intro w0 hSw; obtain ⟨e0, e1, e2, e3, e4, e5, e6, _⟩ := seven hSw.x; go_simp; try with_reducible rfl
  simp only [Act.put, List.setIfInBounds_toArray, List.set_cons_zero, List.set_cons_succ]
  refine late_take (i := 4) (some 25) rfl rfl (by kernel_rfl) (by kernel_rfl) (by kernel_rfl) (by kernel_rfl) (by kernel_rfl) (fun _ _ _ h => h) (by rfl) (v := ?v4a) ?hy4a hS ?rest4a
  case hy4a => intro w0 hSw; obtain ⟨e0, e1, e2, e3, e4, e5, e6, _⟩ := seven hSw.x; go_simp; try with_reducible rfl
  simp only [Act.put, List.setIfInBounds_toArray, List.set_cons_zero, List.set_cons_succ]
  refine late_take (i := 6) (some 27) rfl rfl (by kernel_rfl) (by kernel_rfl) (by kernel_rfl) (by kernel_rfl) (by kernel_rfl) (fun _ _ _ h => h) (by rfl) (v := ?v6a) ?hy6a hS ?rest6a
  case hy6a => intro w0 hSw; obtain ⟨e0, e1, e2, e3, e4, e5, e6, _⟩ := seven hSw.x; go_simp; try with_reducible rfl
  simp only [Act.put, List.setIfInBounds_toArray, List.set_cons_zero, List.set_cons_succ]
  refine wpAnyD_one (i := 5) (by kernel_rfl) rfl (fun K hK => ?_)
  go_simp
  go_at_call 7
  refine (errnum_any PE V).mono ?_
  rintro e w4 ⟨rfl, rfl⟩
  refine hK _ _ ⟨fun _ => hS, ?_⟩
  clear hK K
  refine late_take (i := 7) (some 28) rfl rfl (by kernel_rfl) (by kernel_rfl) (by kernel_rfl) (by kernel_rfl) (by kernel_rfl) (fun _ _ _ h => h) (by rfl) (v := ?v7a) ?hy7a hS ?rest7a
  case hy7a => intro w0 hSw; obtain ⟨e0, e1, e2, e3, e4, e5, e6, _⟩ := seven hSw.x; go_simp; try with_reducible rfl
  simp only [Act.put, List.setIfInBounds_toArray, List.set_cons_zero, List.set_cons_succ]
  refine late_take (i := 8) (some 29) rfl rfl (by kernel_rfl) (by kernel_rfl) (by kernel_rfl) (by kernel_rfl) (by kernel_rfl) (fun _ _ _ h => h) (by rfl) (v := ?v8a) ?hy8a hS ?rest8a
  case hy8a => intro w0 hSw; obtain ⟨e0, e1, e2, e3, e4, e5, e6, _⟩ := seven hSw.x; go_simp; try with_reducible rfl
  simp only [Act.put, List.setIfInBounds_toArray, List.set_cons_zero, List.set_cons_succ]
  refine late_take (i := 9) (some 30) rfl rfl (by kernel_rfl) (by kernel_rfl) (by kernel_rfl) (by kernel_rfl) (by kernel_rfl) (fun _ _ _ h => h) (by rfl) (v := ?v9a) ?hy9a hS ?rest9a
  case hy9a => intro w0 hSw; obtain ⟨e0, e1, e2, e3, e4, e5, e6, _⟩ := seven hSw.x; go_simp; try with_reducible rfl
  simp only [Act.put, List.setIfInBounds_toArray, List.set_cons_zero, List.set_cons_succ]
  refine late_take (i := 10) (some 31) rfl rfl (by kernel_rfl) (by kernel_rfl) (by kernel_rfl) (by kernel_rfl) (by kernel_rfl) (fun _ _ _ h => h) (by rfl) (v := ?v10a) ?hy10a hS ?rest10a
  case hy10a => intro w0 hSw; obtain ⟨e0, e1, e2, e3, e4, e5, e6, _⟩ := seven hSw.x; go_simp; try with_reducible rfl
  simp only [Act.put, List.setIfInBounds_toArray, List.set_cons_zero, List.set_cons_succ]
  refine late_take (i := 13) (some 34) rfl rfl (by kernel_rfl) (by kernel_rfl) (by kernel_rfl) (by kernel_rfl) (by kernel_rfl) (fun _ _ _ h => h) (by rfl) (v := ?v13a) ?hy13a hS ?rest13a
  case hy13a => intro w0 hSw; obtain ⟨e0, e1, e2, e3, e4, e5, e6, _⟩ := seven hSw.x; go_simp; try with_reducible rfl
  simp only [Act.put, List.setIfInBounds_toArray, List.set_cons_zero, List.set_cons_succ]
  refine wpAnyD_one (i := 11) (by kernel_rfl) rfl (fun K hK => ?_)
  go_simp
  go_at_call 13
  have hcall := HVa.out _ HBV.out
  refine hcall.mono ?_
  clear hcall
  rintro e w5 ⟨rfl, hb⟩
  have HB5 := hid (below_out HBV.out hb)
  have hS5 := hS.below hb
  clear hb
  refine hK _ _ ⟨fun _ => hS5, ?_⟩
  clear hK K
  replace hS := hS5
  clear hS5
  refine wpAnyD_one (i := 12) (by kernel_rfl) rfl (fun K hK => ?_)
  go_simp
  go_at_call 7
  refine (errnum_any VN w5).mono ?_
  rintro e w6 ⟨rfl, rfl⟩
  refine hK _ _ ⟨fun _ => hS, ?_⟩
  clear hK K
  refine wpAnyD_one (i := 14) (by kernel_rfl) rfl (fun K hK => ?_)
  go_simp
  go_at_call 14
  have hcall := HRv.out _ HB5.out
  refine hcall.mono ?_
  clear hcall
  rintro e w7 ⟨rfl, hb⟩
  have HB7 := hid (below_out HB5.out hb)
  have hS5 := hS.below hb
  clear hb
  refine hK _ _ ⟨fun _ => hS5, ?_⟩
  clear hK K
  replace hS := hS5
  clear hS5
  refine late_take (i := 15) (some 36) rfl rfl (by kernel_rfl) (by kernel_rfl) (by kernel_rfl) (by kernel_rfl) (by kernel_rfl) (fun _ _ _ h => h) (by rfl) (v := ?v15a) ?hy15a hS ?rest15a
  case hy15a => intro w0 hSw; obtain ⟨e0, e1, e2, e3, e4, e5, e6, _⟩ := seven hSw.x; go_simp; try with_reducible rfl
  simp only [Act.put, List.setIfInBounds_toArray, List.set_cons_zero, List.set_cons_succ]
  refine late_take (i := 16) (some 37) rfl rfl (by kernel_rfl) (by kernel_rfl) (by kernel_rfl) (by kernel_rfl) (by kernel_rfl) (fun _ _ _ h => h) (by rfl) (v := ?v16a) ?hy16a hS ?rest16a
  case hy16a => intro w0 hSw; obtain ⟨e0, e1, e2, e3, e4, e5, e6, _⟩ := seven hSw.x; go_simp; try with_reducible rfl
  simp only [Act.put, List.setIfInBounds_toArray, List.set_cons_zero, List.set_cons_succ]
  refine late_take (i := 17) (some 38) rfl rfl (by kernel_rfl) (by kernel_rfl) (by kernel_rfl) (by kernel_rfl) (by kernel_rfl) (fun _ _ _ h => h) (by rfl) (v := ?v17a) ?hy17a hS ?rest17a
  case hy17a => intro w0 hSw; obtain ⟨e0, e1, e2, e3, e4, e5, e6, _⟩ := seven hSw.x; go_simp; try with_reducible rfl
  simp only [Act.put, List.setIfInBounds_toArray, List.set_cons_zero, List.set_cons_succ]
  refine late_take (i := 18) (some 39) rfl rfl (by kernel_rfl) (by kernel_rfl) (by kernel_rfl) (by kernel_rfl) (by kernel_rfl) (fun _ _ _ h => h) (by rfl) (v := ?v18a) ?hy18a hS ?rest18a
  case hy18a => intro w0 hSw; obtain ⟨e0, e1, e2, e3, e4, e5, e6, _⟩ := seven hSw.x; go_simp; try with_reducible rfl
  simp only [Act.put, List.setIfInBounds_toArray, List.set_cons_zero, List.set_cons_succ]
  refine late_take (i := 20) (some 41) rfl rfl (by kernel_rfl) (by kernel_rfl) (by kernel_rfl) (by kernel_rfl) (by kernel_rfl) (fun _ _ _ h => h) (by rfl) (v := ?v20a) ?hy20a hS ?rest20a
  case hy20a => intro w0 hSw; obtain ⟨e0, e1, e2, e3, e4, e5, e6, _⟩ := seven hSw.x; go_simp; try with_reducible rfl
  simp only [Act.put, List.setIfInBounds_toArray, List.set_cons_zero, List.set_cons_succ]
  refine wpAnyD_one (i := 19) (by kernel_rfl) rfl (fun K hK => ?_)
  go_simp
  go_at_call 15
  have hcall := HDp.out w7 HB7.out
  refine hcall.mono ?_
  clear hcall
  rintro e w8 ⟨rfl, hb⟩
  have HB8 := hid (below_out HB7.out hb)
  have hS5 := hS.below hb
  clear hb
  refine hK _ _ ⟨fun _ => hS5, ?_⟩
  clear hK K
  replace hS := hS5
  clear hS5
  refine wpAnyD_one (i := 21) (by kernel_rfl) rfl (fun K hK => ?_)
  go_simp
  go_at_call 16
  have hcall := HRd.out w8 HB8.out
  refine hcall.mono ?_
  clear hcall
  rintro e w9 ⟨rfl, hb⟩
  have HB9 := hid (below_out HB8.out hb)
  have hS5 := hS.below hb
  clear hb
  refine hK _ _ ⟨fun _ => hS5, ?_⟩
  clear hK K
  replace hS := hS5
  clear hS5
  refine late_take (i := 22) (some 43) rfl rfl (by kernel_rfl) (by kernel_rfl) (by kernel_rfl) (by kernel_rfl) (by kernel_rfl) (fun _ _ _ h => h) (by rfl) (v := ?v22a) ?hy22a hS ?rest22a
  case hy22a => intro w0 hSw; obtain ⟨e0, e1, e2, e3, e4, e5, e6, _⟩ := seven hSw.x; go_simp; try with_reducible rfl
  simp only [Act.put, List.setIfInBounds_toArray, List.set_cons_zero, List.set_cons_succ]
  refine late_take (i := 23) (some 44) rfl rfl (by kernel_rfl) (by kernel_rfl) (by kernel_rfl) (by kernel_rfl) (by kernel_rfl) (fun _ _ _ h => h) (by rfl) (v := ?v23a) ?hy23a hS ?rest23a
  case hy23a => intro w0 hSw; obtain ⟨e0, e1, e2, e3, e4, e5, e6, _⟩ := seven hSw.x; go_simp; try with_reducible rfl
  simp only [Act.put, List.setIfInBounds_toArray, List.set_cons_zero, List.set_cons_succ]
  refine late_take (i := 24) (some 45) rfl rfl (by kernel_rfl) (by kernel_rfl) (by kernel_rfl) (by kernel_rfl) (by kernel_rfl) (fun _ _ _ h => h) (by rfl) (v := ?v24a) ?hy24a hS ?rest24a
  case hy24a => intro w0 hSw; obtain ⟨e0, e1, e2, e3, e4, e5, e6, _⟩ := seven hSw.x; go_simp; try with_reducible rfl
  simp only [Act.put, List.setIfInBounds_toArray, List.set_cons_zero, List.set_cons_succ]
  refine late_take (i := 25) (some 46) rfl rfl (by kernel_rfl) (by kernel_rfl) (by kernel_rfl) (by kernel_rfl) (by kernel_rfl) (fun _ _ _ h => h) (by rfl) (v := ?v25a) ?hy25a hS ?rest25a
  case hy25a => intro w0 hSw; obtain ⟨e0, e1, e2, e3, e4, e5, e6, _⟩ := seven hSw.x; go_simp; try with_reducible rfl
  simp only [Act.put, List.setIfInBounds_toArray, List.set_cons_zero, List.set_cons_succ]
  refine late_take (i := 26) (some 47) rfl rfl (by kernel_rfl) (by kernel_rfl) (by kernel_rfl) (by kernel_rfl) (by kernel_rfl) (fun _ _ _ h => h) (by rfl) (v := ?v26a) ?hy26a hS ?rest26a
  case hy26a => intro w0 hSw; obtain ⟨e0, e1, e2, e3, e4, e5, e6, _⟩ := seven hSw.x; go_simp; try with_reducible rfl
  simp only [Act.put, List.setIfInBounds_toArray, List.set_cons_zero, List.set_cons_succ]
  refine wpAnyD_one (i := 27) (by kernel_rfl) rfl (fun K hK => ?_)
  go_simp
  go_at_call 17
  have hcall := HSa.out w9 HB9.out
  rw [HSr.out] at hcall
  refine hcall.mono ?_
  clear hcall
  rintro e wa ⟨rfl, hb⟩
  have HBa := hid (below_out HB9.out hb)
  have hS5 := hS.below hb
  clear hb
  refine hK _ _ ⟨fun _ => hS5, ?_⟩
  clear hK K
  replace hS := hS5
  clear hS5
  refine late_take (i := 28) (some 49) rfl rfl (by kernel_rfl) (by kernel_rfl) (by kernel_rfl) (by kernel_rfl) (by kernel_rfl) (fun _ _ _ h => h) (by rfl) (v := ?v28a) ?hy28a hS ?rest28a
  case hy28a => intro w0 hSw; obtain ⟨e0, e1, e2, e3, e4, e5, e6, _⟩ := seven hSw.x; go_simp; try with_reducible rfl
  simp only [Act.put, List.setIfInBounds_toArray, List.set_cons_zero, List.set_cons_succ]
  refine late_take (i := 29) (some 50) rfl rfl (by kernel_rfl) (by kernel_rfl) (by kernel_rfl) (by kernel_rfl) (by kernel_rfl) (fun _ _ _ h => h) (by rfl) (v := ?v29a) ?hy29a hS ?rest29a
  case hy29a => intro w0 hSw; obtain ⟨e0, e1, e2, e3, e4, e5, e6, _⟩ := seven hSw.x; go_simp; try with_reducible rfl
  simp only [Act.put, List.setIfInBounds_toArray, List.set_cons_zero, List.set_cons_succ]
  refine wpAnyD_one (i := 30) (by kernel_rfl) rfl (fun K hK => ?_)
  go_simp
  go_at_call 9
  have hcall := works_any wa (HE.out.below HBa.out)
  refine hcall.mono ?_
  clear hcall
  rintro e wb ⟨rfl, hb⟩
  have HBb := hid (below_out HBa.out hb)
  have hS5 := hS.below hb
  clear hb
  refine hK _ _ ⟨fun _ => hS5, ?_⟩
  clear hK K
  replace hS := hS5
  clear hS5
  refine late_take (i := 31) (some 52) rfl rfl (by kernel_rfl) (by kernel_rfl) (by kernel_rfl) (by kernel_rfl) (by kernel_rfl) (fun _ _ _ h => h) (by rfl) (v := ?v31a) ?hy31a hS ?rest31a
  case hy31a => intro w0 hSw; obtain ⟨e0, e1, e2, e3, e4, e5, e6, _⟩ := seven hSw.x; go_simp; try with_reducible rfl
  simp only [Act.put, List.setIfInBounds_toArray, List.set_cons_zero, List.set_cons_succ]
  refine late_take (i := 32) (some 2) rfl rfl (by kernel_rfl) (by kernel_rfl) (by kernel_rfl) (by kernel_rfl) (by kernel_rfl) (fun _ _ _ h => h) (by rfl) (v := ?v32a) ?hy32a hS ?rest32a
  case hy32a => intro w0 hSw; obtain ⟨e0, e1, e2, e3, e4, e5, e6, _⟩ := seven hSw.x; go_simp; try with_reducible rfl
  simp only [Act.put, List.setIfInBounds_toArray, List.set_cons_zero, List.set_cons_succ]
  refine late_done (by kernel_rfl) ?_ _
  refine NoPanic.normal ?_
  clear hS
  go_wp2
  go_ret
  exact ⟨rfl, HBb.out⟩
end Go.Proofs.YtkoeihliaandeaaGreatDoor
/- What the listed variables of the library hold when a call begins: the tables of UTF-8, the two errors of strconv. -/
namespace Go.Proofs.YtkoeihliaandeaaGreatDoor
open Go.RowKit Go.Lib

theorem star : "*" ++ "errors.errorString" = "*errors.errorString" := by decide
theorem rowErr (u : TypeId) (h : Tryz.prog.typeName? 3 u = some "*errors.errorString") : u = 136 :=
  typeName_ptr_named (nm := "errors.errorString") (by rw [star]; kernel_rfl) (by kernel_rfl) (by decide) u (by rw [star]; exact h)
abbrev laidList : List (String × DataW Unit) := [("math/bits.deBruijn32tab", Rows.laid_math_bits_deBruijn32tab), ("math/bits.deBruijn64tab", Rows.laid_math_bits_deBruijn64tab), ("internal/strconv.uint64pow10", Rows.laid_internal_strconv_uint64pow10), ("unicode/utf8.acceptRanges", Rows.laid_unicode_utf8_acceptRanges), ("strconv.ErrRange", Rows.laid_strconv_ErrRange), ("strconv.ErrSyntax", Rows.laid_strconv_ErrSyntax), ("unicode/utf8.first", Rows.laid_unicode_utf8_first)]
set_option maxRecDepth 100000 in
theorem env_of {W : World} (h : laidMet Tryz.prog laidList W) : Env W := by
  have e1 : (Rows.laid_unicode_utf8_acceptRanges : DataW Unit) = acceptData := by kernel_rfl
  have e2 : Rows.laid_unicode_utf8_first = firstData := Pinned.utf8First_eq
  have m1 : ("unicode/utf8.first", firstData) ∈ laidList := by rw [← e2]; simp [laidList]
  have m2 : ("unicode/utf8.acceptRanges", acceptData) ∈ laidList := by rw [← e1]; simp [laidList]
  obtain ⟨a0, t0, hv0, _⟩ := laid_sentinel (g := 4) h.tail.tail.tail.tail (by kernel_rfl) (by kernel_rfl) Tryz.underlying27 rowErr Tryz.underlying136 Tryz.underlying138 rfl rfl Tryz.underlying9 (by kernel_rfl) (by kernel_rfl)
  obtain ⟨a1, t1, hv1, _⟩ := laid_sentinel (g := 3) h.tail.tail.tail.tail.tail (by kernel_rfl) (by kernel_rfl) Tryz.underlying27 rowErr Tryz.underlying136 Tryz.underlying138 rfl rfl Tryz.underlying9 (by kernel_rfl) (by kernel_rfl)
  refine ⟨?_, ⟨136, .pointer (some a1), ?_⟩, ⟨136, .pointer (some a0), ?_⟩⟩
  · exact utf8Tabs_of_readsT (U8Types.of196 Tryz.lays196) ⟨by kernel_rfl, by kernel_rfl, by kernel_rfl, by kernel_rfl, by kernel_rfl, by kernel_rfl, by kernel_rfl⟩ (Lib.laidMet.reads h m1) (Lib.laidMet.reads h m2)
  · simpa using World.var?_cell (show Tryz.prog.globalNamed "strconv.ErrSyntax" = some 3 by kernel_rfl) hv1 0
  · simpa using World.var?_cell (show Tryz.prog.globalNamed "strconv.ErrRange" = some 4 by kernel_rfl) hv0 0
end Go.Proofs.YtkoeihliaandeaaGreatDoor
