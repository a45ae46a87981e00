/- The program's targets: a path and a query. -/
import Derived.Test.YtbdbmlklijmefaaDoorPHost
import Derived.Test.YtbdbmlklijmefaaDoorPSegs
import Derived.Test.YtbdbmlklijmefaaDoorRParse
namespace Go.Proofs.YtbdbmlklijmefaaDoor
open Go.RowKit

theorem ptg_size : (Tryd.prog.info? 23).map (·.size) = some 5 := by kernel_rfl
/-- A target and something beside it handed out. -/
theorem results_ptg {fn : Func} {p u : Tmp} (h : fn.results = #[.cell p 23, .tmp u]) (tmps : Array Value) (w : World) (g : Nat) (t : TypeId) (cs : Array Value) (fr : Nat × Nat)
    (hp : tmps.getD p undef = .pointer (some ⟨g, 0, none⟩)) (hg : w.heap[g]? = some (.cells cs t fr)) (hs : cs.size = 5) : (results fn tmps).run Tryd.prog w = .ok (.tuple #[.agg cs, tmps.getD u undef]) w := by
  have hl := run_loadVar_row (P := Tryd.prog) w g t 23 cs fr _ hg Tryd.underlying23 rfl (by rw [ptg_size, hs])
  rw [results_cell_tmp h, hp]
  simp [asAddr, Result.andThen, hl]
abbrev Z5 : Obj := .cells #[.int .i64 0, .string ⟨#[]⟩, .string ⟨#[]⟩, .string ⟨#[]⟩, .bool false] 23 (0, 0)
/-- The block of what is handed out. -/
structure QW (w W : World) : Prop where
  o : W.heap[w.heap.size]? = some Z5
  low : Below w.heap.size w W
theorem QW.start (w : World) : QW w (w.alloc Z5) := ⟨heap_alloc_new w _, below_new w _⟩
theorem QW.below {w W V : World} (h : QW w W) (hb : Below W.heap.size W V) : QW w V := ⟨(hb.block _ (lt_of_heap h.o)).trans h.o, below_out h.low hb⟩
theorem QW.out {w W : World} (h : QW w W) (a0 a1 a2 a3 a4 : Value) : Below w.heap.size w (((((W.setCell ⟨w.heap.size, 0, none⟩ a0).setCell ⟨w.heap.size, 1, none⟩ a1).setCell ⟨w.heap.size, 2, none⟩ a2).setCell ⟨w.heap.size, 3, none⟩ a3).setCell ⟨w.heap.size, 4, none⟩ a4) := by
  iterate 5 refine Below.setCell ?_ (show w.heap.size ≤ w.heap.size from Nat.le_refl _) _
  exact h.low
theorem pclone_any (s : B) (hs : s.length ≤ 281474976710656) (w : World) : Calls Tryd.prog 54 #[.string (str s)] w fun e w' => e = .returned (.string (str s)) ∧ Below w.heap.size w w' := by
  have HC := hid (show ∀ w, _ from fun w => Tryd.stringslite_Clone (str s) w (by rw [str_size]; exact hs))
  obtain ⟨S, hS⟩ : ∃ S, str s = S := ⟨_, rfl⟩
  rw [hS] at HC ⊢
  clear hS
  go_enter Tryd.func54, Tryd.ntmps54
  go_wp2_with (go_at_call 74; (with_reducible refine (HC.out _).mono ?_); rintro e w1 ⟨rfl, hb⟩; have HB := hid hb; clear hb)
  go_ret
  exact ⟨rfl, HB.out⟩
set_option maxRecDepth 20000 in
set_option maxHeartbeats 8000000 in
theorem porigin_any (s : B) (hs : s.length ≤ 4294967280) (w : World) (hE : Env w) : Calls Tryd.prog 28 #[.string (str s)] w fun e w' => e = .returned (.tuple #[tgV ((originT s).getD TG.zero), .bool (originT s).isSome]) ∧ Below w.heap.size w w' := by
  obtain ⟨A, Q, K, hc⟩ : ∃ A Q K, cutF 63 s = (A, Q, K) := ⟨_, _, _, rfl⟩
  have HCt := hid (pcut_any 63 s hs)
  have hl := cutF_len 63 s
  rw [hc] at HCt hl
  dsimp only at HCt hl
  have HPa := hid (ppath_any A (by omega))
  have HQu := hid (pquery_any Q (by omega))
  have HC1 := hid (pclone_any A (by omega))
  have HC2 := hid (pclone_any Q (by omega))
  have HO := hid (show originT s = if isPath A = false ∨ isQuery Q = false then none else some ⟨1, [], A, Q, K⟩ from by unfold originT; rw [hc])
  have HE := hid hE
  have HT0 := hid (QW.start w)
  have HE0 := hid (hE.below (below_new w Z5))
  obtain ⟨S, hS⟩ : ∃ S, str s = S := ⟨_, rfl⟩
  obtain ⟨SA, hSA⟩ : ∃ SA, str A = SA := ⟨_, rfl⟩
  obtain ⟨SQ, hSQ⟩ : ∃ SQ, str Q = SQ := ⟨_, rfl⟩
  rw [hS] at HCt ⊢
  rw [hSA] at HCt HPa HC1
  rw [hSQ] at HCt HQu HC2
  have HSA := hid hSA
  have HSQ := hid hSQ
  clear hS hSA hSQ hl hc hE hs
  cases hp : isPath A with
  | false =>
    have HV := hid (show originT s = none from by rw [HO.out, if_pos (.inl hp)])
    rw [hp] at HPa
    rw [HV.out]
    clear hp
    go_enter Tryd.func28, Tryd.ntmps28
    go_wp2_with (first | (go_at_call 48; (with_reducible refine (HCt.out _ HE0.out).mono ?_); rintro e w1 ⟨rfl, hb⟩; have HT1 := hid (HT0.out.below hb); obtain ⟨_, _, _, _, _, oz⟩ := five HT1.out.o; have oz0 := oz 0; have oz1 := oz 1; have oz2 := oz 2; have oz3 := oz 3; have oz4 := oz 4; clear hb oz) | (go_at_call 35; (with_reducible refine (HPa.out _).mono ?_); rintro e w2 ⟨rfl, hw2⟩; subst w2))
    (try simp only [Exit.inBlock, Exit.then])
    refine bodyPost_ret (results_ptg rfl _ _ _ 23 _ (0, 0) rfl (five_put (has_five HT1.out.o) _ _ _ _ _) rfl) rfl ?_
    exact ⟨rfl, HT1.out.out _ _ _ _ _⟩
  | true =>
    rw [hp] at HPa
    cases hq : isQuery Q with
    | false =>
      have HV := hid (show originT s = none from by rw [HO.out, if_pos (.inr hq)])
      rw [hq] at HQu
      rw [HV.out]
      clear hp hq
      go_enter Tryd.func28, Tryd.ntmps28
      go_wp2_with (first | (go_at_call 48; (with_reducible refine (HCt.out _ HE0.out).mono ?_); rintro e w1 ⟨rfl, hb⟩; have HT1 := hid (HT0.out.below hb); obtain ⟨_, _, _, _, _, oz⟩ := five HT1.out.o; have oz0 := oz 0; have oz1 := oz 1; have oz2 := oz 2; have oz3 := oz 3; have oz4 := oz 4; clear hb oz) | (go_at_call 35; (with_reducible refine (HPa.out _).mono ?_); rintro e w2 ⟨rfl, hw2⟩; subst w2) | (go_at_call 47; (with_reducible refine (HQu.out _).mono ?_); rintro e w2 ⟨rfl, hw2⟩; subst w2))
      (try simp only [Exit.inBlock, Exit.then])
      refine bodyPost_ret (results_ptg rfl _ _ _ 23 _ (0, 0) rfl (five_put (has_five HT1.out.o) _ _ _ _ _) rfl) rfl ?_
      exact ⟨rfl, HT1.out.out _ _ _ _ _⟩
    | true =>
      have HV := hid (show originT s = some ⟨1, [], A, Q, K⟩ from by rw [HO.out, if_neg (by rw [hp, hq]; simp)])
      rw [hq] at HQu
      rw [HV.out]
      clear hp hq
      go_enter Tryd.func28, Tryd.ntmps28
      go_wp2_with (first | (go_at_call 48; (with_reducible refine (HCt.out _ HE0.out).mono ?_); rintro e w1 ⟨rfl, hb⟩; have HT1 := hid (HT0.out.below hb); clear hb) | (go_at_call 35; (with_reducible refine (HPa.out _).mono ?_); rintro e w2 ⟨rfl, hw2⟩; subst w2) | (go_at_call 47; (with_reducible refine (HQu.out _).mono ?_); rintro e w2 ⟨rfl, hw2⟩; subst w2) | (go_at_call 54; (with_reducible refine (HC1.out _).mono ?_); rintro e w3 ⟨rfl, hb⟩; have HT3 := hid (HT1.out.below hb); clear hb) | (go_at_call 54; (with_reducible refine (HC2.out _).mono ?_); rintro e w4 ⟨rfl, hb⟩; have HT4 := hid (HT3.out.below hb); obtain ⟨_, _, _, _, _, oz⟩ := five HT4.out.o; have oz0 := oz 0; have oz1 := oz 1; have oz2 := oz 2; have oz3 := oz 3; have oz4 := oz 4; clear hb oz))
      (try simp only [Exit.inBlock, Exit.then])
      refine bodyPost_ret (results_ptg rfl _ _ _ 23 _ (0, 0) rfl (five_put (has_five HT4.out.o) _ _ _ _ _) rfl) rfl ?_
      refine ⟨?_, HT4.out.out _ _ _ _ _⟩
      rw [← HSA.out, ← HSQ.out]
      rfl
end Go.Proofs.YtbdbmlklijmefaaDoor
