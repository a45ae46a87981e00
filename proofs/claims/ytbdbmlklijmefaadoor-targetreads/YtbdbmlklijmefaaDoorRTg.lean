/- A target in memory; the document's path and query behind a host. -/
import Derived.Test.YtbdbmlklijmefaaDoorRSegs
namespace Go.Proofs.YtbdbmlklijmefaaDoor
open Go.RowKit

structure Five (w : World) (g : Nat) (c0 c1 c2 c3 c4 : Value) : Prop where
  a0 : w.cell? ⟨g, 0, none⟩ = some c0
  a1 : w.cell? ⟨g, 1, none⟩ = some c1
  a2 : w.cell? ⟨g, 2, none⟩ = some c2
  a3 : w.cell? ⟨g, 3, none⟩ = some c3
  a4 : w.cell? ⟨g, 4, none⟩ = some c4
  fz : ∀ j, w.frozen? ⟨g, j, none⟩ = false
theorem five {w : World} {g : Nat} {c0 c1 c2 c3 c4 : Value} {T : TypeId} (h : w.heap[g]? = some (.cells #[c0, c1, c2, c3, c4] T (0, 0))) : Five w g c0 c1 c2 c3 c4 := by
  refine ⟨?_, ?_, ?_, ?_, ?_, fun j => by simp [World.frozen?, h]⟩ <;> simp [World.cell?, h]
theorem has_five {w : World} {g : Nat} {T : TypeId} {fr : Nat × Nat} {x0 x1 x2 x3 x4 : Value} (h : w.heap[g]? = some (.cells #[x0, x1, x2, x3, x4] T fr)) : ∃ cs : Array Value, cs.size = 5 ∧ w.heap[g]? = some (.cells cs T fr) := ⟨_, rfl, h⟩
theorem five_put {w : World} {g : Nat} {T : TypeId} {fr : Nat × Nat} (h : ∃ cs : Array Value, cs.size = 5 ∧ w.heap[g]? = some (.cells cs T fr)) (c0 c1 c2 c3 c4 : Value) :
    (((((w.setCell ⟨g, 0, none⟩ c0).setCell ⟨g, 1, none⟩ c1).setCell ⟨g, 2, none⟩ c2).setCell ⟨g, 3, none⟩ c3).setCell ⟨g, 4, none⟩ c4).heap[g]? = some (.cells #[c0, c1, c2, c3, c4] T fr) := by
  obtain ⟨⟨l⟩, hs, h⟩ := h
  rcases l with _ | ⟨x0, _ | ⟨x1, _ | ⟨x2, _ | ⟨x3, _ | ⟨x4, _ | ⟨x5, r⟩⟩⟩⟩⟩⟩ <;> simp at hs
  · simp [World.setCell, Array.getElem?_modify, h]
theorem tg_size : (Tryd.prog.info? 28).map (·.size) = some 5 := by kernel_rfl
/-- A target and a whole number handed out. -/
theorem results_tgtmp {fn : Func} {p u : Tmp} (h : fn.results = #[.cell p 28, .tmp u]) (tmps : Array Value) (w : World) (g : Nat) (t : TypeId) (cs : Array Value) (fr : Nat × Nat)
    (hp : tmps.getD p undef = .pointer (some ⟨g, 0, none⟩)) (hg : w.heap[g]? = some (.cells cs t fr)) (hs : cs.size = 5) : (results fn tmps).run Tryd.prog w = .ok (.tuple #[.agg cs, tmps.getD u undef]) w := by
  have hl := run_loadVar_row (P := Tryd.prog) w g t 28 cs fr _ hg Tryd.underlying28 rfl (by rw [tg_size, hs])
  rw [results_cell_tmp h, hp]
  simp [asAddr, Result.andThen, hl]
theorem new_second (w : World) (o1 o2 : Obj) : ((w.alloc o1).alloc o2).heap[w.heap.size + 1]? = some o2 := by
  have := heap_alloc_new (w.alloc o1) o2
  rwa [show (w.alloc o1).heap.size = w.heap.size + 1 by simp] at this
theorem two_at {w W0 : World} {o1 o2 : Obj} (h : W0 = (w.alloc o1).alloc o2) : W0.heap[w.heap.size]? = some o1 ∧ W0.heap[w.heap.size + 1]? = some o2 ∧ Below w.heap.size w W0 := by
  subst h
  refine ⟨?_, new_second w o1 o2, ?_⟩
  · rw [Below.heap_alloc _ _ _ (by simp)]
    exact heap_alloc_new w o1
  · exact (below_new w o1).trans ((below_new _ o2).mono (by simp))
/-- A target in its own block, and the block of what is handed out. -/
structure TW (w W : World) (c0 c1 c2 c3 c4 : Value) : Prop where
  r : W.heap[w.heap.size]? = some (.cells #[c0, c1, c2, c3, c4] 28 (0, 0))
  o : W.heap[w.heap.size + 1]? = some (.cells #[.int .i64 0, .string ⟨#[]⟩, .string ⟨#[]⟩, .string ⟨#[]⟩, .bool false] 28 (0, 0))
  low : Below w.heap.size w W
theorem TW.below {w W V : World} {c0 c1 c2 c3 c4 : Value} (h : TW w W c0 c1 c2 c3 c4) (hb : Below W.heap.size W V) : TW w V c0 c1 c2 c3 c4 :=
  ⟨(hb.block _ (lt_of_heap h.r)).trans h.r, (hb.block _ (lt_of_heap h.o)).trans h.o, h.low.trans (hb.mono h.low.size)⟩
theorem TW.start {w W0 : World} {c0 c1 c2 c3 c4 : Value} (h : W0 = (w.alloc (.cells #[c0, c1, c2, c3, c4] 28 (0, 0))).alloc (.cells #[.int .i64 0, .string ⟨#[]⟩, .string ⟨#[]⟩, .string ⟨#[]⟩, .bool false] 28 (0, 0))) : TW w W0 c0 c1 c2 c3 c4 := by
  obtain ⟨a, b, c⟩ := two_at h
  exact ⟨a, b, c⟩
theorem TW.store {w W : World} {c0 c1 c2 c3 c4 : Value} (h : TW w W c0 c1 c2 c3 c4) (d2 d3 d4 : Value) : TW w (((W.setCell ⟨w.heap.size, 2, none⟩ d2).setCell ⟨w.heap.size, 3, none⟩ d3).setCell ⟨w.heap.size, 4, none⟩ d4) c0 c1 d2 d3 d4 := by
  refine ⟨?_, ?_, ?_⟩
  · simp [World.setCell, Array.getElem?_modify, h.r]
  · iterate 3 rw [Below.heap_setCell _ _ _ _ (show w.heap.size + 1 ≠ w.heap.size by omega)]
    exact h.o
  · iterate 3 refine Below.setCell ?_ (show w.heap.size ≤ w.heap.size from Nat.le_refl _) _
    exact h.low
theorem TW.out {w W : World} {c0 c1 c2 c3 c4 : Value} (h : TW w W c0 c1 c2 c3 c4) (a0 a1 a2 a3 a4 : Value) : Below w.heap.size w (((((W.setCell ⟨w.heap.size + 1, 0, none⟩ a0).setCell ⟨w.heap.size + 1, 1, none⟩ a1).setCell ⟨w.heap.size + 1, 2, none⟩ a2).setCell ⟨w.heap.size + 1, 3, none⟩ a3).setCell ⟨w.heap.size + 1, 4, none⟩ a4) := by
  iterate 5 refine Below.setCell ?_ (show w.heap.size ≤ w.heap.size + 1 by omega) _
  exact h.low
/-- A target as a value. -/
def tgV (t : TG) : Value := .agg #[.int .i64 t.form, .string (str t.host), .string (str t.path), .string (str t.query), .bool t.has]
theorem cutF_len (x : UInt8) : ∀ s : B, (cutF x s).1.length ≤ s.length ∧ (cutF x s).2.1.length ≤ s.length
  | [] => ⟨Nat.le_refl _, Nat.le_refl _⟩
  | c :: l => by
    have := cutF_len x l
    unfold cutF
    split
    · simp
    · simp
      omega
set_option maxRecDepth 20000 in
set_option maxHeartbeats 8000000 in
theorem rbehind_root (f : Int) (h s : B) (hs : s.length ≤ 35184372088832) (A P Q : B) (K : Bool) (hc : cutF 63 s = (A, Q, K)) (hP : P = pathOf f A) (hA : A = []) (hf : f = 2) (w : World) : Calls Tryd.prog 30 #[tgV ⟨f, h, [], [], false⟩, .string (str s)] w fun e w' => e = .returned (.tuple #[tgV (behindB f h s).1, .int .i64 ((behindB f h s).2 : Int)]) ∧ Below w.heap.size w w' := by
  have HCu := hid (rcut_any s 63 hs)
  rw [hc] at HCu
  dsimp only at HCu
  rw [show byteV 63 = .int .u8 63 from rfl] at HCu
  have hl := cutF_len 63 s
  rw [hc] at hl
  dsimp only at hl
  have hPl : P.length ≤ 35184372088832 := by
    rw [hP]
    unfold pathOf
    split
    · simp
    · exact Nat.le_trans hl.1 hs
  have HPa := hid (rpath_any P hPl)
  have HQu := hid (rquery_any Q (Nat.le_trans hl.2 hs))
  have HBe := hid (show behindB f h s = if isPath P = false ∨ isQuery Q = false then (TG.zero, 23) else (⟨f, h, P, Q, K⟩, 0) from by unfold behindB; rw [hc, hP])
  subst hA
  subst hf
  obtain rfl : P = [47] := by rw [hP]; rfl
  obtain ⟨S, hS⟩ : ∃ S, str s = S := ⟨_, rfl⟩
  rw [hS] at HCu ⊢
  obtain ⟨Hs, hHs⟩ : ∃ Hs, str h = Hs := ⟨_, rfl⟩
  have HHs := hid hHs
  obtain ⟨W0, hW0⟩ : ∃ W0, W0 = (w.alloc (.cells #[.int .i64 2, .string (str h), .string ⟨#[]⟩, .string ⟨#[]⟩, .bool false] 28 (0, 0))).alloc (.cells #[.int .i64 0, .string ⟨#[]⟩, .string ⟨#[]⟩, .string ⟨#[]⟩, .bool false] 28 (0, 0)) := ⟨_, rfl⟩
  have HW0 := hid hW0
  have HT0 := hid (TW.start hW0)
  clear hW0 hHs hS hl hPl hs hc hP
  unfold tgV
  dsimp only
  rw [show str [] = (⟨#[]⟩ : ByteArray) from rfl]
  cases hp : isPath [47] with
  | false =>
    have HV := hid (show behindB 2 h s = (TG.zero, 23) from by rw [HBe.out, if_pos (.inl hp)])
    rw [hp] at HPa
    clear hp
    go_enter Tryd.func30, Tryd.ntmps30
    go_wp2_with (first | (go_at_call 51; (with_reducible refine (HCu.out _).mono ?_); rintro e w1 ⟨rfl, hb⟩; rw [← HW0.out] at hb; have HT1 := hid (HT0.out.below hb); obtain ⟨x0, x1, x2, x3, x4, xz⟩ := five HT1.out.r; clear hb xz) | (go_at_call 38; (with_reducible refine (HPa.out _).mono ?_); rintro e w2 ⟨rfl, hb⟩; have HT2 := hid (HT1.out.below hb); clear x0 x1 x2 x3 x4; obtain ⟨x0, x1, x2, x3, x4, xz⟩ := five HT2.out.r; obtain ⟨_, _, _, _, _, oz⟩ := five HT2.out.o; have oz0 := oz 0; have oz1 := oz 1; have oz2 := oz 2; have oz3 := oz 3; have oz4 := oz 4; clear hb xz oz))
    (try simp only [Exit.inBlock, Exit.then])
    refine bodyPost_ret (results_tgtmp rfl _ _ _ 28 _ (0, 0) rfl (five_put (has_five HT2.out.o) _ _ _ _ _) rfl) rfl ?_
    rw [HV.out]
    exact ⟨rfl, HT2.out.out _ _ _ _ _⟩
  | true =>
    rw [hp] at HPa
    cases hq : isQuery Q with
    | false =>
      have HV := hid (show behindB 2 h s = (TG.zero, 23) from by rw [HBe.out, if_pos (.inr hq)])
      rw [hq] at HQu
      clear hp hq
      go_enter Tryd.func30, Tryd.ntmps30
      go_wp2_with (first | (go_at_call 51; (with_reducible refine (HCu.out _).mono ?_); rintro e w1 ⟨rfl, hb⟩; rw [← HW0.out] at hb; have HT1 := hid (HT0.out.below hb); obtain ⟨x0, x1, x2, x3, x4, xz⟩ := five HT1.out.r; clear hb xz) | (go_at_call 38; (with_reducible refine (HPa.out _).mono ?_); rintro e w2 ⟨rfl, hb⟩; have HT2 := hid (HT1.out.below hb); clear x0 x1 x2 x3 x4; obtain ⟨x0, x1, x2, x3, x4, xz⟩ := five HT2.out.r; obtain ⟨_, _, _, _, _, oz⟩ := five HT2.out.o; have oz0 := oz 0; have oz1 := oz 1; have oz2 := oz 2; have oz3 := oz 3; have oz4 := oz 4; clear hb xz oz) | (go_at_call 50; (with_reducible refine (HQu.out _).mono ?_); rintro e w3 ⟨rfl, hb⟩; have HT3 := hid (HT2.out.below hb); clear x0 x1 x2 x3 x4 oz0 oz1 oz2 oz3 oz4; obtain ⟨x0, x1, x2, x3, x4, xz⟩ := five HT3.out.r; have xz2 := xz 2; have xz3 := xz 3; have xz4 := xz 4; obtain ⟨y0, y1, y2, y3, y4, oz⟩ := five HT3.out.o; have oz0 := oz 0; have oz1 := oz 1; have oz2 := oz 2; have oz3 := oz 3; have oz4 := oz 4; clear hb xz oz))
      (try simp only [Exit.inBlock, Exit.then])
      refine bodyPost_ret (results_tgtmp rfl _ _ _ 28 _ (0, 0) rfl (five_put (has_five HT3.out.o) _ _ _ _ _) rfl) rfl ?_
      rw [HV.out]
      exact ⟨rfl, HT3.out.out _ _ _ _ _⟩
    | true =>
      have HV := hid (show behindB 2 h s = (⟨2, h, [47], Q, K⟩, 0) from by rw [HBe.out, if_neg (by rw [hp, hq]; simp)])
      rw [hq] at HQu
      clear hp hq
      go_enter Tryd.func30, Tryd.ntmps30
      go_wp2_with (first | (go_at_call 51; (with_reducible refine (HCu.out _).mono ?_); rintro e w1 ⟨rfl, hb⟩; rw [← HW0.out] at hb; have HT1 := hid (HT0.out.below hb); obtain ⟨x0, x1, x2, x3, x4, xz⟩ := five HT1.out.r; clear hb xz) | (go_at_call 38; (with_reducible refine (HPa.out _).mono ?_); rintro e w2 ⟨rfl, hb⟩; have HT2 := hid (HT1.out.below hb); clear x0 x1 x2 x3 x4; obtain ⟨x0, x1, x2, x3, x4, xz⟩ := five HT2.out.r; obtain ⟨_, _, _, _, _, oz⟩ := five HT2.out.o; have oz0 := oz 0; have oz1 := oz 1; have oz2 := oz 2; have oz3 := oz 3; have oz4 := oz 4; clear hb xz oz) | (go_at_call 50; (with_reducible refine (HQu.out _).mono ?_); rintro e w3 ⟨rfl, hb⟩; have HT3 := hid (HT2.out.below hb); clear x0 x1 x2 x3 x4 oz0 oz1 oz2 oz3 oz4; obtain ⟨x0, x1, x2, x3, x4, xz⟩ := five HT3.out.r; have xz2 := xz 2; have xz3 := xz 3; have xz4 := xz 4; obtain ⟨y0, y1, y2, y3, y4, oz⟩ := five HT3.out.o; have oz0 := oz 0; have oz1 := oz 1; have oz2 := oz 2; have oz3 := oz 3; have oz4 := oz 4; clear hb xz oz))
      (try simp only [Exit.inBlock, Exit.then])
      refine bodyPost_ret (results_tgtmp rfl _ _ _ 28 _ (0, 0) rfl (five_put (has_five (HT3.out.store _ _ _).o) _ _ _ _ _) rfl) rfl ?_
      rw [HV.out]
      exact ⟨rfl, (HT3.out.store _ _ _).out _ _ _ _ _⟩
set_option maxRecDepth 20000 in
set_option maxHeartbeats 8000000 in
theorem rbehind_none (f : Int) (h s : B) (hs : s.length ≤ 35184372088832) (A P Q : B) (K : Bool) (hc : cutF 63 s = (A, Q, K)) (hP : P = pathOf f A) (hA : A = []) (hf : f = 1) (w : World) : Calls Tryd.prog 30 #[tgV ⟨f, h, [], [], false⟩, .string (str s)] w fun e w' => e = .returned (.tuple #[tgV (behindB f h s).1, .int .i64 ((behindB f h s).2 : Int)]) ∧ Below w.heap.size w w' := by
  have HCu := hid (rcut_any s 63 hs)
  rw [hc] at HCu
  dsimp only at HCu
  rw [show byteV 63 = .int .u8 63 from rfl] at HCu
  have hl := cutF_len 63 s
  rw [hc] at hl
  dsimp only at hl
  have hPl : P.length ≤ 35184372088832 := by
    rw [hP]
    unfold pathOf
    split
    · simp
    · exact Nat.le_trans hl.1 hs
  have HPa := hid (rpath_any P hPl)
  have HQu := hid (rquery_any Q (Nat.le_trans hl.2 hs))
  have HBe := hid (show behindB f h s = if isPath P = false ∨ isQuery Q = false then (TG.zero, 23) else (⟨f, h, P, Q, K⟩, 0) from by unfold behindB; rw [hc, hP])
  subst hA
  subst hf
  obtain rfl : P = [] := by rw [hP]; rfl
  obtain ⟨S, hS⟩ : ∃ S, str s = S := ⟨_, rfl⟩
  rw [hS] at HCu ⊢
  obtain ⟨Hs, hHs⟩ : ∃ Hs, str h = Hs := ⟨_, rfl⟩
  have HHs := hid hHs
  obtain ⟨W0, hW0⟩ : ∃ W0, W0 = (w.alloc (.cells #[.int .i64 1, .string (str h), .string ⟨#[]⟩, .string ⟨#[]⟩, .bool false] 28 (0, 0))).alloc (.cells #[.int .i64 0, .string ⟨#[]⟩, .string ⟨#[]⟩, .string ⟨#[]⟩, .bool false] 28 (0, 0)) := ⟨_, rfl⟩
  have HW0 := hid hW0
  have HT0 := hid (TW.start hW0)
  clear hW0 hHs hS hl hPl hs hc hP
  unfold tgV
  dsimp only
  rw [show str [] = (⟨#[]⟩ : ByteArray) from rfl]
  cases hp : isPath [] with
  | false =>
    have HV := hid (show behindB 1 h s = (TG.zero, 23) from by rw [HBe.out, if_pos (.inl hp)])
    rw [hp] at HPa
    clear hp
    go_enter Tryd.func30, Tryd.ntmps30
    go_wp2_with (first | (go_at_call 51; (with_reducible refine (HCu.out _).mono ?_); rintro e w1 ⟨rfl, hb⟩; rw [← HW0.out] at hb; have HT1 := hid (HT0.out.below hb); obtain ⟨x0, x1, x2, x3, x4, xz⟩ := five HT1.out.r; clear hb xz) | (go_at_call 38; (with_reducible refine (HPa.out _).mono ?_); rintro e w2 ⟨rfl, hb⟩; have HT2 := hid (HT1.out.below hb); clear x0 x1 x2 x3 x4; obtain ⟨x0, x1, x2, x3, x4, xz⟩ := five HT2.out.r; obtain ⟨_, _, _, _, _, oz⟩ := five HT2.out.o; have oz0 := oz 0; have oz1 := oz 1; have oz2 := oz 2; have oz3 := oz 3; have oz4 := oz 4; clear hb xz oz))
    (try simp only [Exit.inBlock, Exit.then])
    refine bodyPost_ret (results_tgtmp rfl _ _ _ 28 _ (0, 0) rfl (five_put (has_five HT2.out.o) _ _ _ _ _) rfl) rfl ?_
    rw [HV.out]
    exact ⟨rfl, HT2.out.out _ _ _ _ _⟩
  | true =>
    rw [hp] at HPa
    cases hq : isQuery Q with
    | false =>
      have HV := hid (show behindB 1 h s = (TG.zero, 23) from by rw [HBe.out, if_pos (.inr hq)])
      rw [hq] at HQu
      clear hp hq
      go_enter Tryd.func30, Tryd.ntmps30
      go_wp2_with (first | (go_at_call 51; (with_reducible refine (HCu.out _).mono ?_); rintro e w1 ⟨rfl, hb⟩; rw [← HW0.out] at hb; have HT1 := hid (HT0.out.below hb); obtain ⟨x0, x1, x2, x3, x4, xz⟩ := five HT1.out.r; clear hb xz) | (go_at_call 38; (with_reducible refine (HPa.out _).mono ?_); rintro e w2 ⟨rfl, hb⟩; have HT2 := hid (HT1.out.below hb); clear x0 x1 x2 x3 x4; obtain ⟨x0, x1, x2, x3, x4, xz⟩ := five HT2.out.r; obtain ⟨_, _, _, _, _, oz⟩ := five HT2.out.o; have oz0 := oz 0; have oz1 := oz 1; have oz2 := oz 2; have oz3 := oz 3; have oz4 := oz 4; clear hb xz oz) | (go_at_call 50; (with_reducible refine (HQu.out _).mono ?_); rintro e w3 ⟨rfl, hb⟩; have HT3 := hid (HT2.out.below hb); clear x0 x1 x2 x3 x4 oz0 oz1 oz2 oz3 oz4; obtain ⟨x0, x1, x2, x3, x4, xz⟩ := five HT3.out.r; have xz2 := xz 2; have xz3 := xz 3; have xz4 := xz 4; obtain ⟨y0, y1, y2, y3, y4, oz⟩ := five HT3.out.o; have oz0 := oz 0; have oz1 := oz 1; have oz2 := oz 2; have oz3 := oz 3; have oz4 := oz 4; clear hb xz oz))
      (try simp only [Exit.inBlock, Exit.then])
      refine bodyPost_ret (results_tgtmp rfl _ _ _ 28 _ (0, 0) rfl (five_put (has_five HT3.out.o) _ _ _ _ _) rfl) rfl ?_
      rw [HV.out]
      exact ⟨rfl, HT3.out.out _ _ _ _ _⟩
    | true =>
      have HV := hid (show behindB 1 h s = (⟨1, h, [], Q, K⟩, 0) from by rw [HBe.out, if_neg (by rw [hp, hq]; simp)])
      rw [hq] at HQu
      clear hp hq
      go_enter Tryd.func30, Tryd.ntmps30
      go_wp2_with (first | (go_at_call 51; (with_reducible refine (HCu.out _).mono ?_); rintro e w1 ⟨rfl, hb⟩; rw [← HW0.out] at hb; have HT1 := hid (HT0.out.below hb); obtain ⟨x0, x1, x2, x3, x4, xz⟩ := five HT1.out.r; clear hb xz) | (go_at_call 38; (with_reducible refine (HPa.out _).mono ?_); rintro e w2 ⟨rfl, hb⟩; have HT2 := hid (HT1.out.below hb); clear x0 x1 x2 x3 x4; obtain ⟨x0, x1, x2, x3, x4, xz⟩ := five HT2.out.r; obtain ⟨_, _, _, _, _, oz⟩ := five HT2.out.o; have oz0 := oz 0; have oz1 := oz 1; have oz2 := oz 2; have oz3 := oz 3; have oz4 := oz 4; clear hb xz oz) | (go_at_call 50; (with_reducible refine (HQu.out _).mono ?_); rintro e w3 ⟨rfl, hb⟩; have HT3 := hid (HT2.out.below hb); clear x0 x1 x2 x3 x4 oz0 oz1 oz2 oz3 oz4; obtain ⟨x0, x1, x2, x3, x4, xz⟩ := five HT3.out.r; have xz2 := xz 2; have xz3 := xz 3; have xz4 := xz 4; obtain ⟨y0, y1, y2, y3, y4, oz⟩ := five HT3.out.o; have oz0 := oz 0; have oz1 := oz 1; have oz2 := oz 2; have oz3 := oz 3; have oz4 := oz 4; clear hb xz oz))
      (try simp only [Exit.inBlock, Exit.then])
      refine bodyPost_ret (results_tgtmp rfl _ _ _ 28 _ (0, 0) rfl (five_put (has_five (HT3.out.store _ _ _).o) _ _ _ _ _) rfl) rfl ?_
      rw [HV.out]
      exact ⟨rfl, (HT3.out.store _ _ _).out _ _ _ _ _⟩
set_option maxRecDepth 20000 in
set_option maxHeartbeats 8000000 in
theorem rbehind_some (f : Int) (h s : B) (hs : s.length ≤ 35184372088832) (A P Q : B) (K : Bool) (hc : cutF 63 s = (A, Q, K)) (hP : P = pathOf f A) (hA : A ≠ []) (w : World) : Calls Tryd.prog 30 #[tgV ⟨f, h, [], [], false⟩, .string (str s)] w fun e w' => e = .returned (.tuple #[tgV (behindB f h s).1, .int .i64 ((behindB f h s).2 : Int)]) ∧ Below w.heap.size w w' := by
  have HCu := hid (rcut_any s 63 hs)
  rw [hc] at HCu
  dsimp only at HCu
  rw [show byteV 63 = .int .u8 63 from rfl] at HCu
  have hl := cutF_len 63 s
  rw [hc] at hl
  dsimp only at hl
  have hPl : P.length ≤ 35184372088832 := by
    rw [hP]
    unfold pathOf
    split
    · simp
    · exact Nat.le_trans hl.1 hs
  have HPa := hid (rpath_any P hPl)
  have HQu := hid (rquery_any Q (Nat.le_trans hl.2 hs))
  have HBe := hid (show behindB f h s = if isPath P = false ∨ isQuery Q = false then (TG.zero, 23) else (⟨f, h, P, Q, K⟩, 0) from by unfold behindB; rw [hc, hP])
  obtain rfl : P = A := by rw [hP, pathOf, if_neg (fun e => hA e.1)]
  have hq1 := ne_empty (str_ne hA)
  have hq2 := ne_list (str_ne hA)
  obtain ⟨S, hS⟩ : ∃ S, str s = S := ⟨_, rfl⟩
  rw [hS] at HCu ⊢
  obtain ⟨Hs, hHs⟩ : ∃ Hs, str h = Hs := ⟨_, rfl⟩
  have HHs := hid hHs
  obtain ⟨W0, hW0⟩ : ∃ W0, W0 = (w.alloc (.cells #[.int .i64 f, .string (str h), .string ⟨#[]⟩, .string ⟨#[]⟩, .bool false] 28 (0, 0))).alloc (.cells #[.int .i64 0, .string ⟨#[]⟩, .string ⟨#[]⟩, .string ⟨#[]⟩, .bool false] 28 (0, 0)) := ⟨_, rfl⟩
  have HW0 := hid hW0
  have HT0 := hid (TW.start hW0)
  clear hW0 hHs hS hl hPl hs hc hP
  unfold tgV
  dsimp only
  rw [show str [] = (⟨#[]⟩ : ByteArray) from rfl]
  cases hp : isPath P with
  | false =>
    have HV := hid (show behindB f h s = (TG.zero, 23) from by rw [HBe.out, if_pos (.inl hp)])
    rw [hp] at HPa
    clear hp
    go_enter Tryd.func30, Tryd.ntmps30
    go_wp2_with (first | (go_at_call 51; (with_reducible refine (HCu.out _).mono ?_); rintro e w1 ⟨rfl, hb⟩; rw [← HW0.out] at hb; have HT1 := hid (HT0.out.below hb); obtain ⟨x0, x1, x2, x3, x4, xz⟩ := five HT1.out.r; clear hb xz) | (go_at_call 38; (with_reducible refine (HPa.out _).mono ?_); rintro e w2 ⟨rfl, hb⟩; have HT2 := hid (HT1.out.below hb); clear x0 x1 x2 x3 x4; obtain ⟨x0, x1, x2, x3, x4, xz⟩ := five HT2.out.r; obtain ⟨_, _, _, _, _, oz⟩ := five HT2.out.o; have oz0 := oz 0; have oz1 := oz 1; have oz2 := oz 2; have oz3 := oz 3; have oz4 := oz 4; clear hb xz oz))
    (try simp only [Exit.inBlock, Exit.then])
    refine bodyPost_ret (results_tgtmp rfl _ _ _ 28 _ (0, 0) rfl (five_put (has_five HT2.out.o) _ _ _ _ _) rfl) rfl ?_
    rw [HV.out]
    exact ⟨rfl, HT2.out.out _ _ _ _ _⟩
  | true =>
    rw [hp] at HPa
    cases hq : isQuery Q with
    | false =>
      have HV := hid (show behindB f h s = (TG.zero, 23) from by rw [HBe.out, if_pos (.inr hq)])
      rw [hq] at HQu
      clear hp hq
      go_enter Tryd.func30, Tryd.ntmps30
      go_wp2_with (first | (go_at_call 51; (with_reducible refine (HCu.out _).mono ?_); rintro e w1 ⟨rfl, hb⟩; rw [← HW0.out] at hb; have HT1 := hid (HT0.out.below hb); obtain ⟨x0, x1, x2, x3, x4, xz⟩ := five HT1.out.r; clear hb xz) | (go_at_call 38; (with_reducible refine (HPa.out _).mono ?_); rintro e w2 ⟨rfl, hb⟩; have HT2 := hid (HT1.out.below hb); clear x0 x1 x2 x3 x4; obtain ⟨x0, x1, x2, x3, x4, xz⟩ := five HT2.out.r; obtain ⟨_, _, _, _, _, oz⟩ := five HT2.out.o; have oz0 := oz 0; have oz1 := oz 1; have oz2 := oz 2; have oz3 := oz 3; have oz4 := oz 4; clear hb xz oz) | (go_at_call 50; (with_reducible refine (HQu.out _).mono ?_); rintro e w3 ⟨rfl, hb⟩; have HT3 := hid (HT2.out.below hb); clear x0 x1 x2 x3 x4 oz0 oz1 oz2 oz3 oz4; obtain ⟨x0, x1, x2, x3, x4, xz⟩ := five HT3.out.r; have xz2 := xz 2; have xz3 := xz 3; have xz4 := xz 4; obtain ⟨y0, y1, y2, y3, y4, oz⟩ := five HT3.out.o; have oz0 := oz 0; have oz1 := oz 1; have oz2 := oz 2; have oz3 := oz 3; have oz4 := oz 4; clear hb xz oz))
      (try simp only [Exit.inBlock, Exit.then])
      refine bodyPost_ret (results_tgtmp rfl _ _ _ 28 _ (0, 0) rfl (five_put (has_five HT3.out.o) _ _ _ _ _) rfl) rfl ?_
      rw [HV.out]
      exact ⟨rfl, HT3.out.out _ _ _ _ _⟩
    | true =>
      have HV := hid (show behindB f h s = (⟨f, h, P, Q, K⟩, 0) from by rw [HBe.out, if_neg (by rw [hp, hq]; simp)])
      rw [hq] at HQu
      clear hp hq
      go_enter Tryd.func30, Tryd.ntmps30
      go_wp2_with (first | (go_at_call 51; (with_reducible refine (HCu.out _).mono ?_); rintro e w1 ⟨rfl, hb⟩; rw [← HW0.out] at hb; have HT1 := hid (HT0.out.below hb); obtain ⟨x0, x1, x2, x3, x4, xz⟩ := five HT1.out.r; clear hb xz) | (go_at_call 38; (with_reducible refine (HPa.out _).mono ?_); rintro e w2 ⟨rfl, hb⟩; have HT2 := hid (HT1.out.below hb); clear x0 x1 x2 x3 x4; obtain ⟨x0, x1, x2, x3, x4, xz⟩ := five HT2.out.r; obtain ⟨_, _, _, _, _, oz⟩ := five HT2.out.o; have oz0 := oz 0; have oz1 := oz 1; have oz2 := oz 2; have oz3 := oz 3; have oz4 := oz 4; clear hb xz oz) | (go_at_call 50; (with_reducible refine (HQu.out _).mono ?_); rintro e w3 ⟨rfl, hb⟩; have HT3 := hid (HT2.out.below hb); clear x0 x1 x2 x3 x4 oz0 oz1 oz2 oz3 oz4; obtain ⟨x0, x1, x2, x3, x4, xz⟩ := five HT3.out.r; have xz2 := xz 2; have xz3 := xz 3; have xz4 := xz 4; obtain ⟨y0, y1, y2, y3, y4, oz⟩ := five HT3.out.o; have oz0 := oz 0; have oz1 := oz 1; have oz2 := oz 2; have oz3 := oz 3; have oz4 := oz 4; clear hb xz oz))
      (try simp only [Exit.inBlock, Exit.then])
      refine bodyPost_ret (results_tgtmp rfl _ _ _ 28 _ (0, 0) rfl (five_put (has_five (HT3.out.store _ _ _).o) _ _ _ _ _) rfl) rfl ?_
      rw [HV.out]
      exact ⟨rfl, (HT3.out.store _ _ _).out _ _ _ _ _⟩
end Go.Proofs.YtbdbmlklijmefaaDoor
