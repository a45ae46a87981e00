/- The program's reader of chunked bodies: one byte that is none of a chunk's own. -/
import Derived.Test.YtnlmjlfoeodleaaGreatDoorKLine
namespace Go.Proofs.YtnlmjlfoeodleaaGreatDoor
open Go.RowKit

theorem next_st (s : KS) (c : UInt8) : (nextK s c).1.st = s.st ∧ (nextK s c).1.most = s.most ∧ (nextK s c).1.told = s.told := by
  unfold nextK ofSizeK ofExtK ofSizeEndK ofFirstK ofNameK ofValueK ofLineEndK addK
  (repeat' split) <;> exact ⟨rfl, rfl, rfl⟩
theorem cnt_yes {s : KS} {c : UInt8} (h : ofLinesK s c = true) : cntK s c = { s with lines := s.lines + 1 } := by unfold cntK; rw [if_pos h]
theorem cnt_no {s : KS} {c : UInt8} (h : ofLinesK s c = false) : cntK s c = s := by unfold cntK; rw [h]; rfl
/-- The step's error is told, and the reader has become it. -/
def StepT (F : Nat → Prop) (w : World) (g : Nat) (x : KS × Nat) (e : Ending) (w' : World) : Prop := e = .returned (errOf x.2) ∧ Turned F w g x.1 w'
theorem Turned.drewN {F : Nat → Prop} {w w' : World} {g : Nat} {s : KS} (h : Turned F w g s w') (q : Nat) : Turned F w g s (w'.drewN q) := by
  obtain ⟨G, hr, ho, hs⟩ := h
  exact ⟨G, hr.next (below_drew (Below.refl _ _) q), ⟨ho.os, ho.tape, ho.output, ho.size, ho.block⟩, hs⟩
theorem Turned.state {F : Nat → Prop} {w w' : World} {g : Nat} {s : KS} (h : Turned F w g s w') (n : Nat) : Turned F w g { s with st := n } (w'.setCell ⟨g, 3, none⟩ (.int .i64 (n : Int))) := by
  obtain ⟨G, hr, ho, hs⟩ := h
  obtain ⟨r1, o1⟩ := hr.put (s' := { s with st := n }) 3 (.int .i64 (n : Int)) (fun t p => by unfold kdCells; simp) rfl rfl
  exact ⟨G, r1, ho.trans o1 hs, hs⟩
theorem RdAt.line {F : Nat → Prop} {w : World} {g : Nat} {s : KS} (h : RdAt F w g s) : RdAt F (w.setCell ⟨g, 7, none⟩ (.int .i64 ((s.lines : Int) + 1))) g { s with lines := s.lines + 1 } ∧ Only F w (w.setCell ⟨g, 7, none⟩ (.int .i64 ((s.lines : Int) + 1))) := h.put (s' := { s with lines := s.lines + 1 }) 7 (.int .i64 ((s.lines : Int) + 1)) (fun t p => by unfold kdCells; simp) rfl rfl
set_option maxRecDepth 20000 in
set_option maxHeartbeats 8000000 in
theorem step_size {F : Nat → Prop} {w : World} {g : Nat} {s : KS} (h : RdAt F w g s) (c : UInt8) (hV : ofLinesK s c = true) (hl : 8192 < s.lines + 1) (hh : s.lines ≤ 8193) : Calls Tryz.prog 111 #[.pointer (some ⟨g, 0, none⟩), byteV c] w (StepT F w g (stepK s c)) := by
  have HE := hid (show stepK s c = ({ s with lines := s.lines + 1 }, 22) from by unfold stepK; rw [cnt_yes hV, if_pos hl])
  rw [HE.out]
  obtain ⟨r1, o1⟩ := h.line
  have HT := hid (show Turned F w g { s with lines := s.lines + 1 } (w.setCell ⟨g, 7, none⟩ (.int .i64 ((s.lines : Int) + 1))) from ⟨F, r1, o1, fun _ h => .inl h⟩)
  obtain ⟨t, p, hc⟩ := h.cells
  have k7 := hc.a7
  have z7 := hc.z 7
  have HO := hid (ofLines_any s g c w hc.a3)
  rw [hV] at HO
  unfold byteV at HO ⊢
  obtain ⟨L, hL⟩ : ∃ L, s.lines = L := ⟨_, rfl⟩
  rw [hL] at k7 HT hl
  have hgt : (8192 : Int) < (L : Int) + 1 := by omega
  have hlt : L ≤ 8193 := by omega
  clear hc h r1 o1 hV hl hh
  go_enter Tryz.func111, Tryz.ntmps111
  go_wp2_with (go_at_call 130; (with_reducible refine HO.out.mono ?_); rintro e w1 ⟨rfl, hw1⟩; subst w1)
  go_ret
  subst hL
  exact ⟨rfl, HT.out⟩
set_option maxRecDepth 20000 in
set_option maxHeartbeats 8000000 in
theorem step_ta {F : Nat → Prop} {w : World} {g : Nat} {s y : KS} (h : RdAt F w g s) (hi : InvK s) (he : s.err = 0) (c : UInt8) (h3 : s.st ≠ 3) (h11 : s.st ≠ 11) (hV : ofLinesK s c = true) (hl : ¬ 8192 < (cntK s c).lines) (hx : nextK (cntK s c) c = (y, 12)) (h6 : s.st < 6) : Calls Tryz.prog 111 #[.pointer (some ⟨g, 0, none⟩), byteV c] w (StepT F w g (stepK s c)) := by
  have HE := hid (show stepK s c = (y, 31) from by unfold stepK; rw [if_neg hl, hx]; unfold judgeK; rw [if_pos rfl, if_pos h6])
  rw [HE.out]
  have hic := (hi.cnt he c).2 hl
  have hys : y.st = s.st := by have := (next_st (cntK s c) c).1; rw [hx] at this; rw [← (cnt_st s c).1]; exact this
  rw [cnt_yes hV] at hic hx hl
  obtain ⟨r1, o1⟩ := h.line
  have hN := next_any r1 hic c h3 h11
  rw [hx] at hN
  obtain ⟨t, p, hc⟩ := h.cells
  have k7 := hc.a7
  have z7 := hc.z 7
  have HO := hid (ofLines_any s g c w hc.a3)
  rw [hV] at HO
  obtain ⟨L, hL⟩ : ∃ L, s.lines = L := ⟨_, rfl⟩
  rw [hL] at k7 hN o1
  have HN := hid (show Calls Tryz.prog 131 #[.pointer (some ⟨g, 0, none⟩), byteV c] (w.setCell ⟨g, 7, none⟩ (.int .i64 ((L : Int) + 1))) (fun e w' => e = .returned (.int .i64 12) ∧ Turned F (w.setCell ⟨g, 7, none⟩ (.int .i64 ((L : Int) + 1))) g y w') from hN)
  unfold byteV at HO HN ⊢
  have hgt : decide ((8192 : Int) < (L : Int) + 1) = false := by have hl2 : ¬ 8192 < s.lines + 1 := hl; rw [decide_eq_false_iff_not]; omega
  have hlt : L ≤ 8193 := by have := hi.high; omega
  obtain ⟨S, hS⟩ : ∃ S, s.st = S := ⟨_, rfl⟩
  rw [hS] at hys
  have hs6 : (S : Int) < 6 := by omega
  have HYS := hid hys
  have HO1 := hid (show Only F w (w.setCell ⟨g, 7, none⟩ (.int .i64 ((L : Int) + 1))) from o1)
  clear hc h hi he hV hl hx hic hN h6 h3 h11 hys hS r1 o1 hL
  go_enter Tryz.func111, Tryz.ntmps111
  go_wp2_with (first | (go_at_call 130; (with_reducible refine HO.out.mono ?_); rintro e w1 ⟨rfl, hw1⟩; subst w1) | (go_at_call 131; (with_reducible refine HN.out.mono ?_); rintro e w2 ⟨rfl, hq⟩; have HQ := hid (Turned.trans HO1.out (fun _ h => .inl h) hq); obtain ⟨G2, hr2, ho2, hs2⟩ := hq; obtain ⟨t2, p2, hc2⟩ := hr2.cells; have q0 := hc2.a0; have q1 := hc2.a1; have q3 := hc2.a3; have q4 := hc2.a4; have z3 := hc2.z 3; rw [HYS.out] at q3; clear hr2 ho2 hs2 hc2 k7 z7))
  go_ret
  exact ⟨rfl, HQ.out⟩
set_option maxRecDepth 20000 in
set_option maxHeartbeats 8000000 in
theorem step_tb {F : Nat → Prop} {w : World} {g : Nat} {s y : KS} (h : RdAt F w g s) (hi : InvK s) (he : s.err = 0) (c : UInt8) (h3 : s.st ≠ 3) (h11 : s.st ≠ 11) (hV : ofLinesK s c = true) (hl : ¬ 8192 < (cntK s c).lines) (hx : nextK (cntK s c) c = (y, 12)) (h6 : ¬ s.st < 6) : Calls Tryz.prog 111 #[.pointer (some ⟨g, 0, none⟩), byteV c] w (StepT F w g (stepK s c)) := by
  have HE := hid (show stepK s c = (y, 21) from by unfold stepK; rw [if_neg hl, hx]; unfold judgeK; rw [if_pos rfl, if_neg h6])
  rw [HE.out]
  have hic := (hi.cnt he c).2 hl
  have hys : y.st = s.st := by have := (next_st (cntK s c) c).1; rw [hx] at this; rw [← (cnt_st s c).1]; exact this
  rw [cnt_yes hV] at hic hx hl
  obtain ⟨r1, o1⟩ := h.line
  have hN := next_any r1 hic c h3 h11
  rw [hx] at hN
  obtain ⟨t, p, hc⟩ := h.cells
  have k7 := hc.a7
  have z7 := hc.z 7
  have HO := hid (ofLines_any s g c w hc.a3)
  rw [hV] at HO
  obtain ⟨L, hL⟩ : ∃ L, s.lines = L := ⟨_, rfl⟩
  rw [hL] at k7 hN o1
  have HN := hid (show Calls Tryz.prog 131 #[.pointer (some ⟨g, 0, none⟩), byteV c] (w.setCell ⟨g, 7, none⟩ (.int .i64 ((L : Int) + 1))) (fun e w' => e = .returned (.int .i64 12) ∧ Turned F (w.setCell ⟨g, 7, none⟩ (.int .i64 ((L : Int) + 1))) g y w') from hN)
  unfold byteV at HO HN ⊢
  have hgt : decide ((8192 : Int) < (L : Int) + 1) = false := by have hl2 : ¬ 8192 < s.lines + 1 := hl; rw [decide_eq_false_iff_not]; omega
  have hlt : L ≤ 8193 := by have := hi.high; omega
  obtain ⟨S, hS⟩ : ∃ S, s.st = S := ⟨_, rfl⟩
  rw [hS] at hys
  have hs6 : ¬ (S : Int) < 6 := by omega
  have HYS := hid hys
  have HO1 := hid (show Only F w (w.setCell ⟨g, 7, none⟩ (.int .i64 ((L : Int) + 1))) from o1)
  clear hc h hi he hV hl hx hic hN h6 h3 h11 hys hS r1 o1 hL
  go_enter Tryz.func111, Tryz.ntmps111
  go_wp2_with (first | (go_at_call 130; (with_reducible refine HO.out.mono ?_); rintro e w1 ⟨rfl, hw1⟩; subst w1) | (go_at_call 131; (with_reducible refine HN.out.mono ?_); rintro e w2 ⟨rfl, hq⟩; have HQ := hid (Turned.trans HO1.out (fun _ h => .inl h) hq); obtain ⟨G2, hr2, ho2, hs2⟩ := hq; obtain ⟨t2, p2, hc2⟩ := hr2.cells; have q0 := hc2.a0; have q1 := hc2.a1; have q3 := hc2.a3; have q4 := hc2.a4; have z3 := hc2.z 3; rw [HYS.out] at q3; clear hr2 ho2 hs2 hc2 k7 z7))
  go_ret
  exact ⟨rfl, HQ.out⟩
set_option maxRecDepth 20000 in
set_option maxHeartbeats 8000000 in
theorem step_tc {F : Nat → Prop} {w : World} {g : Nat} {s y : KS} (h : RdAt F w g s) (hi : InvK s) (he : s.err = 0) (c : UInt8) (h3 : s.st ≠ 3) (h11 : s.st ≠ 11) (hV : ofLinesK s c = true) (hl : ¬ 8192 < (cntK s c).lines) (hx : nextK (cntK s c) c = (y, 3)) (hb : y.most - y.told < y.left) (hty : y.told ≤ y.most) (hym : y.most ≤ 1099511627776) : Calls Tryz.prog 111 #[.pointer (some ⟨g, 0, none⟩), byteV c] w (StepT F w g (stepK s c)) := by
  have HE := hid (show stepK s c = (y, 33) from by unfold stepK; rw [if_neg hl, hx]; unfold judgeK; rw [if_neg (show ¬ (3 : Nat) = 12 by decide), if_pos ⟨rfl, hb⟩])
  rw [HE.out]
  have hic := (hi.cnt he c).2 hl
  have hys : y.st = s.st := by have := (next_st (cntK s c) c).1; rw [hx] at this; rw [← (cnt_st s c).1]; exact this
  rw [cnt_yes hV] at hic hx hl
  obtain ⟨r1, o1⟩ := h.line
  have hN := next_any r1 hic c h3 h11
  rw [hx] at hN
  obtain ⟨t, p, hc⟩ := h.cells
  have k7 := hc.a7
  have z7 := hc.z 7
  have HO := hid (ofLines_any s g c w hc.a3)
  rw [hV] at HO
  obtain ⟨L, hL⟩ : ∃ L, s.lines = L := ⟨_, rfl⟩
  rw [hL] at k7 hN o1
  have HN := hid (show Calls Tryz.prog 131 #[.pointer (some ⟨g, 0, none⟩), byteV c] (w.setCell ⟨g, 7, none⟩ (.int .i64 ((L : Int) + 1))) (fun e w' => e = .returned (.int .i64 3) ∧ Turned F (w.setCell ⟨g, 7, none⟩ (.int .i64 ((L : Int) + 1))) g y w') from hN)
  unfold byteV at HO HN ⊢
  have hgt : decide ((8192 : Int) < (L : Int) + 1) = false := by have hl2 : ¬ 8192 < s.lines + 1 := hl; rw [decide_eq_false_iff_not]; omega
  have hlt : L ≤ 8193 := by have := hi.high; omega
  obtain ⟨YM, hYM⟩ : ∃ YM, y.most = YM := ⟨_, rfl⟩
  obtain ⟨YT, hYT⟩ : ∃ YT, y.told = YT := ⟨_, rfl⟩
  obtain ⟨YL, hYL⟩ : ∃ YL : Int, (y.left : Int) = YL := ⟨_, rfl⟩
  have hw1 : wrap64 ((YM : Int) - (YT : Int)) = (YM : Int) - (YT : Int) := by unfold wrap64; omega
  have hw2 : IntKind.u64.wrap ((YM : Int) - (YT : Int)) = (YM : Int) - (YT : Int) := wraps_u64 _ (by omega) (by omega)
  have hbb :  ((YM : Int) - (YT : Int) < YL) := by omega
  have HYM := hid hYM
  have HYT := hid hYT
  have HYL := hid hYL
  have HO1 := hid (show Only F w (w.setCell ⟨g, 7, none⟩ (.int .i64 ((L : Int) + 1))) from o1)
  clear hc h hi he hV hl hx hic hN hb hys h3 h11 hYM hYT hYL hty hym r1 o1 hL
  go_enter Tryz.func111, Tryz.ntmps111
  go_wp2_with (first | (go_at_call 130; (with_reducible refine HO.out.mono ?_); rintro e w1 ⟨rfl, hw1⟩; subst w1) | (go_at_call 131; (with_reducible refine HN.out.mono ?_); rintro e w2 ⟨rfl, hq⟩; have HQ := hid (Turned.trans HO1.out (fun _ h => .inl h) hq); obtain ⟨G2, hr2, ho2, hs2⟩ := hq; obtain ⟨t2, p2, hc2⟩ := hr2.cells; have q0 := hc2.a0; have q1 := hc2.a1; have q3 := hc2.a3; have q4 := hc2.a4; have z3 := hc2.z 3; rw [HYM.out] at q0; rw [HYT.out] at q1; rw [HYL.out] at q4; clear hr2 ho2 hs2 hc2 k7 z7))
  go_quiet (fail)
  go_wp2
  go_ret
  exact ⟨rfl, HQ.out.drewN _⟩
set_option maxRecDepth 20000 in
set_option maxHeartbeats 8000000 in
theorem step_td {F : Nat → Prop} {w : World} {g : Nat} {s y : KS} (h : RdAt F w g s) (hi : InvK s) (he : s.err = 0) (c : UInt8) (h3 : s.st ≠ 3) (h11 : s.st ≠ 11) (hV : ofLinesK s c = true) (hl : ¬ 8192 < (cntK s c).lines) (hx : nextK (cntK s c) c = (y, 3)) (hb : ¬ y.most - y.told < y.left) (hty : y.told ≤ y.most) (hym : y.most ≤ 1099511627776) : Calls Tryz.prog 111 #[.pointer (some ⟨g, 0, none⟩), byteV c] w (StepT F w g (stepK s c)) := by
  have HE := hid (show stepK s c = ({ y with st := 3 }, 0) from by unfold stepK; rw [if_neg hl, hx]; unfold judgeK; rw [if_neg (show ¬ (3 : Nat) = 12 by decide), if_neg (fun h => hb h.2)])
  rw [HE.out]
  have hic := (hi.cnt he c).2 hl
  have hys : y.st = s.st := by have := (next_st (cntK s c) c).1; rw [hx] at this; rw [← (cnt_st s c).1]; exact this
  rw [cnt_yes hV] at hic hx hl
  obtain ⟨r1, o1⟩ := h.line
  have hN := next_any r1 hic c h3 h11
  rw [hx] at hN
  obtain ⟨t, p, hc⟩ := h.cells
  have k7 := hc.a7
  have z7 := hc.z 7
  have HO := hid (ofLines_any s g c w hc.a3)
  rw [hV] at HO
  obtain ⟨L, hL⟩ : ∃ L, s.lines = L := ⟨_, rfl⟩
  rw [hL] at k7 hN o1
  have HN := hid (show Calls Tryz.prog 131 #[.pointer (some ⟨g, 0, none⟩), byteV c] (w.setCell ⟨g, 7, none⟩ (.int .i64 ((L : Int) + 1))) (fun e w' => e = .returned (.int .i64 3) ∧ Turned F (w.setCell ⟨g, 7, none⟩ (.int .i64 ((L : Int) + 1))) g y w') from hN)
  unfold byteV at HO HN ⊢
  have hgt : decide ((8192 : Int) < (L : Int) + 1) = false := by have hl2 : ¬ 8192 < s.lines + 1 := hl; rw [decide_eq_false_iff_not]; omega
  have hlt : L ≤ 8193 := by have := hi.high; omega
  obtain ⟨YM, hYM⟩ : ∃ YM, y.most = YM := ⟨_, rfl⟩
  obtain ⟨YT, hYT⟩ : ∃ YT, y.told = YT := ⟨_, rfl⟩
  obtain ⟨YL, hYL⟩ : ∃ YL : Int, (y.left : Int) = YL := ⟨_, rfl⟩
  have hw1 : wrap64 ((YM : Int) - (YT : Int)) = (YM : Int) - (YT : Int) := by unfold wrap64; omega
  have hw2 : IntKind.u64.wrap ((YM : Int) - (YT : Int)) = (YM : Int) - (YT : Int) := wraps_u64 _ (by omega) (by omega)
  have hbb : ¬ ((YM : Int) - (YT : Int) < YL) := by omega
  have HYM := hid hYM
  have HYT := hid hYT
  have HYL := hid hYL
  have HO1 := hid (show Only F w (w.setCell ⟨g, 7, none⟩ (.int .i64 ((L : Int) + 1))) from o1)
  clear hc h hi he hV hl hx hic hN hb hys h3 h11 hYM hYT hYL hty hym r1 o1 hL
  go_enter Tryz.func111, Tryz.ntmps111
  go_wp2_with (first | (go_at_call 130; (with_reducible refine HO.out.mono ?_); rintro e w1 ⟨rfl, hw1⟩; subst w1) | (go_at_call 131; (with_reducible refine HN.out.mono ?_); rintro e w2 ⟨rfl, hq⟩; have HQ := hid (Turned.trans HO1.out (fun _ h => .inl h) hq); obtain ⟨G2, hr2, ho2, hs2⟩ := hq; obtain ⟨t2, p2, hc2⟩ := hr2.cells; have q0 := hc2.a0; have q1 := hc2.a1; have q3 := hc2.a3; have q4 := hc2.a4; have z3 := hc2.z 3; rw [HYM.out] at q0; rw [HYT.out] at q1; rw [HYL.out] at q4; clear hr2 ho2 hs2 hc2 k7 z7))
  go_quiet (fail)
  go_wp2
  go_ret
  exact ⟨rfl, (HQ.out.drewN _).state 3⟩
set_option maxRecDepth 20000 in
set_option maxHeartbeats 8000000 in
theorem step_te {F : Nat → Prop} {w : World} {g : Nat} {s y : KS} (h : RdAt F w g s) (hi : InvK s) (he : s.err = 0) (c : UInt8) (h3 : s.st ≠ 3) (h11 : s.st ≠ 11) (hV : ofLinesK s c = true) (hl : ¬ 8192 < (cntK s c).lines) {n : Nat} (hx : nextK (cntK s c) c = (y, n)) (h12 : n ≠ 12) (hn3 : n ≠ 3) : Calls Tryz.prog 111 #[.pointer (some ⟨g, 0, none⟩), byteV c] w (StepT F w g (stepK s c)) := by
  have HE := hid (show stepK s c = ({ y with st := n }, 0) from by unfold stepK; rw [if_neg hl, hx]; unfold judgeK; rw [if_neg h12, if_neg (fun h => hn3 h.1)])
  rw [HE.out]
  have hic := (hi.cnt he c).2 hl
  have hys : y.st = s.st := by have := (next_st (cntK s c) c).1; rw [hx] at this; rw [← (cnt_st s c).1]; exact this
  rw [cnt_yes hV] at hic hx hl
  obtain ⟨r1, o1⟩ := h.line
  have hN := next_any r1 hic c h3 h11
  rw [hx] at hN
  obtain ⟨t, p, hc⟩ := h.cells
  have k7 := hc.a7
  have z7 := hc.z 7
  have HO := hid (ofLines_any s g c w hc.a3)
  rw [hV] at HO
  obtain ⟨L, hL⟩ : ∃ L, s.lines = L := ⟨_, rfl⟩
  rw [hL] at k7 hN o1
  have HN := hid (show Calls Tryz.prog 131 #[.pointer (some ⟨g, 0, none⟩), byteV c] (w.setCell ⟨g, 7, none⟩ (.int .i64 ((L : Int) + 1))) (fun e w' => e = .returned (.int .i64 (n : Int)) ∧ Turned F (w.setCell ⟨g, 7, none⟩ (.int .i64 ((L : Int) + 1))) g y w') from hN)
  unfold byteV at HO HN ⊢
  have hgt : decide ((8192 : Int) < (L : Int) + 1) = false := by have hl2 : ¬ 8192 < s.lines + 1 := hl; rw [decide_eq_false_iff_not]; omega
  have hlt : L ≤ 8193 := by have := hi.high; omega
  have f12 : ((n : Int) == 12) = false := i_ne (b := 12) h12
  have f3 : ((n : Int) == 3) = false := i_ne (b := 3) hn3
  have HO1 := hid (show Only F w (w.setCell ⟨g, 7, none⟩ (.int .i64 ((L : Int) + 1))) from o1)
  clear hc h hi he hV hl hx hic hN h12 hn3 hys h3 h11 r1 o1 hL
  go_enter Tryz.func111, Tryz.ntmps111
  go_wp2_with (first | (go_at_call 130; (with_reducible refine HO.out.mono ?_); rintro e w1 ⟨rfl, hw1⟩; subst w1) | (go_at_call 131; (with_reducible refine HN.out.mono ?_); rintro e w2 ⟨rfl, hq⟩; have HQ := hid (Turned.trans HO1.out (fun _ h => .inl h) hq); obtain ⟨G2, hr2, ho2, hs2⟩ := hq; obtain ⟨t2, p2, hc2⟩ := hr2.cells; have q0 := hc2.a0; have q1 := hc2.a1; have q3 := hc2.a3; have q4 := hc2.a4; have z3 := hc2.z 3; clear hr2 ho2 hs2 hc2 k7 z7))
  go_quiet (fail)
  go_wp2
  go_ret
  exact ⟨rfl, (HQ.out.drewN _).state n⟩
set_option maxRecDepth 20000 in
set_option maxHeartbeats 8000000 in
theorem step_fa {F : Nat → Prop} {w : World} {g : Nat} {s y : KS} (h : RdAt F w g s) (hi : InvK s) (he : s.err = 0) (c : UInt8) (h3 : s.st ≠ 3) (h11 : s.st ≠ 11) (hV : ofLinesK s c = false) (hl : ¬ 8192 < (cntK s c).lines) (hx : nextK (cntK s c) c = (y, 12)) (h6 : s.st < 6) : Calls Tryz.prog 111 #[.pointer (some ⟨g, 0, none⟩), byteV c] w (StepT F w g (stepK s c)) := by
  have HE := hid (show stepK s c = (y, 31) from by unfold stepK; rw [if_neg hl, hx]; unfold judgeK; rw [if_pos rfl, if_pos h6])
  rw [HE.out]
  have hic := (hi.cnt he c).2 hl
  have hys : y.st = s.st := by have := (next_st (cntK s c) c).1; rw [hx] at this; rw [← (cnt_st s c).1]; exact this
  rw [cnt_no hV] at hic hx hl
  have hN := next_any h hic c h3 h11
  rw [hx] at hN
  obtain ⟨t, p, hc⟩ := h.cells
  have k7 := hc.a7
  have z7 := hc.z 7
  have HO := hid (ofLines_any s g c w hc.a3)
  rw [hV] at HO
  obtain ⟨L, hL⟩ : ∃ L, s.lines = L := ⟨_, rfl⟩
  rw [hL] at k7
  have HN := hid (show Calls Tryz.prog 131 #[.pointer (some ⟨g, 0, none⟩), byteV c] w (fun e w' => e = .returned (.int .i64 12) ∧ Turned F w g y w') from hN)
  unfold byteV at HO HN ⊢
  have hgt : decide ((8192 : Int) < (L : Int)) = false := by rw [decide_eq_false_iff_not]; omega
  have hlt : L ≤ 8193 := by have := hi.high; omega
  obtain ⟨S, hS⟩ : ∃ S, s.st = S := ⟨_, rfl⟩
  rw [hS] at hys
  have hs6 : (S : Int) < 6 := by omega
  have HYS := hid hys
  have HO1 := hid (show Only F w w from Only.refl _ _)
  clear hc h hi he hV hl hx hic hN h6 h3 h11 hys hS hL
  go_enter Tryz.func111, Tryz.ntmps111
  go_wp2_with (first | (go_at_call 130; (with_reducible refine HO.out.mono ?_); rintro e w1 ⟨rfl, hw1⟩; subst w1) | (go_at_call 131; (with_reducible refine HN.out.mono ?_); rintro e w2 ⟨rfl, hq⟩; have HQ := hid (Turned.trans HO1.out (fun _ h => .inl h) hq); obtain ⟨G2, hr2, ho2, hs2⟩ := hq; obtain ⟨t2, p2, hc2⟩ := hr2.cells; have q0 := hc2.a0; have q1 := hc2.a1; have q3 := hc2.a3; have q4 := hc2.a4; have z3 := hc2.z 3; rw [HYS.out] at q3; clear hr2 ho2 hs2 hc2 k7 z7))
  go_ret
  exact ⟨rfl, HQ.out⟩
set_option maxRecDepth 20000 in
set_option maxHeartbeats 8000000 in
theorem step_fb {F : Nat → Prop} {w : World} {g : Nat} {s y : KS} (h : RdAt F w g s) (hi : InvK s) (he : s.err = 0) (c : UInt8) (h3 : s.st ≠ 3) (h11 : s.st ≠ 11) (hV : ofLinesK s c = false) (hl : ¬ 8192 < (cntK s c).lines) (hx : nextK (cntK s c) c = (y, 12)) (h6 : ¬ s.st < 6) : Calls Tryz.prog 111 #[.pointer (some ⟨g, 0, none⟩), byteV c] w (StepT F w g (stepK s c)) := by
  have HE := hid (show stepK s c = (y, 21) from by unfold stepK; rw [if_neg hl, hx]; unfold judgeK; rw [if_pos rfl, if_neg h6])
  rw [HE.out]
  have hic := (hi.cnt he c).2 hl
  have hys : y.st = s.st := by have := (next_st (cntK s c) c).1; rw [hx] at this; rw [← (cnt_st s c).1]; exact this
  rw [cnt_no hV] at hic hx hl
  have hN := next_any h hic c h3 h11
  rw [hx] at hN
  obtain ⟨t, p, hc⟩ := h.cells
  have k7 := hc.a7
  have z7 := hc.z 7
  have HO := hid (ofLines_any s g c w hc.a3)
  rw [hV] at HO
  obtain ⟨L, hL⟩ : ∃ L, s.lines = L := ⟨_, rfl⟩
  rw [hL] at k7
  have HN := hid (show Calls Tryz.prog 131 #[.pointer (some ⟨g, 0, none⟩), byteV c] w (fun e w' => e = .returned (.int .i64 12) ∧ Turned F w g y w') from hN)
  unfold byteV at HO HN ⊢
  have hgt : decide ((8192 : Int) < (L : Int)) = false := by rw [decide_eq_false_iff_not]; omega
  have hlt : L ≤ 8193 := by have := hi.high; omega
  obtain ⟨S, hS⟩ : ∃ S, s.st = S := ⟨_, rfl⟩
  rw [hS] at hys
  have hs6 : ¬ (S : Int) < 6 := by omega
  have HYS := hid hys
  have HO1 := hid (show Only F w w from Only.refl _ _)
  clear hc h hi he hV hl hx hic hN h6 h3 h11 hys hS hL
  go_enter Tryz.func111, Tryz.ntmps111
  go_wp2_with (first | (go_at_call 130; (with_reducible refine HO.out.mono ?_); rintro e w1 ⟨rfl, hw1⟩; subst w1) | (go_at_call 131; (with_reducible refine HN.out.mono ?_); rintro e w2 ⟨rfl, hq⟩; have HQ := hid (Turned.trans HO1.out (fun _ h => .inl h) hq); obtain ⟨G2, hr2, ho2, hs2⟩ := hq; obtain ⟨t2, p2, hc2⟩ := hr2.cells; have q0 := hc2.a0; have q1 := hc2.a1; have q3 := hc2.a3; have q4 := hc2.a4; have z3 := hc2.z 3; rw [HYS.out] at q3; clear hr2 ho2 hs2 hc2 k7 z7))
  go_ret
  exact ⟨rfl, HQ.out⟩
set_option maxRecDepth 20000 in
set_option maxHeartbeats 8000000 in
theorem step_fc {F : Nat → Prop} {w : World} {g : Nat} {s y : KS} (h : RdAt F w g s) (hi : InvK s) (he : s.err = 0) (c : UInt8) (h3 : s.st ≠ 3) (h11 : s.st ≠ 11) (hV : ofLinesK s c = false) (hl : ¬ 8192 < (cntK s c).lines) (hx : nextK (cntK s c) c = (y, 3)) (hb : y.most - y.told < y.left) (hty : y.told ≤ y.most) (hym : y.most ≤ 1099511627776) : Calls Tryz.prog 111 #[.pointer (some ⟨g, 0, none⟩), byteV c] w (StepT F w g (stepK s c)) := by
  have HE := hid (show stepK s c = (y, 33) from by unfold stepK; rw [if_neg hl, hx]; unfold judgeK; rw [if_neg (show ¬ (3 : Nat) = 12 by decide), if_pos ⟨rfl, hb⟩])
  rw [HE.out]
  have hic := (hi.cnt he c).2 hl
  have hys : y.st = s.st := by have := (next_st (cntK s c) c).1; rw [hx] at this; rw [← (cnt_st s c).1]; exact this
  rw [cnt_no hV] at hic hx hl
  have hN := next_any h hic c h3 h11
  rw [hx] at hN
  obtain ⟨t, p, hc⟩ := h.cells
  have k7 := hc.a7
  have z7 := hc.z 7
  have HO := hid (ofLines_any s g c w hc.a3)
  rw [hV] at HO
  obtain ⟨L, hL⟩ : ∃ L, s.lines = L := ⟨_, rfl⟩
  rw [hL] at k7
  have HN := hid (show Calls Tryz.prog 131 #[.pointer (some ⟨g, 0, none⟩), byteV c] w (fun e w' => e = .returned (.int .i64 3) ∧ Turned F w g y w') from hN)
  unfold byteV at HO HN ⊢
  have hgt : decide ((8192 : Int) < (L : Int)) = false := by rw [decide_eq_false_iff_not]; omega
  have hlt : L ≤ 8193 := by have := hi.high; omega
  obtain ⟨YM, hYM⟩ : ∃ YM, y.most = YM := ⟨_, rfl⟩
  obtain ⟨YT, hYT⟩ : ∃ YT, y.told = YT := ⟨_, rfl⟩
  obtain ⟨YL, hYL⟩ : ∃ YL : Int, (y.left : Int) = YL := ⟨_, rfl⟩
  have hw1 : wrap64 ((YM : Int) - (YT : Int)) = (YM : Int) - (YT : Int) := by unfold wrap64; omega
  have hw2 : IntKind.u64.wrap ((YM : Int) - (YT : Int)) = (YM : Int) - (YT : Int) := wraps_u64 _ (by omega) (by omega)
  have hbb :  ((YM : Int) - (YT : Int) < YL) := by omega
  have HYM := hid hYM
  have HYT := hid hYT
  have HYL := hid hYL
  have HO1 := hid (show Only F w w from Only.refl _ _)
  clear hc h hi he hV hl hx hic hN hb hys h3 h11 hYM hYT hYL hty hym hL
  go_enter Tryz.func111, Tryz.ntmps111
  go_wp2_with (first | (go_at_call 130; (with_reducible refine HO.out.mono ?_); rintro e w1 ⟨rfl, hw1⟩; subst w1) | (go_at_call 131; (with_reducible refine HN.out.mono ?_); rintro e w2 ⟨rfl, hq⟩; have HQ := hid (Turned.trans HO1.out (fun _ h => .inl h) hq); obtain ⟨G2, hr2, ho2, hs2⟩ := hq; obtain ⟨t2, p2, hc2⟩ := hr2.cells; have q0 := hc2.a0; have q1 := hc2.a1; have q3 := hc2.a3; have q4 := hc2.a4; have z3 := hc2.z 3; rw [HYM.out] at q0; rw [HYT.out] at q1; rw [HYL.out] at q4; clear hr2 ho2 hs2 hc2 k7 z7))
  go_quiet (fail)
  go_wp2
  go_ret
  exact ⟨rfl, HQ.out.drewN _⟩
set_option maxRecDepth 20000 in
set_option maxHeartbeats 8000000 in
theorem step_fd {F : Nat → Prop} {w : World} {g : Nat} {s y : KS} (h : RdAt F w g s) (hi : InvK s) (he : s.err = 0) (c : UInt8) (h3 : s.st ≠ 3) (h11 : s.st ≠ 11) (hV : ofLinesK s c = false) (hl : ¬ 8192 < (cntK s c).lines) (hx : nextK (cntK s c) c = (y, 3)) (hb : ¬ y.most - y.told < y.left) (hty : y.told ≤ y.most) (hym : y.most ≤ 1099511627776) : Calls Tryz.prog 111 #[.pointer (some ⟨g, 0, none⟩), byteV c] w (StepT F w g (stepK s c)) := by
  have HE := hid (show stepK s c = ({ y with st := 3 }, 0) from by unfold stepK; rw [if_neg hl, hx]; unfold judgeK; rw [if_neg (show ¬ (3 : Nat) = 12 by decide), if_neg (fun h => hb h.2)])
  rw [HE.out]
  have hic := (hi.cnt he c).2 hl
  have hys : y.st = s.st := by have := (next_st (cntK s c) c).1; rw [hx] at this; rw [← (cnt_st s c).1]; exact this
  rw [cnt_no hV] at hic hx hl
  have hN := next_any h hic c h3 h11
  rw [hx] at hN
  obtain ⟨t, p, hc⟩ := h.cells
  have k7 := hc.a7
  have z7 := hc.z 7
  have HO := hid (ofLines_any s g c w hc.a3)
  rw [hV] at HO
  obtain ⟨L, hL⟩ : ∃ L, s.lines = L := ⟨_, rfl⟩
  rw [hL] at k7
  have HN := hid (show Calls Tryz.prog 131 #[.pointer (some ⟨g, 0, none⟩), byteV c] w (fun e w' => e = .returned (.int .i64 3) ∧ Turned F w g y w') from hN)
  unfold byteV at HO HN ⊢
  have hgt : decide ((8192 : Int) < (L : Int)) = false := by rw [decide_eq_false_iff_not]; omega
  have hlt : L ≤ 8193 := by have := hi.high; omega
  obtain ⟨YM, hYM⟩ : ∃ YM, y.most = YM := ⟨_, rfl⟩
  obtain ⟨YT, hYT⟩ : ∃ YT, y.told = YT := ⟨_, rfl⟩
  obtain ⟨YL, hYL⟩ : ∃ YL : Int, (y.left : Int) = YL := ⟨_, rfl⟩
  have hw1 : wrap64 ((YM : Int) - (YT : Int)) = (YM : Int) - (YT : Int) := by unfold wrap64; omega
  have hw2 : IntKind.u64.wrap ((YM : Int) - (YT : Int)) = (YM : Int) - (YT : Int) := wraps_u64 _ (by omega) (by omega)
  have hbb : ¬ ((YM : Int) - (YT : Int) < YL) := by omega
  have HYM := hid hYM
  have HYT := hid hYT
  have HYL := hid hYL
  have HO1 := hid (show Only F w w from Only.refl _ _)
  clear hc h hi he hV hl hx hic hN hb hys h3 h11 hYM hYT hYL hty hym hL
  go_enter Tryz.func111, Tryz.ntmps111
  go_wp2_with (first | (go_at_call 130; (with_reducible refine HO.out.mono ?_); rintro e w1 ⟨rfl, hw1⟩; subst w1) | (go_at_call 131; (with_reducible refine HN.out.mono ?_); rintro e w2 ⟨rfl, hq⟩; have HQ := hid (Turned.trans HO1.out (fun _ h => .inl h) hq); obtain ⟨G2, hr2, ho2, hs2⟩ := hq; obtain ⟨t2, p2, hc2⟩ := hr2.cells; have q0 := hc2.a0; have q1 := hc2.a1; have q3 := hc2.a3; have q4 := hc2.a4; have z3 := hc2.z 3; rw [HYM.out] at q0; rw [HYT.out] at q1; rw [HYL.out] at q4; clear hr2 ho2 hs2 hc2 k7 z7))
  go_quiet (fail)
  go_wp2
  go_ret
  exact ⟨rfl, (HQ.out.drewN _).state 3⟩
set_option maxRecDepth 20000 in
set_option maxHeartbeats 8000000 in
theorem step_fe {F : Nat → Prop} {w : World} {g : Nat} {s y : KS} (h : RdAt F w g s) (hi : InvK s) (he : s.err = 0) (c : UInt8) (h3 : s.st ≠ 3) (h11 : s.st ≠ 11) (hV : ofLinesK s c = false) (hl : ¬ 8192 < (cntK s c).lines) {n : Nat} (hx : nextK (cntK s c) c = (y, n)) (h12 : n ≠ 12) (hn3 : n ≠ 3) : Calls Tryz.prog 111 #[.pointer (some ⟨g, 0, none⟩), byteV c] w (StepT F w g (stepK s c)) := by
  have HE := hid (show stepK s c = ({ y with st := n }, 0) from by unfold stepK; rw [if_neg hl, hx]; unfold judgeK; rw [if_neg h12, if_neg (fun h => hn3 h.1)])
  rw [HE.out]
  have hic := (hi.cnt he c).2 hl
  have hys : y.st = s.st := by have := (next_st (cntK s c) c).1; rw [hx] at this; rw [← (cnt_st s c).1]; exact this
  rw [cnt_no hV] at hic hx hl
  have hN := next_any h hic c h3 h11
  rw [hx] at hN
  obtain ⟨t, p, hc⟩ := h.cells
  have k7 := hc.a7
  have z7 := hc.z 7
  have HO := hid (ofLines_any s g c w hc.a3)
  rw [hV] at HO
  obtain ⟨L, hL⟩ : ∃ L, s.lines = L := ⟨_, rfl⟩
  rw [hL] at k7
  have HN := hid (show Calls Tryz.prog 131 #[.pointer (some ⟨g, 0, none⟩), byteV c] w (fun e w' => e = .returned (.int .i64 (n : Int)) ∧ Turned F w g y w') from hN)
  unfold byteV at HO HN ⊢
  have hgt : decide ((8192 : Int) < (L : Int)) = false := by rw [decide_eq_false_iff_not]; omega
  have hlt : L ≤ 8193 := by have := hi.high; omega
  have f12 : ((n : Int) == 12) = false := i_ne (b := 12) h12
  have f3 : ((n : Int) == 3) = false := i_ne (b := 3) hn3
  have HO1 := hid (show Only F w w from Only.refl _ _)
  clear hc h hi he hV hl hx hic hN h12 hn3 hys h3 h11 hL
  go_enter Tryz.func111, Tryz.ntmps111
  go_wp2_with (first | (go_at_call 130; (with_reducible refine HO.out.mono ?_); rintro e w1 ⟨rfl, hw1⟩; subst w1) | (go_at_call 131; (with_reducible refine HN.out.mono ?_); rintro e w2 ⟨rfl, hq⟩; have HQ := hid (Turned.trans HO1.out (fun _ h => .inl h) hq); obtain ⟨G2, hr2, ho2, hs2⟩ := hq; obtain ⟨t2, p2, hc2⟩ := hr2.cells; have q0 := hc2.a0; have q1 := hc2.a1; have q3 := hc2.a3; have q4 := hc2.a4; have z3 := hc2.z 3; clear hr2 ho2 hs2 hc2 k7 z7))
  go_quiet (fail)
  go_wp2
  go_ret
  exact ⟨rfl, (HQ.out.drewN _).state n⟩
theorem step_any {F : Nat → Prop} {w : World} {g : Nat} {s : KS} (h : RdAt F w g s) (hi : InvK s) (he : s.err = 0) (c : UInt8) (h3 : s.st ≠ 3) (h11 : s.st ≠ 11) : Calls Tryz.prog 111 #[.pointer (some ⟨g, 0, none⟩), byteV c] w (StepT F w g (stepK s c)) := by
  by_cases hl : 8192 < (cntK s c).lines
  · cases hV : ofLinesK s c with
    | true => exact step_size h c hV (by rw [cnt_yes hV] at hl; exact hl) hi.high
    | false => rw [cnt_no hV] at hl; have := hi.on he; omega
  · obtain ⟨y, n, hx⟩ : ∃ y n, nextK (cntK s c) c = (y, n) := ⟨_, _, rfl⟩
    obtain ⟨_, n2, n3⟩ := next_st (cntK s c) c
    obtain ⟨_, _, _, _, m1, m2⟩ := cnt_st s c
    rw [hx, m1] at n2
    rw [hx, m2] at n3
    have hty : y.told ≤ y.most := by have := hi.told; dsimp only at n2 n3; omega
    have hym : y.most ≤ 1099511627776 := by have := hi.most; dsimp only at n2; omega
    cases hV : ofLinesK s c with
    | true =>
      by_cases h12 : n = 12
      · subst h12
        by_cases h6 : s.st < 6
        · exact step_ta h hi he c h3 h11 hV hl hx h6
        · exact step_tb h hi he c h3 h11 hV hl hx h6
      · by_cases hn3 : n = 3
        · subst hn3
          by_cases hb : y.most - y.told < y.left
          · exact step_tc h hi he c h3 h11 hV hl hx hb hty hym
          · exact step_td h hi he c h3 h11 hV hl hx hb hty hym
        · exact step_te h hi he c h3 h11 hV hl hx h12 hn3
    | false =>
      by_cases h12 : n = 12
      · subst h12
        by_cases h6 : s.st < 6
        · exact step_fa h hi he c h3 h11 hV hl hx h6
        · exact step_fb h hi he c h3 h11 hV hl hx h6
      · by_cases hn3 : n = 3
        · subst hn3
          by_cases hb : y.most - y.told < y.left
          · exact step_fc h hi he c h3 h11 hV hl hx hb hty hym
          · exact step_fd h hi he c h3 h11 hV hl hx hb hty hym
        · exact step_fe h hi he c h3 h11 hV hl hx h12 hn3
end Go.Proofs.YtnlmjlfoeodleaaGreatDoor
