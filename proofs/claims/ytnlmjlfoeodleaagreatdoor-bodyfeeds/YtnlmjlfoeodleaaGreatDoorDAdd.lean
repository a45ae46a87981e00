/- The document's reader of chunked bodies: a byte laid behind a trailer's line. -/
import Derived.Test.YtnlmjlfoeodleaaGreatDoorDTrail
namespace Go.Proofs.YtnlmjlfoeodleaaGreatDoor
open Go.RowKit

theorem one_new (w : World) (o1 o2 : Obj) : ((w.alloc o1).alloc o2).heap[w.heap.size]? = some o1 := by
  have h := (below_new (w.alloc o1) o2).block w.heap.size (by simp)
  rw [h]
  exact heap_alloc_new w o1
/-- The two rows that the function made, in a later world. -/
structure TwoAt (w W : World) (o1 o2 : Obj) : Prop where
  low : Below w.heap.size w W
  b1 : W.heap[w.heap.size]? = some o1
  b2 : W.heap[w.heap.size + 1]? = some o2
  sz : w.heap.size + 2 ≤ W.heap.size
theorem TwoAt.start (w : World) (o1 o2 : Obj) : TwoAt w ((w.alloc o1).alloc o2) o1 o2 := ⟨below_twoD _ _ _, one_new _ _ _, two_new _ _ _, by simp⟩
theorem TwoAt.next {w W W' : World} {o1 o2 : Obj} (h : TwoAt w W o1 o2) (hb : Below (w.heap.size + 2) W W') : TwoAt w W' o1 o2 :=
  ⟨h.low.trans (hb.mono (by omega)), (hb.block _ (by omega)).trans h.b1, (hb.block _ (by omega)).trans h.b2, Nat.le_trans h.sz hb.size⟩
theorem own_none9 {w : World} {b n c : Nat} {p : Option Addr} {X : B} (h : Own w b (.slice p n c) X) : p = none → c = 0 := by
  intro e
  subst e
  rcases h.2 with ⟨h1, _⟩ | ⟨g, cap, cur, h1, _⟩
  · cases h1; rfl
  · cases h1
theorem newR_own {w W : World} {b n c : Nat} {p : Option Addr} {X : B} (h : Own W b (.slice p n c) X) (hb : w.heap.size ≤ b) : NewR w p c := by
  refine ⟨own_none9 h, fun a e => ?_⟩
  subst e
  rcases h.2 with ⟨h1, _⟩ | ⟨g, cap, cur, h1, h2, _⟩
  · cases h1
  · cases h1; exact Nat.le_trans hb (own_ge h rfl)
/-- The last world of a function that laid a row behind its two. -/
theorem add_end {w w2 : World} {o1 : Obj} {x0 x1 x2 x3 x4 x5 x6 x7 x8 x9 : Value} {T : TypeId} (h : TwoAt w w2 o1 (.cells #[x0, x1, x2, x3, x4, x5, x6, x7, x8, x9] T (0, 0))) (j : Nat) (u c0 c1 c2 c3 c4 c5 c6 c7 c8 c9 : Value) : ((((((((((((w2.setCell ⟨w.heap.size, j, none⟩ u).setCell ⟨w.heap.size + 1, 0, none⟩ c0).setCell ⟨w.heap.size + 1, 1, none⟩ c1).setCell ⟨w.heap.size + 1, 2, none⟩ c2).setCell ⟨w.heap.size + 1, 3, none⟩ c3).setCell ⟨w.heap.size + 1, 4, none⟩ c4).setCell ⟨w.heap.size + 1, 5, none⟩ c5).setCell ⟨w.heap.size + 1, 6, none⟩ c6).setCell ⟨w.heap.size + 1, 7, none⟩ c7).setCell ⟨w.heap.size + 1, 8, none⟩ c8).setCell ⟨w.heap.size + 1, 9, none⟩ c9)).heap[w.heap.size + 1]? = some (.cells #[c0, c1, c2, c3, c4, c5, c6, c7, c8, c9] T (0, 0)) := 
  put10 ((Below.heap_setCell _ _ _ _ (fun e => by have e2 : w.heap.size + 1 = w.heap.size := e; omega)).trans h.b2) _ _ _ _ _ _ _ _ _ _
theorem add_own {w w2 : World} {b : Nat} {v : Value} {X : B} (h : Own w2 b v X) (hb : w.heap.size + 2 ≤ b) (j : Nat) (u c0 c1 c2 c3 c4 c5 c6 c7 c8 c9 : Value) : Own ((((((((((((w2.setCell ⟨w.heap.size, j, none⟩ u).setCell ⟨w.heap.size + 1, 0, none⟩ c0).setCell ⟨w.heap.size + 1, 1, none⟩ c1).setCell ⟨w.heap.size + 1, 2, none⟩ c2).setCell ⟨w.heap.size + 1, 3, none⟩ c3).setCell ⟨w.heap.size + 1, 4, none⟩ c4).setCell ⟨w.heap.size + 1, 5, none⟩ c5).setCell ⟨w.heap.size + 1, 6, none⟩ c6).setCell ⟨w.heap.size + 1, 7, none⟩ c7).setCell ⟨w.heap.size + 1, 8, none⟩ c8).setCell ⟨w.heap.size + 1, 9, none⟩ c9)) b v X := by
  refine own_only (F := fun k => k = w.heap.size ∨ k = w.heap.size + 1) h ?_ (fun k e hk => by have := own_ge h e; omega)
  iterate 10 refine Only.set ?_ (.inr rfl) _
  exact Only.set (Only.of_below (Below.refl _ _)) (.inl rfl) _
theorem add_low {w w2 : World} (h : Below w.heap.size w w2) (j : Nat) (u c0 c1 c2 c3 c4 c5 c6 c7 c8 c9 : Value) : Below w.heap.size w ((((((((((((w2.setCell ⟨w.heap.size, j, none⟩ u).setCell ⟨w.heap.size + 1, 0, none⟩ c0).setCell ⟨w.heap.size + 1, 1, none⟩ c1).setCell ⟨w.heap.size + 1, 2, none⟩ c2).setCell ⟨w.heap.size + 1, 3, none⟩ c3).setCell ⟨w.heap.size + 1, 4, none⟩ c4).setCell ⟨w.heap.size + 1, 5, none⟩ c5).setCell ⟨w.heap.size + 1, 6, none⟩ c6).setCell ⟨w.heap.size + 1, 7, none⟩ c7).setCell ⟨w.heap.size + 1, 8, none⟩ c8).setCell ⟨w.heap.size + 1, 9, none⟩ c9)) := by
  iterate 10 refine Below.setCell ?_ (Nat.le_succ _) _
  exact Below.setCell h (Nat.le_refl _) _
set_option maxRecDepth 20000 in
set_option maxHeartbeats 8000000 in
theorem tr_8a (d : DK) (lp tp : Option Addr) (ln lc tn tc : Nat) (c : UInt8) (w : World) (hl : d.line.length = ln) (ht : d.tr.length = tn) (hll : ln ≤ 1048576) (hbb : d.bytes ≤ 1048576) (ha : ArgAt w lp d.line) (hnl : lp = none → lc = 0) (hs : d.st = 6) (he : d.line = []) (hc13 : c ≠ 13) (hc58 : c ≠ 58) (ho : ¬ 8192 < d.bytes + 1) (hk : tokU c = true) (hr : d.tr.length ≠ 64) : Calls Tryz.prog 113 #[.agg (dkC d (.slice lp ln lc) (.slice tp tn tc)), byteV c] w fun e w' => ∃ q2 d2, e = .returned (.agg (dkC { cntD d with line := d.line ++ [c] } (.slice q2 (ln + 1) d2) (.slice tp tn tc))) ∧ ArgAt w' q2 (d.line ++ [c]) ∧ ln + 1 ≤ d2 ∧ NewR w q2 d2 ∧ Below w.heap.size w w' := by
  have HA := hid ha
  have HNl := hid hnl
  have HLn := hid hl
  clear hnl
  obtain ⟨AT, hAT⟩ : ∃ AT : Int, (if (cutF 58 d.line).2.2 = true then ((cutF 58 d.line).1.length : Int) else -1) = AT := ⟨_, rfl⟩
  have HC := hid (fun (W : World) (hW : Below w.heap.size w W) => colon_any d.line lp ln lc hl hll W (ha.next hW))
  rw [hAT] at HC
  rw [he] at hAT hl
  have hAT2 : AT = -1 := by rw [← hAT]; rfl
  subst hAT2
  have hl0 : ln = 0 := by rw [← hl]; rfl
  subst hl0
  clear hAT hl
  have HWd := hid (fun W : World => word_any c W)
  have HT := hid (fun W : World => rtoken_any (c.toNat : Int) W (by omega) (by have := c.toNat_lt; omega))
  unfold byteV at HWd
  rw [show tokB (c.toNat : Int) = tokU c from rfl] at HT
  obtain ⟨V, hV⟩ : ∃ V, valU c = V := ⟨_, rfl⟩
  rw [hV] at HWd
  clear hV
  rw [hk] at HT
  clear hk
  rw [ht] at hr
  have hr2 : ((tn : Int) == 64) = false := i_ne (b := 64) hr
  clear hr
  obtain ⟨most, len, st, e0, digits, size, more, line, bytes, tr, gh⟩ := d
  dsimp only at *
  unfold dkC byteV
  unfold cntD
  dsimp only
  have f13 : ((c.toNat : Int) == 13) = false := c_ne (toNat_ne hc13)
  clear hc13
  have f58 : ((c.toNat : Int) == 58) = false := c_ne (toNat_ne hc58)
  have g58 : ¬ (c.toNat : Int) = 58 := by have := toNat_ne hc58; simp at f58; omega
  have m58 : ((c.toNat : Int) != 58) = true := by simpa using g58
  clear hc58
  subst hs
  obtain ⟨Y, hY⟩ : ∃ Y : Int, (bytes : Int) + 1 = Y := ⟨_, rfl⟩
  have hy0 : (bytes : Int) = Y - 1 := by omega
  have hy1 : 0 < Y := by omega
  have hy2 : Y ≤ 1048577 := by omega
  have ho2 : decide ((8192 : Int) < Y) = false := by rw [decide_eq_false_iff_not]; omega
  clear ho hbb
  clear ht ha he
  have HCb := hid (show Lib.byteCells [c] = [.int .u8 (c.toNat : Int)] from rfl)
  push_cast
  rw [hY, hy0]
  clear hY hy0
  go_enter Tryz.func113, Tryz.ntmps113
  go_wp2_with (first | (go_at_call 132; (with_reducible refine (HC.out _ (below_twoD w _ _)).mono ?_); rintro e w1 ⟨rfl, hw1⟩; subst w1) | (go_at_call 134; (with_reducible refine (HWd.out _).mono ?_); rintro e w1 ⟨rfl, hw1⟩; subst w1) | (go_at_call 125; (with_reducible refine (HT.out _).mono ?_); rintro e w1 ⟨rfl, hw1⟩; subst w1) | (at_builtin; refine wpList_copy rfl (.tmp 32) (.tmp 34) rfl (by go_simp) line lp 0 lc (by go_simp) HLn.out (HA.out.next (below_twoD w _ _)) HNl.out (by omega) ?_; intro q1 d1 w1 ho1 hb1 _ _; have HT2 := hid ((TwoAt.start w _ _).next (hb1.mono (by simp))); have HO1 := hid (own_base ho1 (show w.heap.size + 2 ≤ _ from by simp)); have hx1 := HT2.out.b1; have hx2 := HT2.out.b2; obtain ⟨p0, p1, p2, p3, p4, p5, p6, p7, p8, p9, rq⟩ := cells10 hx1; have r0 := rq 0; have r1 := rq 1; have r2 := rq 2; have r3 := rq 3; have r4 := rq 4; have r5 := rq 5; have r6 := rq 6; have r7 := rq 7; have r8 := rq 8; have r9 := rq 9; clear rq; obtain ⟨k0, k1, k2, k3, k4, k5, k6, k7, k8, k9, zq⟩ := cells10 hx2; have z0 := zq 0; have z1 := zq 1; have z2 := zq 2; have z3 := zq 3; have z4 := zq 4; have z5 := zq 5; have z6 := zq 6; have z7 := zq 7; have z8 := zq 8; have z9 := zq 9; clear zq; clear hx1 hx2 ho1 hb1) | (at_builtin; obtain ⟨i0, hi0, hz0, hz1, hz2⟩ := info_parts infoB; refine wpList_append_own_at _ rfl (.tmp 36) (.tmp 38) 32 rfl (w.heap.size + 2) 5 i0 _ 1 1 Tryz.underlying32 hi0 hz0 hz1 hz2 rfl (by decide) (.slice q1 0 d1) 0 (Lib.byteCells line) (by go_simp) (by have h8 := HO1.out.keep (below_new _ (.cells #[.int .u8 (c.toNat : Int)] 5 (0, 0))); unfold Own at h8; rw [HLn.out] at h8; exact h8) ⟨w1.heap.size, 0, none⟩ 1 1 [.int .u8 (c.toNat : Int)] (by go_simp) rfl (cells_new w1 _ _) (by simp [Value.oneCell']) (by unfold maxLen; omega) (by omega) (by have := HT2.out.sz; simp; omega) ?_; intro v2 w2 hown hgr _ hblk; have HO2 := hid (show Own w2 (w.heap.size + 2) v2 (line ++ [c]) from Own.put (acc := line) (bs := [c]) (by rw [HLn.out]; exact hown) HCb.out rfl); have HT3 := hid ((HT2.out.next ((below_new _ _).mono HT2.out.sz)).next ((Only.grown (F := fun k => (Value.slice q1 0 d1).ownBlock = some k) hgr (fun k e => e)).below (fun k hk => own_ge HO1.out hk) (by have := HT2.out.sz; simp; omega))); obtain ⟨q2, d2, rfl⟩ := own_slice hown; clear hown hgr hblk p0 p1 p2 p3 p4 p5 p6 p7 p8 p9 r0 r1 r2 r3 r4 r5 r6 r7 r8 r9 k0 k1 k2 k3 k4 k5 k6 k7 k8 k9 z0 z1 z2 z3 z4 z5 z6 z7 z8 z9; have hx1 := HT3.out.b1; have hx2 := HT3.out.b2; obtain ⟨p0, p1, p2, p3, p4, p5, p6, p7, p8, p9, rq⟩ := cells10 hx1; have r0 := rq 0; have r1 := rq 1; have r2 := rq 2; have r3 := rq 3; have r4 := rq 4; have r5 := rq 5; have r6 := rq 6; have r7 := rq 7; have r8 := rq 8; have r9 := rq 9; clear rq; obtain ⟨k0, k1, k2, k3, k4, k5, k6, k7, k8, k9, zq⟩ := cells10 hx2; have z0 := zq 0; have z1 := zq 1; have z2 := zq 2; have z3 := zq 3; have z4 := zq 4; have z5 := zq 5; have z6 := zq 6; have z7 := zq 7; have z8 := zq 8; have z9 := zq 9; clear zq; clear hx1 hx2))
  refine bodyPost_ret (results_dk rfl _ _ _ 35 _ (0, 0) rfl (add_end HT3.out _ _ _ _ _ _ _ _ _ _ _ _) rfl) rfl ?_
  exact ⟨q2, d2, rfl, (add_own HO2.out (Nat.le_refl _) _ _ _ _ _ _ _ _ _ _ _ _).arg, Own.cap HO2.out, newR_own HO2.out (Nat.le_add_right _ _), add_low HT3.out.low _ _ _ _ _ _ _ _ _ _ _ _⟩
set_option maxRecDepth 20000 in
set_option maxHeartbeats 8000000 in
theorem tr_8b (d : DK) (lp tp : Option Addr) (ln lc tn tc : Nat) (c : UInt8) (w : World) (hl : d.line.length = ln) (ht : d.tr.length = tn) (hll : ln ≤ 1048576) (hbb : d.bytes ≤ 1048576) (ha : ArgAt w lp d.line) (hnl : lp = none → lc = 0) (hs : d.st = 6) (he : d.line ≠ []) (hh : hasD d = false) (hc58 : c = 58) (ho : ¬ 8192 < d.bytes + 1) : Calls Tryz.prog 113 #[.agg (dkC d (.slice lp ln lc) (.slice tp tn tc)), byteV c] w fun e w' => ∃ q2 d2, e = .returned (.agg (dkC { cntD d with line := d.line ++ [c] } (.slice q2 (ln + 1) d2) (.slice tp tn tc))) ∧ ArgAt w' q2 (d.line ++ [c]) ∧ ln + 1 ≤ d2 ∧ NewR w q2 d2 ∧ Below w.heap.size w w' := by
  have HA := hid ha
  have HNl := hid hnl
  have HLn := hid hl
  clear hnl
  obtain ⟨AT, hAT⟩ : ∃ AT : Int, (if (cutF 58 d.line).2.2 = true then ((cutF 58 d.line).1.length : Int) else -1) = AT := ⟨_, rfl⟩
  have HC := hid (fun (W : World) (hW : Below w.heap.size w W) => colon_any d.line lp ln lc hl hll W (ha.next hW))
  rw [hAT] at HC
  have hAT2 : AT = -1 := by rw [← hAT, if_neg (by rw [show (cutF 58 d.line).2.2 = false from hh]; decide)]
  subst hAT2
  clear hAT hh
  have hl0 : ((ln : Int) == 0) = false := i_ne (b := 0) (fun h => he (List.eq_nil_of_length_eq_zero (hl.trans h)))
  clear he
  have HWd := hid (fun W : World => word_any c W)
  have HT := hid (fun W : World => rtoken_any (c.toNat : Int) W (by omega) (by have := c.toNat_lt; omega))
  unfold byteV at HWd
  rw [show tokB (c.toNat : Int) = tokU c from rfl] at HT
  obtain ⟨V, hV⟩ : ∃ V, valU c = V := ⟨_, rfl⟩
  rw [hV] at HWd
  clear hV
  obtain ⟨K, hK⟩ : ∃ K, tokU c = K := ⟨_, rfl⟩
  rw [hK] at HT
  clear hK
  obtain ⟨most, len, st, e0, digits, size, more, line, bytes, tr, gh⟩ := d
  dsimp only at *
  unfold dkC byteV
  unfold cntD
  dsimp only
  have hcz : (c.toNat : Int) = 58 := by rw [hc58]; rfl
  rw [hcz]
  rw [hcz] at HWd HT
  have HCb := hid (show Lib.byteCells [c] = [.int .u8 58] from by rw [hc58]; rfl)
  clear hcz hc58
  subst hs
  obtain ⟨Y, hY⟩ : ∃ Y : Int, (bytes : Int) + 1 = Y := ⟨_, rfl⟩
  have hy0 : (bytes : Int) = Y - 1 := by omega
  have hy1 : 0 < Y := by omega
  have hy2 : Y ≤ 1048577 := by omega
  have ho2 : decide ((8192 : Int) < Y) = false := by rw [decide_eq_false_iff_not]; omega
  clear ho hbb
  clear hl ht ha
  push_cast
  rw [hY, hy0]
  clear hY hy0
  go_enter Tryz.func113, Tryz.ntmps113
  go_wp2_with (first | (go_at_call 132; (with_reducible refine (HC.out _ (below_twoD w _ _)).mono ?_); rintro e w1 ⟨rfl, hw1⟩; subst w1) | (go_at_call 134; (with_reducible refine (HWd.out _).mono ?_); rintro e w1 ⟨rfl, hw1⟩; subst w1) | (go_at_call 125; (with_reducible refine (HT.out _).mono ?_); rintro e w1 ⟨rfl, hw1⟩; subst w1) | (at_builtin; refine wpList_copy rfl (.tmp 32) (.tmp 34) rfl (by go_simp) line lp ln lc (by go_simp) HLn.out (HA.out.next (below_twoD w _ _)) HNl.out (by omega) ?_; intro q1 d1 w1 ho1 hb1 _ _; have HT2 := hid ((TwoAt.start w _ _).next (hb1.mono (by simp))); have HO1 := hid (own_base ho1 (show w.heap.size + 2 ≤ _ from by simp)); have hx1 := HT2.out.b1; have hx2 := HT2.out.b2; obtain ⟨p0, p1, p2, p3, p4, p5, p6, p7, p8, p9, rq⟩ := cells10 hx1; have r0 := rq 0; have r1 := rq 1; have r2 := rq 2; have r3 := rq 3; have r4 := rq 4; have r5 := rq 5; have r6 := rq 6; have r7 := rq 7; have r8 := rq 8; have r9 := rq 9; clear rq; obtain ⟨k0, k1, k2, k3, k4, k5, k6, k7, k8, k9, zq⟩ := cells10 hx2; have z0 := zq 0; have z1 := zq 1; have z2 := zq 2; have z3 := zq 3; have z4 := zq 4; have z5 := zq 5; have z6 := zq 6; have z7 := zq 7; have z8 := zq 8; have z9 := zq 9; clear zq; clear hx1 hx2 ho1 hb1) | (at_builtin; obtain ⟨i0, hi0, hz0, hz1, hz2⟩ := info_parts infoB; refine wpList_append_own_at _ rfl (.tmp 36) (.tmp 38) 32 rfl (w.heap.size + 2) 5 i0 _ 1 1 Tryz.underlying32 hi0 hz0 hz1 hz2 rfl (by decide) (.slice q1 ln d1) ln (Lib.byteCells line) (by go_simp) (by have h8 := HO1.out.keep (below_new _ (.cells #[.int .u8 58] 5 (0, 0))); unfold Own at h8; rw [HLn.out] at h8; exact h8) ⟨w1.heap.size, 0, none⟩ 1 1 [.int .u8 58] (by go_simp) rfl (cells_new w1 _ _) (by simp [Value.oneCell']) (by unfold maxLen; omega) (by omega) (by have := HT2.out.sz; simp; omega) ?_; intro v2 w2 hown hgr _ hblk; have HO2 := hid (show Own w2 (w.heap.size + 2) v2 (line ++ [c]) from Own.put (acc := line) (bs := [c]) (by rw [HLn.out]; exact hown) HCb.out rfl); have HT3 := hid ((HT2.out.next ((below_new _ _).mono HT2.out.sz)).next ((Only.grown (F := fun k => (Value.slice q1 ln d1).ownBlock = some k) hgr (fun k e => e)).below (fun k hk => own_ge HO1.out hk) (by have := HT2.out.sz; simp; omega))); obtain ⟨q2, d2, rfl⟩ := own_slice hown; clear hown hgr hblk p0 p1 p2 p3 p4 p5 p6 p7 p8 p9 r0 r1 r2 r3 r4 r5 r6 r7 r8 r9 k0 k1 k2 k3 k4 k5 k6 k7 k8 k9 z0 z1 z2 z3 z4 z5 z6 z7 z8 z9; have hx1 := HT3.out.b1; have hx2 := HT3.out.b2; obtain ⟨p0, p1, p2, p3, p4, p5, p6, p7, p8, p9, rq⟩ := cells10 hx1; have r0 := rq 0; have r1 := rq 1; have r2 := rq 2; have r3 := rq 3; have r4 := rq 4; have r5 := rq 5; have r6 := rq 6; have r7 := rq 7; have r8 := rq 8; have r9 := rq 9; clear rq; obtain ⟨k0, k1, k2, k3, k4, k5, k6, k7, k8, k9, zq⟩ := cells10 hx2; have z0 := zq 0; have z1 := zq 1; have z2 := zq 2; have z3 := zq 3; have z4 := zq 4; have z5 := zq 5; have z6 := zq 6; have z7 := zq 7; have z8 := zq 8; have z9 := zq 9; clear zq; clear hx1 hx2))
  refine bodyPost_ret (results_dk rfl _ _ _ 35 _ (0, 0) rfl (add_end HT3.out _ _ _ _ _ _ _ _ _ _ _ _) rfl) rfl ?_
  exact ⟨q2, d2, rfl, (add_own HO2.out (Nat.le_refl _) _ _ _ _ _ _ _ _ _ _ _ _).arg, Own.cap HO2.out, newR_own HO2.out (Nat.le_add_right _ _), add_low HT3.out.low _ _ _ _ _ _ _ _ _ _ _ _⟩
set_option maxRecDepth 20000 in
set_option maxHeartbeats 8000000 in
theorem tr_8c (d : DK) (lp tp : Option Addr) (ln lc tn tc : Nat) (c : UInt8) (w : World) (hl : d.line.length = ln) (ht : d.tr.length = tn) (hll : ln ≤ 1048576) (hbb : d.bytes ≤ 1048576) (ha : ArgAt w lp d.line) (hnl : lp = none → lc = 0) (hs : d.st = 6) (he : d.line ≠ []) (hh : hasD d = false) (hc13 : c ≠ 13) (hc58 : c ≠ 58) (ho : ¬ 8192 < d.bytes + 1) (hk : tokU c = true) : Calls Tryz.prog 113 #[.agg (dkC d (.slice lp ln lc) (.slice tp tn tc)), byteV c] w fun e w' => ∃ q2 d2, e = .returned (.agg (dkC { cntD d with line := d.line ++ [c] } (.slice q2 (ln + 1) d2) (.slice tp tn tc))) ∧ ArgAt w' q2 (d.line ++ [c]) ∧ ln + 1 ≤ d2 ∧ NewR w q2 d2 ∧ Below w.heap.size w w' := by
  have HA := hid ha
  have HNl := hid hnl
  have HLn := hid hl
  clear hnl
  obtain ⟨AT, hAT⟩ : ∃ AT : Int, (if (cutF 58 d.line).2.2 = true then ((cutF 58 d.line).1.length : Int) else -1) = AT := ⟨_, rfl⟩
  have HC := hid (fun (W : World) (hW : Below w.heap.size w W) => colon_any d.line lp ln lc hl hll W (ha.next hW))
  rw [hAT] at HC
  have hAT2 : AT = -1 := by rw [← hAT, if_neg (by rw [show (cutF 58 d.line).2.2 = false from hh]; decide)]
  subst hAT2
  clear hAT hh
  have hl0 : ((ln : Int) == 0) = false := i_ne (b := 0) (fun h => he (List.eq_nil_of_length_eq_zero (hl.trans h)))
  clear he
  have HWd := hid (fun W : World => word_any c W)
  have HT := hid (fun W : World => rtoken_any (c.toNat : Int) W (by omega) (by have := c.toNat_lt; omega))
  unfold byteV at HWd
  rw [show tokB (c.toNat : Int) = tokU c from rfl] at HT
  obtain ⟨V, hV⟩ : ∃ V, valU c = V := ⟨_, rfl⟩
  rw [hV] at HWd
  clear hV
  rw [hk] at HT
  clear hk
  obtain ⟨most, len, st, e0, digits, size, more, line, bytes, tr, gh⟩ := d
  dsimp only at *
  unfold dkC byteV
  unfold cntD
  dsimp only
  have f13 : ((c.toNat : Int) == 13) = false := c_ne (toNat_ne hc13)
  clear hc13
  have f58 : ((c.toNat : Int) == 58) = false := c_ne (toNat_ne hc58)
  have g58 : ¬ (c.toNat : Int) = 58 := by have := toNat_ne hc58; simp at f58; omega
  have m58 : ((c.toNat : Int) != 58) = true := by simpa using g58
  clear hc58
  subst hs
  obtain ⟨Y, hY⟩ : ∃ Y : Int, (bytes : Int) + 1 = Y := ⟨_, rfl⟩
  have hy0 : (bytes : Int) = Y - 1 := by omega
  have hy1 : 0 < Y := by omega
  have hy2 : Y ≤ 1048577 := by omega
  have ho2 : decide ((8192 : Int) < Y) = false := by rw [decide_eq_false_iff_not]; omega
  clear ho hbb
  clear hl ht ha
  have HCb := hid (show Lib.byteCells [c] = [.int .u8 (c.toNat : Int)] from rfl)
  push_cast
  rw [hY, hy0]
  clear hY hy0
  go_enter Tryz.func113, Tryz.ntmps113
  go_wp2_with (first | (go_at_call 132; (with_reducible refine (HC.out _ (below_twoD w _ _)).mono ?_); rintro e w1 ⟨rfl, hw1⟩; subst w1) | (go_at_call 134; (with_reducible refine (HWd.out _).mono ?_); rintro e w1 ⟨rfl, hw1⟩; subst w1) | (go_at_call 125; (with_reducible refine (HT.out _).mono ?_); rintro e w1 ⟨rfl, hw1⟩; subst w1) | (at_builtin; refine wpList_copy rfl (.tmp 32) (.tmp 34) rfl (by go_simp) line lp ln lc (by go_simp) HLn.out (HA.out.next (below_twoD w _ _)) HNl.out (by omega) ?_; intro q1 d1 w1 ho1 hb1 _ _; have HT2 := hid ((TwoAt.start w _ _).next (hb1.mono (by simp))); have HO1 := hid (own_base ho1 (show w.heap.size + 2 ≤ _ from by simp)); have hx1 := HT2.out.b1; have hx2 := HT2.out.b2; obtain ⟨p0, p1, p2, p3, p4, p5, p6, p7, p8, p9, rq⟩ := cells10 hx1; have r0 := rq 0; have r1 := rq 1; have r2 := rq 2; have r3 := rq 3; have r4 := rq 4; have r5 := rq 5; have r6 := rq 6; have r7 := rq 7; have r8 := rq 8; have r9 := rq 9; clear rq; obtain ⟨k0, k1, k2, k3, k4, k5, k6, k7, k8, k9, zq⟩ := cells10 hx2; have z0 := zq 0; have z1 := zq 1; have z2 := zq 2; have z3 := zq 3; have z4 := zq 4; have z5 := zq 5; have z6 := zq 6; have z7 := zq 7; have z8 := zq 8; have z9 := zq 9; clear zq; clear hx1 hx2 ho1 hb1) | (at_builtin; obtain ⟨i0, hi0, hz0, hz1, hz2⟩ := info_parts infoB; refine wpList_append_own_at _ rfl (.tmp 36) (.tmp 38) 32 rfl (w.heap.size + 2) 5 i0 _ 1 1 Tryz.underlying32 hi0 hz0 hz1 hz2 rfl (by decide) (.slice q1 ln d1) ln (Lib.byteCells line) (by go_simp) (by have h8 := HO1.out.keep (below_new _ (.cells #[.int .u8 (c.toNat : Int)] 5 (0, 0))); unfold Own at h8; rw [HLn.out] at h8; exact h8) ⟨w1.heap.size, 0, none⟩ 1 1 [.int .u8 (c.toNat : Int)] (by go_simp) rfl (cells_new w1 _ _) (by simp [Value.oneCell']) (by unfold maxLen; omega) (by omega) (by have := HT2.out.sz; simp; omega) ?_; intro v2 w2 hown hgr _ hblk; have HO2 := hid (show Own w2 (w.heap.size + 2) v2 (line ++ [c]) from Own.put (acc := line) (bs := [c]) (by rw [HLn.out]; exact hown) HCb.out rfl); have HT3 := hid ((HT2.out.next ((below_new _ _).mono HT2.out.sz)).next ((Only.grown (F := fun k => (Value.slice q1 ln d1).ownBlock = some k) hgr (fun k e => e)).below (fun k hk => own_ge HO1.out hk) (by have := HT2.out.sz; simp; omega))); obtain ⟨q2, d2, rfl⟩ := own_slice hown; clear hown hgr hblk p0 p1 p2 p3 p4 p5 p6 p7 p8 p9 r0 r1 r2 r3 r4 r5 r6 r7 r8 r9 k0 k1 k2 k3 k4 k5 k6 k7 k8 k9 z0 z1 z2 z3 z4 z5 z6 z7 z8 z9; have hx1 := HT3.out.b1; have hx2 := HT3.out.b2; obtain ⟨p0, p1, p2, p3, p4, p5, p6, p7, p8, p9, rq⟩ := cells10 hx1; have r0 := rq 0; have r1 := rq 1; have r2 := rq 2; have r3 := rq 3; have r4 := rq 4; have r5 := rq 5; have r6 := rq 6; have r7 := rq 7; have r8 := rq 8; have r9 := rq 9; clear rq; obtain ⟨k0, k1, k2, k3, k4, k5, k6, k7, k8, k9, zq⟩ := cells10 hx2; have z0 := zq 0; have z1 := zq 1; have z2 := zq 2; have z3 := zq 3; have z4 := zq 4; have z5 := zq 5; have z6 := zq 6; have z7 := zq 7; have z8 := zq 8; have z9 := zq 9; clear zq; clear hx1 hx2))
  refine bodyPost_ret (results_dk rfl _ _ _ 35 _ (0, 0) rfl (add_end HT3.out _ _ _ _ _ _ _ _ _ _ _ _) rfl) rfl ?_
  exact ⟨q2, d2, rfl, (add_own HO2.out (Nat.le_refl _) _ _ _ _ _ _ _ _ _ _ _ _).arg, Own.cap HO2.out, newR_own HO2.out (Nat.le_add_right _ _), add_low HT3.out.low _ _ _ _ _ _ _ _ _ _ _ _⟩
set_option maxRecDepth 20000 in
set_option maxHeartbeats 8000000 in
theorem tr_8d (d : DK) (lp tp : Option Addr) (ln lc tn tc : Nat) (c : UInt8) (w : World) (hl : d.line.length = ln) (ht : d.tr.length = tn) (hll : ln ≤ 1048576) (hbb : d.bytes ≤ 1048576) (ha : ArgAt w lp d.line) (hnl : lp = none → lc = 0) (hs : d.st = 6) (he : d.line ≠ []) (hh : hasD d = true) (hc13 : c ≠ 13) (ho : ¬ 8192 < d.bytes + 1) (hv : valU c = true) : Calls Tryz.prog 113 #[.agg (dkC d (.slice lp ln lc) (.slice tp tn tc)), byteV c] w fun e w' => ∃ q2 d2, e = .returned (.agg (dkC { cntD d with line := d.line ++ [c] } (.slice q2 (ln + 1) d2) (.slice tp tn tc))) ∧ ArgAt w' q2 (d.line ++ [c]) ∧ ln + 1 ≤ d2 ∧ NewR w q2 d2 ∧ Below w.heap.size w w' := by
  have HA := hid ha
  have HNl := hid hnl
  have HLn := hid hl
  clear hnl
  obtain ⟨AT, hAT⟩ : ∃ AT : Int, (if (cutF 58 d.line).2.2 = true then ((cutF 58 d.line).1.length : Int) else -1) = AT := ⟨_, rfl⟩
  have HC := hid (fun (W : World) (hW : Below w.heap.size w W) => colon_any d.line lp ln lc hl hll W (ha.next hW))
  rw [hAT] at HC
  have hAT2 : 0 ≤ AT := by rw [← hAT, if_pos (show (cutF 58 d.line).2.2 = true from hh)]; omega
  clear hAT hh
  have hl0 : ((ln : Int) == 0) = false := i_ne (b := 0) (fun h => he (List.eq_nil_of_length_eq_zero (hl.trans h)))
  clear he
  have HWd := hid (fun W : World => word_any c W)
  have HT := hid (fun W : World => rtoken_any (c.toNat : Int) W (by omega) (by have := c.toNat_lt; omega))
  unfold byteV at HWd
  rw [show tokB (c.toNat : Int) = tokU c from rfl] at HT
  rw [hv] at HWd
  clear hv
  obtain ⟨K, hK⟩ : ∃ K, tokU c = K := ⟨_, rfl⟩
  rw [hK] at HT
  clear hK
  obtain ⟨most, len, st, e0, digits, size, more, line, bytes, tr, gh⟩ := d
  dsimp only at *
  unfold dkC byteV
  unfold cntD
  dsimp only
  have f13 : ((c.toNat : Int) == 13) = false := c_ne (toNat_ne hc13)
  clear hc13
  subst hs
  obtain ⟨Y, hY⟩ : ∃ Y : Int, (bytes : Int) + 1 = Y := ⟨_, rfl⟩
  have hy0 : (bytes : Int) = Y - 1 := by omega
  have hy1 : 0 < Y := by omega
  have hy2 : Y ≤ 1048577 := by omega
  have ho2 : decide ((8192 : Int) < Y) = false := by rw [decide_eq_false_iff_not]; omega
  clear ho hbb
  clear hl ht ha
  have HCb := hid (show Lib.byteCells [c] = [.int .u8 (c.toNat : Int)] from rfl)
  push_cast
  rw [hY, hy0]
  clear hY hy0
  go_enter Tryz.func113, Tryz.ntmps113
  go_wp2_with (first | (go_at_call 132; (with_reducible refine (HC.out _ (below_twoD w _ _)).mono ?_); rintro e w1 ⟨rfl, hw1⟩; subst w1) | (go_at_call 134; (with_reducible refine (HWd.out _).mono ?_); rintro e w1 ⟨rfl, hw1⟩; subst w1) | (go_at_call 125; (with_reducible refine (HT.out _).mono ?_); rintro e w1 ⟨rfl, hw1⟩; subst w1) | (at_builtin; refine wpList_copy rfl (.tmp 32) (.tmp 34) rfl (by go_simp) line lp ln lc (by go_simp) HLn.out (HA.out.next (below_twoD w _ _)) HNl.out (by omega) ?_; intro q1 d1 w1 ho1 hb1 _ _; have HT2 := hid ((TwoAt.start w _ _).next (hb1.mono (by simp))); have HO1 := hid (own_base ho1 (show w.heap.size + 2 ≤ _ from by simp)); have hx1 := HT2.out.b1; have hx2 := HT2.out.b2; obtain ⟨p0, p1, p2, p3, p4, p5, p6, p7, p8, p9, rq⟩ := cells10 hx1; have r0 := rq 0; have r1 := rq 1; have r2 := rq 2; have r3 := rq 3; have r4 := rq 4; have r5 := rq 5; have r6 := rq 6; have r7 := rq 7; have r8 := rq 8; have r9 := rq 9; clear rq; obtain ⟨k0, k1, k2, k3, k4, k5, k6, k7, k8, k9, zq⟩ := cells10 hx2; have z0 := zq 0; have z1 := zq 1; have z2 := zq 2; have z3 := zq 3; have z4 := zq 4; have z5 := zq 5; have z6 := zq 6; have z7 := zq 7; have z8 := zq 8; have z9 := zq 9; clear zq; clear hx1 hx2 ho1 hb1) | (at_builtin; obtain ⟨i0, hi0, hz0, hz1, hz2⟩ := info_parts infoB; refine wpList_append_own_at _ rfl (.tmp 36) (.tmp 38) 32 rfl (w.heap.size + 2) 5 i0 _ 1 1 Tryz.underlying32 hi0 hz0 hz1 hz2 rfl (by decide) (.slice q1 ln d1) ln (Lib.byteCells line) (by go_simp) (by have h8 := HO1.out.keep (below_new _ (.cells #[.int .u8 (c.toNat : Int)] 5 (0, 0))); unfold Own at h8; rw [HLn.out] at h8; exact h8) ⟨w1.heap.size, 0, none⟩ 1 1 [.int .u8 (c.toNat : Int)] (by go_simp) rfl (cells_new w1 _ _) (by simp [Value.oneCell']) (by unfold maxLen; omega) (by omega) (by have := HT2.out.sz; simp; omega) ?_; intro v2 w2 hown hgr _ hblk; have HO2 := hid (show Own w2 (w.heap.size + 2) v2 (line ++ [c]) from Own.put (acc := line) (bs := [c]) (by rw [HLn.out]; exact hown) HCb.out rfl); have HT3 := hid ((HT2.out.next ((below_new _ _).mono HT2.out.sz)).next ((Only.grown (F := fun k => (Value.slice q1 ln d1).ownBlock = some k) hgr (fun k e => e)).below (fun k hk => own_ge HO1.out hk) (by have := HT2.out.sz; simp; omega))); obtain ⟨q2, d2, rfl⟩ := own_slice hown; clear hown hgr hblk p0 p1 p2 p3 p4 p5 p6 p7 p8 p9 r0 r1 r2 r3 r4 r5 r6 r7 r8 r9 k0 k1 k2 k3 k4 k5 k6 k7 k8 k9 z0 z1 z2 z3 z4 z5 z6 z7 z8 z9; have hx1 := HT3.out.b1; have hx2 := HT3.out.b2; obtain ⟨p0, p1, p2, p3, p4, p5, p6, p7, p8, p9, rq⟩ := cells10 hx1; have r0 := rq 0; have r1 := rq 1; have r2 := rq 2; have r3 := rq 3; have r4 := rq 4; have r5 := rq 5; have r6 := rq 6; have r7 := rq 7; have r8 := rq 8; have r9 := rq 9; clear rq; obtain ⟨k0, k1, k2, k3, k4, k5, k6, k7, k8, k9, zq⟩ := cells10 hx2; have z0 := zq 0; have z1 := zq 1; have z2 := zq 2; have z3 := zq 3; have z4 := zq 4; have z5 := zq 5; have z6 := zq 6; have z7 := zq 7; have z8 := zq 8; have z9 := zq 9; clear zq; clear hx1 hx2))
  refine bodyPost_ret (results_dk rfl _ _ _ 35 _ (0, 0) rfl (add_end HT3.out _ _ _ _ _ _ _ _ _ _ _ _) rfl) rfl ?_
  exact ⟨q2, d2, rfl, (add_own HO2.out (Nat.le_refl _) _ _ _ _ _ _ _ _ _ _ _ _).arg, Own.cap HO2.out, newR_own HO2.out (Nat.le_add_right _ _), add_low HT3.out.low _ _ _ _ _ _ _ _ _ _ _ _⟩
end Go.Proofs.YtnlmjlfoeodleaaGreatDoor
