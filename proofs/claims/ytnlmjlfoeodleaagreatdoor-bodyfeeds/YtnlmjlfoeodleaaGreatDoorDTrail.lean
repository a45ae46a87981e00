/- The document's reader of chunked bodies: a byte of the trailers that makes no row. -/
import Derived.Test.YtnlmjlfoeodleaaGreatDoorDSize
namespace Go.Proofs.YtnlmjlfoeodleaaGreatDoor
open Go.RowKit

set_option maxRecDepth 20000 in
set_option maxHeartbeats 8000000 in
theorem tr_1a (d : DK) (lp tp : Option Addr) (ln lc tn tc : Nat) (c : UInt8) (w : World) (hl : d.line.length = ln) (ht : d.tr.length = tn) (hll : ln ≤ 1048576) (hbb : d.bytes ≤ 1048576) (ha : ArgAt w lp d.line) (he : d.line ≠ []) (ho : 8192 < d.bytes + 1) : Calls Tryz.prog 113 #[.agg (dkC d (.slice lp ln lc) (.slice tp tn tc)), byteV c] w fun e w' => e = .returned (.agg (dkC (failD (cntD d) 22) (.slice lp ln lc) (.slice tp tn tc))) ∧ Below w.heap.size w w' := by
  obtain ⟨AT, hAT⟩ : ∃ AT : Int, (if (cutF 58 d.line).2.2 = true then ((cutF 58 d.line).1.length : Int) else -1) = AT := ⟨_, rfl⟩
  have HC := hid (fun (W : World) (hW : Below w.heap.size w W) => colon_any d.line lp ln lc hl hll W (ha.next hW))
  rw [hAT] at HC
  clear hAT
  have hl0 : ((ln : Int) == 0) = false := i_ne (b := 0) (fun h => he (List.eq_nil_of_length_eq_zero (hl.trans h)))
  clear he
  have HWd := hid (fun W : World => word_any c W)
  have HT := hid (fun W : World => rtoken_any (c.toNat : Int) W (by omega) (by have := c.toNat_lt; omega))
  unfold byteV at HWd
  rw [show tokB (c.toNat : Int) = tokU c from rfl] at HT
  obtain ⟨V, hV⟩ : ∃ V, valU c = V := ⟨_, rfl⟩
  rw [hV] at HWd
  clear hV
  obtain ⟨K, hK⟩ : ∃ K, tokU c = K := ⟨_, rfl⟩
  rw [hK] at HT
  clear hK
  obtain ⟨most, len, st, e0, digits, size, more, line, bytes, tr, gh⟩ := d
  dsimp only at *
  unfold dkC byteV
  unfold cntD
  unfold failD
  dsimp only
  obtain ⟨Y, hY⟩ : ∃ Y : Int, (bytes : Int) + 1 = Y := ⟨_, rfl⟩
  have hy0 : (bytes : Int) = Y - 1 := by omega
  have hy1 : 0 < Y := by omega
  have hy2 : Y ≤ 1048577 := by omega
  have ho2 : decide ((8192 : Int) < Y) = true := by rw [decide_eq_true_iff]; omega
  clear ho hbb
  clear hl ht ha
  have HF := hid (fun W : World => fail_any ⟨most, len, st, e0, digits, size, more, line, bytes + 1, tr, gh⟩ lp tp ln lc tn tc 22 W)
  unfold dkC failD at HF
  dsimp only at HF
  push_cast at HF
  rw [hY] at HF
  push_cast
  rw [hY, hy0]
  clear hY hy0
  go_enter Tryz.func113, Tryz.ntmps113
  go_wp2_with (first | (go_at_call 132; (with_reducible refine (HC.out _ (below_twoD w _ _)).mono ?_); rintro e w1 ⟨rfl, hw1⟩; subst w1) | (go_at_call 134; (with_reducible refine (HWd.out _).mono ?_); rintro e w1 ⟨rfl, hw1⟩; subst w1) | (go_at_call 125; (with_reducible refine (HT.out _).mono ?_); rintro e w1 ⟨rfl, hw1⟩; subst w1) | (go_at_call 112; (with_reducible refine (HF.out _).mono ?_); rintro e w2 ⟨rfl, hb2⟩; have hz := (hb2.block (w.heap.size + 1) (by simp)).trans (two_new w _ _); have HB2 := hid (below_out (below_twoD w _ _) hb2); have HZ := hid hz; obtain ⟨k0, k1, k2, k3, k4, k5, k6, k7, k8, k9, kz⟩ := cells10 hz; have z0 := kz 0; have z1 := kz 1; have z2 := kz 2; have z3 := kz 3; have z4 := kz 4; have z5 := kz 5; have z6 := kz 6; have z7 := kz 7; have z8 := kz 8; have z9 := kz 9; clear hb2 hz kz))
  refine bodyPost_ret (results_dk rfl _ _ _ 35 _ (0, 0) rfl (put10 HZ.out _ _ _ _ _ _ _ _ _ _) rfl) rfl ?_
  exact ⟨rfl, below10 HB2.out (Nat.le_succ _) _ _ _ _ _ _ _ _ _ _⟩
set_option maxRecDepth 20000 in
set_option maxHeartbeats 8000000 in
theorem tr_1b (d : DK) (lp tp : Option Addr) (ln lc tn tc : Nat) (c : UInt8) (w : World) (hl : d.line.length = ln) (ht : d.tr.length = tn) (hll : ln ≤ 1048576) (hbb : d.bytes ≤ 1048576) (ha : ArgAt w lp d.line) (hs : d.st = 6) (he : d.line = []) (hc13 : c ≠ 13) (ho : 8192 < d.bytes + 1) : Calls Tryz.prog 113 #[.agg (dkC d (.slice lp ln lc) (.slice tp tn tc)), byteV c] w fun e w' => e = .returned (.agg (dkC (failD (cntD d) 22) (.slice lp ln lc) (.slice tp tn tc))) ∧ Below w.heap.size w w' := by
  obtain ⟨AT, hAT⟩ : ∃ AT : Int, (if (cutF 58 d.line).2.2 = true then ((cutF 58 d.line).1.length : Int) else -1) = AT := ⟨_, rfl⟩
  have HC := hid (fun (W : World) (hW : Below w.heap.size w W) => colon_any d.line lp ln lc hl hll W (ha.next hW))
  rw [hAT] at HC
  rw [he] at hAT hl
  have hAT2 : AT = -1 := by rw [← hAT]; rfl
  subst hAT2
  have hl0 : ln = 0 := by rw [← hl]; rfl
  subst hl0
  clear hAT hl
  have HWd := hid (fun W : World => word_any c W)
  have HT := hid (fun W : World => rtoken_any (c.toNat : Int) W (by omega) (by have := c.toNat_lt; omega))
  unfold byteV at HWd
  rw [show tokB (c.toNat : Int) = tokU c from rfl] at HT
  obtain ⟨V, hV⟩ : ∃ V, valU c = V := ⟨_, rfl⟩
  rw [hV] at HWd
  clear hV
  obtain ⟨K, hK⟩ : ∃ K, tokU c = K := ⟨_, rfl⟩
  rw [hK] at HT
  clear hK
  obtain ⟨most, len, st, e0, digits, size, more, line, bytes, tr, gh⟩ := d
  dsimp only at *
  unfold dkC byteV
  unfold cntD
  unfold failD
  dsimp only
  have f13 : ((c.toNat : Int) == 13) = false := c_ne (toNat_ne hc13)
  clear hc13
  subst hs
  obtain ⟨Y, hY⟩ : ∃ Y : Int, (bytes : Int) + 1 = Y := ⟨_, rfl⟩
  have hy0 : (bytes : Int) = Y - 1 := by omega
  have hy1 : 0 < Y := by omega
  have hy2 : Y ≤ 1048577 := by omega
  have ho2 : decide ((8192 : Int) < Y) = true := by rw [decide_eq_true_iff]; omega
  clear ho hbb
  clear ht ha he
  have HF := hid (fun W : World => fail_any ⟨most, len, 6, e0, digits, size, more, line, bytes + 1, tr, gh⟩ lp tp 0 lc tn tc 22 W)
  unfold dkC failD at HF
  dsimp only at HF
  push_cast at HF
  rw [hY] at HF
  push_cast
  rw [hY, hy0]
  clear hY hy0
  go_enter Tryz.func113, Tryz.ntmps113
  go_wp2_with (first | (go_at_call 132; (with_reducible refine (HC.out _ (below_twoD w _ _)).mono ?_); rintro e w1 ⟨rfl, hw1⟩; subst w1) | (go_at_call 134; (with_reducible refine (HWd.out _).mono ?_); rintro e w1 ⟨rfl, hw1⟩; subst w1) | (go_at_call 125; (with_reducible refine (HT.out _).mono ?_); rintro e w1 ⟨rfl, hw1⟩; subst w1) | (go_at_call 112; (with_reducible refine (HF.out _).mono ?_); rintro e w2 ⟨rfl, hb2⟩; have hz := (hb2.block (w.heap.size + 1) (by simp)).trans (two_new w _ _); have HB2 := hid (below_out (below_twoD w _ _) hb2); have HZ := hid hz; obtain ⟨k0, k1, k2, k3, k4, k5, k6, k7, k8, k9, kz⟩ := cells10 hz; have z0 := kz 0; have z1 := kz 1; have z2 := kz 2; have z3 := kz 3; have z4 := kz 4; have z5 := kz 5; have z6 := kz 6; have z7 := kz 7; have z8 := kz 8; have z9 := kz 9; clear hb2 hz kz))
  refine bodyPost_ret (results_dk rfl _ _ _ 35 _ (0, 0) rfl (put10 HZ.out _ _ _ _ _ _ _ _ _ _) rfl) rfl ?_
  exact ⟨rfl, below10 HB2.out (Nat.le_succ _) _ _ _ _ _ _ _ _ _ _⟩
set_option maxRecDepth 20000 in
set_option maxHeartbeats 8000000 in
theorem tr_2a (d : DK) (lp tp : Option Addr) (ln lc tn tc : Nat) (c : UInt8) (w : World) (hl : d.line.length = ln) (ht : d.tr.length = tn) (hll : ln ≤ 1048576) (hbb : d.bytes ≤ 1048576) (ha : ArgAt w lp d.line) (hs : d.st = 7) (he : d.line ≠ []) (hc10 : c ≠ 10) (ho : ¬ 8192 < d.bytes + 1) : Calls Tryz.prog 113 #[.agg (dkC d (.slice lp ln lc) (.slice tp tn tc)), byteV c] w fun e w' => e = .returned (.agg (dkC (failD (cntD d) 21) (.slice lp ln lc) (.slice tp tn tc))) ∧ Below w.heap.size w w' := by
  obtain ⟨AT, hAT⟩ : ∃ AT : Int, (if (cutF 58 d.line).2.2 = true then ((cutF 58 d.line).1.length : Int) else -1) = AT := ⟨_, rfl⟩
  have HC := hid (fun (W : World) (hW : Below w.heap.size w W) => colon_any d.line lp ln lc hl hll W (ha.next hW))
  rw [hAT] at HC
  clear hAT
  have hl0 : ((ln : Int) == 0) = false := i_ne (b := 0) (fun h => he (List.eq_nil_of_length_eq_zero (hl.trans h)))
  clear he
  have HWd := hid (fun W : World => word_any c W)
  have HT := hid (fun W : World => rtoken_any (c.toNat : Int) W (by omega) (by have := c.toNat_lt; omega))
  unfold byteV at HWd
  rw [show tokB (c.toNat : Int) = tokU c from rfl] at HT
  obtain ⟨V, hV⟩ : ∃ V, valU c = V := ⟨_, rfl⟩
  rw [hV] at HWd
  clear hV
  obtain ⟨K, hK⟩ : ∃ K, tokU c = K := ⟨_, rfl⟩
  rw [hK] at HT
  clear hK
  obtain ⟨most, len, st, e0, digits, size, more, line, bytes, tr, gh⟩ := d
  dsimp only at *
  unfold dkC byteV
  unfold cntD
  unfold failD
  dsimp only
  have f10 : ((c.toNat : Int) == 10) = false := c_ne (toNat_ne hc10)
  clear hc10
  subst hs
  obtain ⟨Y, hY⟩ : ∃ Y : Int, (bytes : Int) + 1 = Y := ⟨_, rfl⟩
  have hy0 : (bytes : Int) = Y - 1 := by omega
  have hy1 : 0 < Y := by omega
  have hy2 : Y ≤ 1048577 := by omega
  have ho2 : decide ((8192 : Int) < Y) = false := by rw [decide_eq_false_iff_not]; omega
  clear ho hbb
  clear hl ht ha
  have HF := hid (fun W : World => fail_any ⟨most, len, 7, e0, digits, size, more, line, bytes + 1, tr, gh⟩ lp tp ln lc tn tc 21 W)
  unfold dkC failD at HF
  dsimp only at HF
  push_cast at HF
  rw [hY] at HF
  push_cast
  rw [hY, hy0]
  clear hY hy0
  go_enter Tryz.func113, Tryz.ntmps113
  go_wp2_with (first | (go_at_call 132; (with_reducible refine (HC.out _ (below_twoD w _ _)).mono ?_); rintro e w1 ⟨rfl, hw1⟩; subst w1) | (go_at_call 134; (with_reducible refine (HWd.out _).mono ?_); rintro e w1 ⟨rfl, hw1⟩; subst w1) | (go_at_call 125; (with_reducible refine (HT.out _).mono ?_); rintro e w1 ⟨rfl, hw1⟩; subst w1) | (go_at_call 112; (with_reducible refine (HF.out _).mono ?_); rintro e w2 ⟨rfl, hb2⟩; have hz := (hb2.block (w.heap.size + 1) (by simp)).trans (two_new w _ _); have HB2 := hid (below_out (below_twoD w _ _) hb2); have HZ := hid hz; obtain ⟨k0, k1, k2, k3, k4, k5, k6, k7, k8, k9, kz⟩ := cells10 hz; have z0 := kz 0; have z1 := kz 1; have z2 := kz 2; have z3 := kz 3; have z4 := kz 4; have z5 := kz 5; have z6 := kz 6; have z7 := kz 7; have z8 := kz 8; have z9 := kz 9; clear hb2 hz kz))
  refine bodyPost_ret (results_dk rfl _ _ _ 35 _ (0, 0) rfl (put10 HZ.out _ _ _ _ _ _ _ _ _ _) rfl) rfl ?_
  exact ⟨rfl, below10 HB2.out (Nat.le_succ _) _ _ _ _ _ _ _ _ _ _⟩
set_option maxRecDepth 20000 in
set_option maxHeartbeats 8000000 in
theorem tr_2b (d : DK) (lp tp : Option Addr) (ln lc tn tc : Nat) (c : UInt8) (w : World) (hl : d.line.length = ln) (ht : d.tr.length = tn) (hll : ln ≤ 1048576) (hbb : d.bytes ≤ 1048576) (ha : ArgAt w lp d.line) (hs : d.st = 7) (he : d.line = []) (hc10 : c ≠ 10) (ho : ¬ 8192 < d.bytes + 1) : Calls Tryz.prog 113 #[.agg (dkC d (.slice lp ln lc) (.slice tp tn tc)), byteV c] w fun e w' => e = .returned (.agg (dkC (failD (cntD d) 21) (.slice lp ln lc) (.slice tp tn tc))) ∧ Below w.heap.size w w' := by
  obtain ⟨AT, hAT⟩ : ∃ AT : Int, (if (cutF 58 d.line).2.2 = true then ((cutF 58 d.line).1.length : Int) else -1) = AT := ⟨_, rfl⟩
  have HC := hid (fun (W : World) (hW : Below w.heap.size w W) => colon_any d.line lp ln lc hl hll W (ha.next hW))
  rw [hAT] at HC
  rw [he] at hAT hl
  have hAT2 : AT = -1 := by rw [← hAT]; rfl
  subst hAT2
  have hl0 : ln = 0 := by rw [← hl]; rfl
  subst hl0
  clear hAT hl
  have HWd := hid (fun W : World => word_any c W)
  have HT := hid (fun W : World => rtoken_any (c.toNat : Int) W (by omega) (by have := c.toNat_lt; omega))
  unfold byteV at HWd
  rw [show tokB (c.toNat : Int) = tokU c from rfl] at HT
  obtain ⟨V, hV⟩ : ∃ V, valU c = V := ⟨_, rfl⟩
  rw [hV] at HWd
  clear hV
  obtain ⟨K, hK⟩ : ∃ K, tokU c = K := ⟨_, rfl⟩
  rw [hK] at HT
  clear hK
  obtain ⟨most, len, st, e0, digits, size, more, line, bytes, tr, gh⟩ := d
  dsimp only at *
  unfold dkC byteV
  unfold cntD
  unfold failD
  dsimp only
  have f10 : ((c.toNat : Int) == 10) = false := c_ne (toNat_ne hc10)
  clear hc10
  subst hs
  obtain ⟨Y, hY⟩ : ∃ Y : Int, (bytes : Int) + 1 = Y := ⟨_, rfl⟩
  have hy0 : (bytes : Int) = Y - 1 := by omega
  have hy1 : 0 < Y := by omega
  have hy2 : Y ≤ 1048577 := by omega
  have ho2 : decide ((8192 : Int) < Y) = false := by rw [decide_eq_false_iff_not]; omega
  clear ho hbb
  clear ht ha he
  have HF := hid (fun W : World => fail_any ⟨most, len, 7, e0, digits, size, more, line, bytes + 1, tr, gh⟩ lp tp 0 lc tn tc 21 W)
  unfold dkC failD at HF
  dsimp only at HF
  push_cast at HF
  rw [hY] at HF
  push_cast
  rw [hY, hy0]
  clear hY hy0
  go_enter Tryz.func113, Tryz.ntmps113
  go_wp2_with (first | (go_at_call 132; (with_reducible refine (HC.out _ (below_twoD w _ _)).mono ?_); rintro e w1 ⟨rfl, hw1⟩; subst w1) | (go_at_call 134; (with_reducible refine (HWd.out _).mono ?_); rintro e w1 ⟨rfl, hw1⟩; subst w1) | (go_at_call 125; (with_reducible refine (HT.out _).mono ?_); rintro e w1 ⟨rfl, hw1⟩; subst w1) | (go_at_call 112; (with_reducible refine (HF.out _).mono ?_); rintro e w2 ⟨rfl, hb2⟩; have hz := (hb2.block (w.heap.size + 1) (by simp)).trans (two_new w _ _); have HB2 := hid (below_out (below_twoD w _ _) hb2); have HZ := hid hz; obtain ⟨k0, k1, k2, k3, k4, k5, k6, k7, k8, k9, kz⟩ := cells10 hz; have z0 := kz 0; have z1 := kz 1; have z2 := kz 2; have z3 := kz 3; have z4 := kz 4; have z5 := kz 5; have z6 := kz 6; have z7 := kz 7; have z8 := kz 8; have z9 := kz 9; clear hb2 hz kz))
  refine bodyPost_ret (results_dk rfl _ _ _ 35 _ (0, 0) rfl (put10 HZ.out _ _ _ _ _ _ _ _ _ _) rfl) rfl ?_
  exact ⟨rfl, below10 HB2.out (Nat.le_succ _) _ _ _ _ _ _ _ _ _ _⟩
set_option maxRecDepth 20000 in
set_option maxHeartbeats 8000000 in
theorem tr_2c (d : DK) (lp tp : Option Addr) (ln lc tn tc : Nat) (c : UInt8) (w : World) (hl : d.line.length = ln) (ht : d.tr.length = tn) (hll : ln ≤ 1048576) (hbb : d.bytes ≤ 1048576) (ha : ArgAt w lp d.line) (hs : d.st = 7) (he : d.line = []) (hc10 : c ≠ 10) (ho : 8192 < d.bytes + 1) : Calls Tryz.prog 113 #[.agg (dkC d (.slice lp ln lc) (.slice tp tn tc)), byteV c] w fun e w' => e = .returned (.agg (dkC (failD (cntD d) 21) (.slice lp ln lc) (.slice tp tn tc))) ∧ Below w.heap.size w w' := by
  obtain ⟨AT, hAT⟩ : ∃ AT : Int, (if (cutF 58 d.line).2.2 = true then ((cutF 58 d.line).1.length : Int) else -1) = AT := ⟨_, rfl⟩
  have HC := hid (fun (W : World) (hW : Below w.heap.size w W) => colon_any d.line lp ln lc hl hll W (ha.next hW))
  rw [hAT] at HC
  rw [he] at hAT hl
  have hAT2 : AT = -1 := by rw [← hAT]; rfl
  subst hAT2
  have hl0 : ln = 0 := by rw [← hl]; rfl
  subst hl0
  clear hAT hl
  have HWd := hid (fun W : World => word_any c W)
  have HT := hid (fun W : World => rtoken_any (c.toNat : Int) W (by omega) (by have := c.toNat_lt; omega))
  unfold byteV at HWd
  rw [show tokB (c.toNat : Int) = tokU c from rfl] at HT
  obtain ⟨V, hV⟩ : ∃ V, valU c = V := ⟨_, rfl⟩
  rw [hV] at HWd
  clear hV
  obtain ⟨K, hK⟩ : ∃ K, tokU c = K := ⟨_, rfl⟩
  rw [hK] at HT
  clear hK
  obtain ⟨most, len, st, e0, digits, size, more, line, bytes, tr, gh⟩ := d
  dsimp only at *
  unfold dkC byteV
  unfold cntD
  unfold failD
  dsimp only
  have f10 : ((c.toNat : Int) == 10) = false := c_ne (toNat_ne hc10)
  clear hc10
  subst hs
  obtain ⟨Y, hY⟩ : ∃ Y : Int, (bytes : Int) + 1 = Y := ⟨_, rfl⟩
  have hy0 : (bytes : Int) = Y - 1 := by omega
  have hy1 : 0 < Y := by omega
  have hy2 : Y ≤ 1048577 := by omega
  have ho2 : decide ((8192 : Int) < Y) = true := by rw [decide_eq_true_iff]; omega
  clear ho hbb
  clear ht ha he
  have HF := hid (fun W : World => fail_any ⟨most, len, 7, e0, digits, size, more, line, bytes + 1, tr, gh⟩ lp tp 0 lc tn tc 21 W)
  unfold dkC failD at HF
  dsimp only at HF
  push_cast at HF
  rw [hY] at HF
  push_cast
  rw [hY, hy0]
  clear hY hy0
  go_enter Tryz.func113, Tryz.ntmps113
  go_wp2_with (first | (go_at_call 132; (with_reducible refine (HC.out _ (below_twoD w _ _)).mono ?_); rintro e w1 ⟨rfl, hw1⟩; subst w1) | (go_at_call 134; (with_reducible refine (HWd.out _).mono ?_); rintro e w1 ⟨rfl, hw1⟩; subst w1) | (go_at_call 125; (with_reducible refine (HT.out _).mono ?_); rintro e w1 ⟨rfl, hw1⟩; subst w1) | (go_at_call 112; (with_reducible refine (HF.out _).mono ?_); rintro e w2 ⟨rfl, hb2⟩; have hz := (hb2.block (w.heap.size + 1) (by simp)).trans (two_new w _ _); have HB2 := hid (below_out (below_twoD w _ _) hb2); have HZ := hid hz; obtain ⟨k0, k1, k2, k3, k4, k5, k6, k7, k8, k9, kz⟩ := cells10 hz; have z0 := kz 0; have z1 := kz 1; have z2 := kz 2; have z3 := kz 3; have z4 := kz 4; have z5 := kz 5; have z6 := kz 6; have z7 := kz 7; have z8 := kz 8; have z9 := kz 9; clear hb2 hz kz))
  refine bodyPost_ret (results_dk rfl _ _ _ 35 _ (0, 0) rfl (put10 HZ.out _ _ _ _ _ _ _ _ _ _) rfl) rfl ?_
  exact ⟨rfl, below10 HB2.out (Nat.le_succ _) _ _ _ _ _ _ _ _ _ _⟩
set_option maxRecDepth 20000 in
set_option maxHeartbeats 8000000 in
theorem tr_3a (d : DK) (lp tp : Option Addr) (ln lc tn tc : Nat) (c : UInt8) (w : World) (hl : d.line.length = ln) (ht : d.tr.length = tn) (hll : ln ≤ 1048576) (hbb : d.bytes ≤ 1048576) (ha : ArgAt w lp d.line) (hs : d.st = 7) (he : d.line = []) (hc10 : c = 10) (ho : ¬ 8192 < d.bytes + 1) : Calls Tryz.prog 113 #[.agg (dkC d (.slice lp ln lc) (.slice tp tn tc)), byteV c] w fun e w' => e = .returned (.agg (dkC { cntD d with st := 8 } (.slice lp ln lc) (.slice tp tn tc))) ∧ Below w.heap.size w w' := by
  obtain ⟨AT, hAT⟩ : ∃ AT : Int, (if (cutF 58 d.line).2.2 = true then ((cutF 58 d.line).1.length : Int) else -1) = AT := ⟨_, rfl⟩
  have HC := hid (fun (W : World) (hW : Below w.heap.size w W) => colon_any d.line lp ln lc hl hll W (ha.next hW))
  rw [hAT] at HC
  rw [he] at hAT hl
  have hAT2 : AT = -1 := by rw [← hAT]; rfl
  subst hAT2
  have hl0 : ln = 0 := by rw [← hl]; rfl
  subst hl0
  clear hAT hl
  have HWd := hid (fun W : World => word_any c W)
  have HT := hid (fun W : World => rtoken_any (c.toNat : Int) W (by omega) (by have := c.toNat_lt; omega))
  unfold byteV at HWd
  rw [show tokB (c.toNat : Int) = tokU c from rfl] at HT
  obtain ⟨V, hV⟩ : ∃ V, valU c = V := ⟨_, rfl⟩
  rw [hV] at HWd
  clear hV
  obtain ⟨K, hK⟩ : ∃ K, tokU c = K := ⟨_, rfl⟩
  rw [hK] at HT
  clear hK
  obtain ⟨most, len, st, e0, digits, size, more, line, bytes, tr, gh⟩ := d
  dsimp only at *
  unfold dkC byteV
  unfold cntD
  dsimp only
  have hcz : (c.toNat : Int) = 10 := by rw [hc10]; rfl
  rw [hcz]
  rw [hcz] at HWd HT
  clear hcz hc10
  subst hs
  obtain ⟨Y, hY⟩ : ∃ Y : Int, (bytes : Int) + 1 = Y := ⟨_, rfl⟩
  have hy0 : (bytes : Int) = Y - 1 := by omega
  have hy1 : 0 < Y := by omega
  have hy2 : Y ≤ 1048577 := by omega
  have ho2 : decide ((8192 : Int) < Y) = false := by rw [decide_eq_false_iff_not]; omega
  clear ho hbb
  clear ht ha he
  push_cast
  rw [hY, hy0]
  clear hY hy0
  go_enter Tryz.func113, Tryz.ntmps113
  go_wp2_with (first | (go_at_call 132; (with_reducible refine (HC.out _ (below_twoD w _ _)).mono ?_); rintro e w1 ⟨rfl, hw1⟩; subst w1) | (go_at_call 134; (with_reducible refine (HWd.out _).mono ?_); rintro e w1 ⟨rfl, hw1⟩; subst w1) | (go_at_call 125; (with_reducible refine (HT.out _).mono ?_); rintro e w1 ⟨rfl, hw1⟩; subst w1))
  refine bodyPost_ret (results_dk rfl _ _ _ 35 _ (0, 0) rfl (two_new _ _ _) rfl) rfl ?_
  exact ⟨rfl, below_twoD _ _ _⟩
set_option maxRecDepth 20000 in
set_option maxHeartbeats 8000000 in
theorem tr_3b (d : DK) (lp tp : Option Addr) (ln lc tn tc : Nat) (c : UInt8) (w : World) (hl : d.line.length = ln) (ht : d.tr.length = tn) (hll : ln ≤ 1048576) (hbb : d.bytes ≤ 1048576) (ha : ArgAt w lp d.line) (hs : d.st = 7) (he : d.line = []) (hc10 : c = 10) (ho : 8192 < d.bytes + 1) : Calls Tryz.prog 113 #[.agg (dkC d (.slice lp ln lc) (.slice tp tn tc)), byteV c] w fun e w' => e = .returned (.agg (dkC { cntD d with st := 8 } (.slice lp ln lc) (.slice tp tn tc))) ∧ Below w.heap.size w w' := by
  obtain ⟨AT, hAT⟩ : ∃ AT : Int, (if (cutF 58 d.line).2.2 = true then ((cutF 58 d.line).1.length : Int) else -1) = AT := ⟨_, rfl⟩
  have HC := hid (fun (W : World) (hW : Below w.heap.size w W) => colon_any d.line lp ln lc hl hll W (ha.next hW))
  rw [hAT] at HC
  rw [he] at hAT hl
  have hAT2 : AT = -1 := by rw [← hAT]; rfl
  subst hAT2
  have hl0 : ln = 0 := by rw [← hl]; rfl
  subst hl0
  clear hAT hl
  have HWd := hid (fun W : World => word_any c W)
  have HT := hid (fun W : World => rtoken_any (c.toNat : Int) W (by omega) (by have := c.toNat_lt; omega))
  unfold byteV at HWd
  rw [show tokB (c.toNat : Int) = tokU c from rfl] at HT
  obtain ⟨V, hV⟩ : ∃ V, valU c = V := ⟨_, rfl⟩
  rw [hV] at HWd
  clear hV
  obtain ⟨K, hK⟩ : ∃ K, tokU c = K := ⟨_, rfl⟩
  rw [hK] at HT
  clear hK
  obtain ⟨most, len, st, e0, digits, size, more, line, bytes, tr, gh⟩ := d
  dsimp only at *
  unfold dkC byteV
  unfold cntD
  dsimp only
  have hcz : (c.toNat : Int) = 10 := by rw [hc10]; rfl
  rw [hcz]
  rw [hcz] at HWd HT
  clear hcz hc10
  subst hs
  obtain ⟨Y, hY⟩ : ∃ Y : Int, (bytes : Int) + 1 = Y := ⟨_, rfl⟩
  have hy0 : (bytes : Int) = Y - 1 := by omega
  have hy1 : 0 < Y := by omega
  have hy2 : Y ≤ 1048577 := by omega
  have ho2 : decide ((8192 : Int) < Y) = true := by rw [decide_eq_true_iff]; omega
  clear ho hbb
  clear ht ha he
  push_cast
  rw [hY, hy0]
  clear hY hy0
  go_enter Tryz.func113, Tryz.ntmps113
  go_wp2_with (first | (go_at_call 132; (with_reducible refine (HC.out _ (below_twoD w _ _)).mono ?_); rintro e w1 ⟨rfl, hw1⟩; subst w1) | (go_at_call 134; (with_reducible refine (HWd.out _).mono ?_); rintro e w1 ⟨rfl, hw1⟩; subst w1) | (go_at_call 125; (with_reducible refine (HT.out _).mono ?_); rintro e w1 ⟨rfl, hw1⟩; subst w1))
  refine bodyPost_ret (results_dk rfl _ _ _ 35 _ (0, 0) rfl (two_new _ _ _) rfl) rfl ?_
  exact ⟨rfl, below_twoD _ _ _⟩
set_option maxRecDepth 20000 in
set_option maxHeartbeats 8000000 in
theorem tr_5 (d : DK) (lp tp : Option Addr) (ln lc tn tc : Nat) (c : UInt8) (w : World) (hl : d.line.length = ln) (ht : d.tr.length = tn) (hll : ln ≤ 1048576) (hbb : d.bytes ≤ 1048576) (ha : ArgAt w lp d.line) (hs : d.st = 6) (he : d.line ≠ []) (hh : hasD d = false) (hc13 : c = 13) (ho : ¬ 8192 < d.bytes + 1) : Calls Tryz.prog 113 #[.agg (dkC d (.slice lp ln lc) (.slice tp tn tc)), byteV c] w fun e w' => e = .returned (.agg (dkC (failD (cntD d) 21) (.slice lp ln lc) (.slice tp tn tc))) ∧ Below w.heap.size w w' := by
  obtain ⟨AT, hAT⟩ : ∃ AT : Int, (if (cutF 58 d.line).2.2 = true then ((cutF 58 d.line).1.length : Int) else -1) = AT := ⟨_, rfl⟩
  have HC := hid (fun (W : World) (hW : Below w.heap.size w W) => colon_any d.line lp ln lc hl hll W (ha.next hW))
  rw [hAT] at HC
  have hAT2 : AT = -1 := by rw [← hAT, if_neg (by rw [show (cutF 58 d.line).2.2 = false from hh]; decide)]
  subst hAT2
  clear hAT hh
  have hl0 : ((ln : Int) == 0) = false := i_ne (b := 0) (fun h => he (List.eq_nil_of_length_eq_zero (hl.trans h)))
  clear he
  have HWd := hid (fun W : World => word_any c W)
  have HT := hid (fun W : World => rtoken_any (c.toNat : Int) W (by omega) (by have := c.toNat_lt; omega))
  unfold byteV at HWd
  rw [show tokB (c.toNat : Int) = tokU c from rfl] at HT
  obtain ⟨V, hV⟩ : ∃ V, valU c = V := ⟨_, rfl⟩
  rw [hV] at HWd
  clear hV
  obtain ⟨K, hK⟩ : ∃ K, tokU c = K := ⟨_, rfl⟩
  rw [hK] at HT
  clear hK
  obtain ⟨most, len, st, e0, digits, size, more, line, bytes, tr, gh⟩ := d
  dsimp only at *
  unfold dkC byteV
  unfold cntD
  unfold failD
  dsimp only
  have hcz : (c.toNat : Int) = 13 := by rw [hc13]; rfl
  rw [hcz]
  rw [hcz] at HWd HT
  clear hcz hc13
  subst hs
  obtain ⟨Y, hY⟩ : ∃ Y : Int, (bytes : Int) + 1 = Y := ⟨_, rfl⟩
  have hy0 : (bytes : Int) = Y - 1 := by omega
  have hy1 : 0 < Y := by omega
  have hy2 : Y ≤ 1048577 := by omega
  have ho2 : decide ((8192 : Int) < Y) = false := by rw [decide_eq_false_iff_not]; omega
  clear ho hbb
  clear hl ht ha
  have HF := hid (fun W : World => fail_any ⟨most, len, 6, e0, digits, size, more, line, bytes + 1, tr, gh⟩ lp tp ln lc tn tc 21 W)
  unfold dkC failD at HF
  dsimp only at HF
  push_cast at HF
  rw [hY] at HF
  push_cast
  rw [hY, hy0]
  clear hY hy0
  go_enter Tryz.func113, Tryz.ntmps113
  go_wp2_with (first | (go_at_call 132; (with_reducible refine (HC.out _ (below_twoD w _ _)).mono ?_); rintro e w1 ⟨rfl, hw1⟩; subst w1) | (go_at_call 134; (with_reducible refine (HWd.out _).mono ?_); rintro e w1 ⟨rfl, hw1⟩; subst w1) | (go_at_call 125; (with_reducible refine (HT.out _).mono ?_); rintro e w1 ⟨rfl, hw1⟩; subst w1) | (go_at_call 112; (with_reducible refine (HF.out _).mono ?_); rintro e w2 ⟨rfl, hb2⟩; have hz := (hb2.block (w.heap.size + 1) (by simp)).trans (two_new w _ _); have HB2 := hid (below_out (below_twoD w _ _) hb2); have HZ := hid hz; obtain ⟨k0, k1, k2, k3, k4, k5, k6, k7, k8, k9, kz⟩ := cells10 hz; have z0 := kz 0; have z1 := kz 1; have z2 := kz 2; have z3 := kz 3; have z4 := kz 4; have z5 := kz 5; have z6 := kz 6; have z7 := kz 7; have z8 := kz 8; have z9 := kz 9; clear hb2 hz kz))
  refine bodyPost_ret (results_dk rfl _ _ _ 35 _ (0, 0) rfl (put10 HZ.out _ _ _ _ _ _ _ _ _ _) rfl) rfl ?_
  exact ⟨rfl, below10 HB2.out (Nat.le_succ _) _ _ _ _ _ _ _ _ _ _⟩
set_option maxRecDepth 20000 in
set_option maxHeartbeats 8000000 in
theorem tr_6a (d : DK) (lp tp : Option Addr) (ln lc tn tc : Nat) (c : UInt8) (w : World) (hl : d.line.length = ln) (ht : d.tr.length = tn) (hll : ln ≤ 1048576) (hbb : d.bytes ≤ 1048576) (ha : ArgAt w lp d.line) (hs : d.st = 6) (he : d.line = []) (hc13 : c = 13) (ho : ¬ 8192 < d.bytes + 1) : Calls Tryz.prog 113 #[.agg (dkC d (.slice lp ln lc) (.slice tp tn tc)), byteV c] w fun e w' => e = .returned (.agg (dkC { cntD d with st := 7 } (.slice lp ln lc) (.slice tp tn tc))) ∧ Below w.heap.size w w' := by
  obtain ⟨AT, hAT⟩ : ∃ AT : Int, (if (cutF 58 d.line).2.2 = true then ((cutF 58 d.line).1.length : Int) else -1) = AT := ⟨_, rfl⟩
  have HC := hid (fun (W : World) (hW : Below w.heap.size w W) => colon_any d.line lp ln lc hl hll W (ha.next hW))
  rw [hAT] at HC
  rw [he] at hAT hl
  have hAT2 : AT = -1 := by rw [← hAT]; rfl
  subst hAT2
  have hl0 : ln = 0 := by rw [← hl]; rfl
  subst hl0
  clear hAT hl
  have HWd := hid (fun W : World => word_any c W)
  have HT := hid (fun W : World => rtoken_any (c.toNat : Int) W (by omega) (by have := c.toNat_lt; omega))
  unfold byteV at HWd
  rw [show tokB (c.toNat : Int) = tokU c from rfl] at HT
  obtain ⟨V, hV⟩ : ∃ V, valU c = V := ⟨_, rfl⟩
  rw [hV] at HWd
  clear hV
  obtain ⟨K, hK⟩ : ∃ K, tokU c = K := ⟨_, rfl⟩
  rw [hK] at HT
  clear hK
  obtain ⟨most, len, st, e0, digits, size, more, line, bytes, tr, gh⟩ := d
  dsimp only at *
  unfold dkC byteV
  unfold cntD
  dsimp only
  have hcz : (c.toNat : Int) = 13 := by rw [hc13]; rfl
  rw [hcz]
  rw [hcz] at HWd HT
  clear hcz hc13
  subst hs
  obtain ⟨Y, hY⟩ : ∃ Y : Int, (bytes : Int) + 1 = Y := ⟨_, rfl⟩
  have hy0 : (bytes : Int) = Y - 1 := by omega
  have hy1 : 0 < Y := by omega
  have hy2 : Y ≤ 1048577 := by omega
  have ho2 : decide ((8192 : Int) < Y) = false := by rw [decide_eq_false_iff_not]; omega
  clear ho hbb
  clear ht ha he
  push_cast
  rw [hY, hy0]
  clear hY hy0
  go_enter Tryz.func113, Tryz.ntmps113
  go_wp2_with (first | (go_at_call 132; (with_reducible refine (HC.out _ (below_twoD w _ _)).mono ?_); rintro e w1 ⟨rfl, hw1⟩; subst w1) | (go_at_call 134; (with_reducible refine (HWd.out _).mono ?_); rintro e w1 ⟨rfl, hw1⟩; subst w1) | (go_at_call 125; (with_reducible refine (HT.out _).mono ?_); rintro e w1 ⟨rfl, hw1⟩; subst w1))
  refine bodyPost_ret (results_dk rfl _ _ _ 35 _ (0, 0) rfl (two_new _ _ _) rfl) rfl ?_
  exact ⟨rfl, below_twoD _ _ _⟩
set_option maxRecDepth 20000 in
set_option maxHeartbeats 8000000 in
theorem tr_6b (d : DK) (lp tp : Option Addr) (ln lc tn tc : Nat) (c : UInt8) (w : World) (hl : d.line.length = ln) (ht : d.tr.length = tn) (hll : ln ≤ 1048576) (hbb : d.bytes ≤ 1048576) (ha : ArgAt w lp d.line) (hs : d.st = 6) (he : d.line = []) (hc13 : c = 13) (ho : 8192 < d.bytes + 1) : Calls Tryz.prog 113 #[.agg (dkC d (.slice lp ln lc) (.slice tp tn tc)), byteV c] w fun e w' => e = .returned (.agg (dkC { cntD d with st := 7 } (.slice lp ln lc) (.slice tp tn tc))) ∧ Below w.heap.size w w' := by
  obtain ⟨AT, hAT⟩ : ∃ AT : Int, (if (cutF 58 d.line).2.2 = true then ((cutF 58 d.line).1.length : Int) else -1) = AT := ⟨_, rfl⟩
  have HC := hid (fun (W : World) (hW : Below w.heap.size w W) => colon_any d.line lp ln lc hl hll W (ha.next hW))
  rw [hAT] at HC
  rw [he] at hAT hl
  have hAT2 : AT = -1 := by rw [← hAT]; rfl
  subst hAT2
  have hl0 : ln = 0 := by rw [← hl]; rfl
  subst hl0
  clear hAT hl
  have HWd := hid (fun W : World => word_any c W)
  have HT := hid (fun W : World => rtoken_any (c.toNat : Int) W (by omega) (by have := c.toNat_lt; omega))
  unfold byteV at HWd
  rw [show tokB (c.toNat : Int) = tokU c from rfl] at HT
  obtain ⟨V, hV⟩ : ∃ V, valU c = V := ⟨_, rfl⟩
  rw [hV] at HWd
  clear hV
  obtain ⟨K, hK⟩ : ∃ K, tokU c = K := ⟨_, rfl⟩
  rw [hK] at HT
  clear hK
  obtain ⟨most, len, st, e0, digits, size, more, line, bytes, tr, gh⟩ := d
  dsimp only at *
  unfold dkC byteV
  unfold cntD
  dsimp only
  have hcz : (c.toNat : Int) = 13 := by rw [hc13]; rfl
  rw [hcz]
  rw [hcz] at HWd HT
  clear hcz hc13
  subst hs
  obtain ⟨Y, hY⟩ : ∃ Y : Int, (bytes : Int) + 1 = Y := ⟨_, rfl⟩
  have hy0 : (bytes : Int) = Y - 1 := by omega
  have hy1 : 0 < Y := by omega
  have hy2 : Y ≤ 1048577 := by omega
  have ho2 : decide ((8192 : Int) < Y) = true := by rw [decide_eq_true_iff]; omega
  clear ho hbb
  clear ht ha he
  push_cast
  rw [hY, hy0]
  clear hY hy0
  go_enter Tryz.func113, Tryz.ntmps113
  go_wp2_with (first | (go_at_call 132; (with_reducible refine (HC.out _ (below_twoD w _ _)).mono ?_); rintro e w1 ⟨rfl, hw1⟩; subst w1) | (go_at_call 134; (with_reducible refine (HWd.out _).mono ?_); rintro e w1 ⟨rfl, hw1⟩; subst w1) | (go_at_call 125; (with_reducible refine (HT.out _).mono ?_); rintro e w1 ⟨rfl, hw1⟩; subst w1))
  refine bodyPost_ret (results_dk rfl _ _ _ 35 _ (0, 0) rfl (two_new _ _ _) rfl) rfl ?_
  exact ⟨rfl, below_twoD _ _ _⟩
set_option maxRecDepth 20000 in
set_option maxHeartbeats 8000000 in
theorem tr_6c (d : DK) (lp tp : Option Addr) (ln lc tn tc : Nat) (c : UInt8) (w : World) (hl : d.line.length = ln) (ht : d.tr.length = tn) (hll : ln ≤ 1048576) (hbb : d.bytes ≤ 1048576) (ha : ArgAt w lp d.line) (hs : d.st = 6) (he : d.line ≠ []) (hh : hasD d = true) (hc13 : c = 13) (ho : ¬ 8192 < d.bytes + 1) : Calls Tryz.prog 113 #[.agg (dkC d (.slice lp ln lc) (.slice tp tn tc)), byteV c] w fun e w' => e = .returned (.agg (dkC { cntD d with st := 7 } (.slice lp ln lc) (.slice tp tn tc))) ∧ Below w.heap.size w w' := by
  obtain ⟨AT, hAT⟩ : ∃ AT : Int, (if (cutF 58 d.line).2.2 = true then ((cutF 58 d.line).1.length : Int) else -1) = AT := ⟨_, rfl⟩
  have HC := hid (fun (W : World) (hW : Below w.heap.size w W) => colon_any d.line lp ln lc hl hll W (ha.next hW))
  rw [hAT] at HC
  have hAT2 : 0 ≤ AT := by rw [← hAT, if_pos (show (cutF 58 d.line).2.2 = true from hh)]; omega
  clear hAT hh
  have hl0 : ((ln : Int) == 0) = false := i_ne (b := 0) (fun h => he (List.eq_nil_of_length_eq_zero (hl.trans h)))
  clear he
  have HWd := hid (fun W : World => word_any c W)
  have HT := hid (fun W : World => rtoken_any (c.toNat : Int) W (by omega) (by have := c.toNat_lt; omega))
  unfold byteV at HWd
  rw [show tokB (c.toNat : Int) = tokU c from rfl] at HT
  obtain ⟨V, hV⟩ : ∃ V, valU c = V := ⟨_, rfl⟩
  rw [hV] at HWd
  clear hV
  obtain ⟨K, hK⟩ : ∃ K, tokU c = K := ⟨_, rfl⟩
  rw [hK] at HT
  clear hK
  obtain ⟨most, len, st, e0, digits, size, more, line, bytes, tr, gh⟩ := d
  dsimp only at *
  unfold dkC byteV
  unfold cntD
  dsimp only
  have hcz : (c.toNat : Int) = 13 := by rw [hc13]; rfl
  rw [hcz]
  rw [hcz] at HWd HT
  clear hcz hc13
  subst hs
  obtain ⟨Y, hY⟩ : ∃ Y : Int, (bytes : Int) + 1 = Y := ⟨_, rfl⟩
  have hy0 : (bytes : Int) = Y - 1 := by omega
  have hy1 : 0 < Y := by omega
  have hy2 : Y ≤ 1048577 := by omega
  have ho2 : decide ((8192 : Int) < Y) = false := by rw [decide_eq_false_iff_not]; omega
  clear ho hbb
  clear hl ht ha
  push_cast
  rw [hY, hy0]
  clear hY hy0
  go_enter Tryz.func113, Tryz.ntmps113
  go_wp2_with (first | (go_at_call 132; (with_reducible refine (HC.out _ (below_twoD w _ _)).mono ?_); rintro e w1 ⟨rfl, hw1⟩; subst w1) | (go_at_call 134; (with_reducible refine (HWd.out _).mono ?_); rintro e w1 ⟨rfl, hw1⟩; subst w1) | (go_at_call 125; (with_reducible refine (HT.out _).mono ?_); rintro e w1 ⟨rfl, hw1⟩; subst w1))
  refine bodyPost_ret (results_dk rfl _ _ _ 35 _ (0, 0) rfl (two_new _ _ _) rfl) rfl ?_
  exact ⟨rfl, below_twoD _ _ _⟩
set_option maxRecDepth 20000 in
set_option maxHeartbeats 8000000 in
theorem tr_7a (d : DK) (lp tp : Option Addr) (ln lc tn tc : Nat) (c : UInt8) (w : World) (hl : d.line.length = ln) (ht : d.tr.length = tn) (hll : ln ≤ 1048576) (hbb : d.bytes ≤ 1048576) (ha : ArgAt w lp d.line) (hs : d.st = 6) (he : d.line = []) (hc58 : c = 58) (ho : ¬ 8192 < d.bytes + 1) : Calls Tryz.prog 113 #[.agg (dkC d (.slice lp ln lc) (.slice tp tn tc)), byteV c] w fun e w' => e = .returned (.agg (dkC (failD (cntD d) 21) (.slice lp ln lc) (.slice tp tn tc))) ∧ Below w.heap.size w w' := by
  obtain ⟨AT, hAT⟩ : ∃ AT : Int, (if (cutF 58 d.line).2.2 = true then ((cutF 58 d.line).1.length : Int) else -1) = AT := ⟨_, rfl⟩
  have HC := hid (fun (W : World) (hW : Below w.heap.size w W) => colon_any d.line lp ln lc hl hll W (ha.next hW))
  rw [hAT] at HC
  rw [he] at hAT hl
  have hAT2 : AT = -1 := by rw [← hAT]; rfl
  subst hAT2
  have hl0 : ln = 0 := by rw [← hl]; rfl
  subst hl0
  clear hAT hl
  have HWd := hid (fun W : World => word_any c W)
  have HT := hid (fun W : World => rtoken_any (c.toNat : Int) W (by omega) (by have := c.toNat_lt; omega))
  unfold byteV at HWd
  rw [show tokB (c.toNat : Int) = tokU c from rfl] at HT
  obtain ⟨V, hV⟩ : ∃ V, valU c = V := ⟨_, rfl⟩
  rw [hV] at HWd
  clear hV
  obtain ⟨K, hK⟩ : ∃ K, tokU c = K := ⟨_, rfl⟩
  rw [hK] at HT
  clear hK
  obtain ⟨most, len, st, e0, digits, size, more, line, bytes, tr, gh⟩ := d
  dsimp only at *
  unfold dkC byteV
  unfold cntD
  unfold failD
  dsimp only
  have hcz : (c.toNat : Int) = 58 := by rw [hc58]; rfl
  rw [hcz]
  rw [hcz] at HWd HT
  clear hcz hc58
  subst hs
  obtain ⟨Y, hY⟩ : ∃ Y : Int, (bytes : Int) + 1 = Y := ⟨_, rfl⟩
  have hy0 : (bytes : Int) = Y - 1 := by omega
  have hy1 : 0 < Y := by omega
  have hy2 : Y ≤ 1048577 := by omega
  have ho2 : decide ((8192 : Int) < Y) = false := by rw [decide_eq_false_iff_not]; omega
  clear ho hbb
  clear ht ha he
  have HF := hid (fun W : World => fail_any ⟨most, len, 6, e0, digits, size, more, line, bytes + 1, tr, gh⟩ lp tp 0 lc tn tc 21 W)
  unfold dkC failD at HF
  dsimp only at HF
  push_cast at HF
  rw [hY] at HF
  push_cast
  rw [hY, hy0]
  clear hY hy0
  go_enter Tryz.func113, Tryz.ntmps113
  go_wp2_with (first | (go_at_call 132; (with_reducible refine (HC.out _ (below_twoD w _ _)).mono ?_); rintro e w1 ⟨rfl, hw1⟩; subst w1) | (go_at_call 134; (with_reducible refine (HWd.out _).mono ?_); rintro e w1 ⟨rfl, hw1⟩; subst w1) | (go_at_call 125; (with_reducible refine (HT.out _).mono ?_); rintro e w1 ⟨rfl, hw1⟩; subst w1) | (go_at_call 112; (with_reducible refine (HF.out _).mono ?_); rintro e w2 ⟨rfl, hb2⟩; have hz := (hb2.block (w.heap.size + 1) (by simp)).trans (two_new w _ _); have HB2 := hid (below_out (below_twoD w _ _) hb2); have HZ := hid hz; obtain ⟨k0, k1, k2, k3, k4, k5, k6, k7, k8, k9, kz⟩ := cells10 hz; have z0 := kz 0; have z1 := kz 1; have z2 := kz 2; have z3 := kz 3; have z4 := kz 4; have z5 := kz 5; have z6 := kz 6; have z7 := kz 7; have z8 := kz 8; have z9 := kz 9; clear hb2 hz kz))
  refine bodyPost_ret (results_dk rfl _ _ _ 35 _ (0, 0) rfl (put10 HZ.out _ _ _ _ _ _ _ _ _ _) rfl) rfl ?_
  exact ⟨rfl, below10 HB2.out (Nat.le_succ _) _ _ _ _ _ _ _ _ _ _⟩
set_option maxRecDepth 20000 in
set_option maxHeartbeats 8000000 in
theorem tr_7b (d : DK) (lp tp : Option Addr) (ln lc tn tc : Nat) (c : UInt8) (w : World) (hl : d.line.length = ln) (ht : d.tr.length = tn) (hll : ln ≤ 1048576) (hbb : d.bytes ≤ 1048576) (ha : ArgAt w lp d.line) (hs : d.st = 6) (he : d.line = []) (hc13 : c ≠ 13) (hc58 : c ≠ 58) (ho : ¬ 8192 < d.bytes + 1) (hk : tokU c = false) : Calls Tryz.prog 113 #[.agg (dkC d (.slice lp ln lc) (.slice tp tn tc)), byteV c] w fun e w' => e = .returned (.agg (dkC (failD (cntD d) 21) (.slice lp ln lc) (.slice tp tn tc))) ∧ Below w.heap.size w w' := by
  obtain ⟨AT, hAT⟩ : ∃ AT : Int, (if (cutF 58 d.line).2.2 = true then ((cutF 58 d.line).1.length : Int) else -1) = AT := ⟨_, rfl⟩
  have HC := hid (fun (W : World) (hW : Below w.heap.size w W) => colon_any d.line lp ln lc hl hll W (ha.next hW))
  rw [hAT] at HC
  rw [he] at hAT hl
  have hAT2 : AT = -1 := by rw [← hAT]; rfl
  subst hAT2
  have hl0 : ln = 0 := by rw [← hl]; rfl
  subst hl0
  clear hAT hl
  have HWd := hid (fun W : World => word_any c W)
  have HT := hid (fun W : World => rtoken_any (c.toNat : Int) W (by omega) (by have := c.toNat_lt; omega))
  unfold byteV at HWd
  rw [show tokB (c.toNat : Int) = tokU c from rfl] at HT
  obtain ⟨V, hV⟩ : ∃ V, valU c = V := ⟨_, rfl⟩
  rw [hV] at HWd
  clear hV
  rw [hk] at HT
  clear hk
  obtain ⟨most, len, st, e0, digits, size, more, line, bytes, tr, gh⟩ := d
  dsimp only at *
  unfold dkC byteV
  unfold cntD
  unfold failD
  dsimp only
  have f13 : ((c.toNat : Int) == 13) = false := c_ne (toNat_ne hc13)
  clear hc13
  have f58 : ((c.toNat : Int) == 58) = false := c_ne (toNat_ne hc58)
  have g58 : ¬ (c.toNat : Int) = 58 := by have := toNat_ne hc58; simp at f58; omega
  have m58 : ((c.toNat : Int) != 58) = true := by simpa using g58
  clear hc58
  subst hs
  obtain ⟨Y, hY⟩ : ∃ Y : Int, (bytes : Int) + 1 = Y := ⟨_, rfl⟩
  have hy0 : (bytes : Int) = Y - 1 := by omega
  have hy1 : 0 < Y := by omega
  have hy2 : Y ≤ 1048577 := by omega
  have ho2 : decide ((8192 : Int) < Y) = false := by rw [decide_eq_false_iff_not]; omega
  clear ho hbb
  clear ht ha he
  have HF := hid (fun W : World => fail_any ⟨most, len, 6, e0, digits, size, more, line, bytes + 1, tr, gh⟩ lp tp 0 lc tn tc 21 W)
  unfold dkC failD at HF
  dsimp only at HF
  push_cast at HF
  rw [hY] at HF
  push_cast
  rw [hY, hy0]
  clear hY hy0
  go_enter Tryz.func113, Tryz.ntmps113
  go_wp2_with (first | (go_at_call 132; (with_reducible refine (HC.out _ (below_twoD w _ _)).mono ?_); rintro e w1 ⟨rfl, hw1⟩; subst w1) | (go_at_call 134; (with_reducible refine (HWd.out _).mono ?_); rintro e w1 ⟨rfl, hw1⟩; subst w1) | (go_at_call 125; (with_reducible refine (HT.out _).mono ?_); rintro e w1 ⟨rfl, hw1⟩; subst w1) | (go_at_call 112; (with_reducible refine (HF.out _).mono ?_); rintro e w2 ⟨rfl, hb2⟩; have hz := (hb2.block (w.heap.size + 1) (by simp)).trans (two_new w _ _); have HB2 := hid (below_out (below_twoD w _ _) hb2); have HZ := hid hz; obtain ⟨k0, k1, k2, k3, k4, k5, k6, k7, k8, k9, kz⟩ := cells10 hz; have z0 := kz 0; have z1 := kz 1; have z2 := kz 2; have z3 := kz 3; have z4 := kz 4; have z5 := kz 5; have z6 := kz 6; have z7 := kz 7; have z8 := kz 8; have z9 := kz 9; clear hb2 hz kz))
  refine bodyPost_ret (results_dk rfl _ _ _ 35 _ (0, 0) rfl (put10 HZ.out _ _ _ _ _ _ _ _ _ _) rfl) rfl ?_
  exact ⟨rfl, below10 HB2.out (Nat.le_succ _) _ _ _ _ _ _ _ _ _ _⟩
set_option maxRecDepth 20000 in
set_option maxHeartbeats 8000000 in
theorem tr_7b2 (d : DK) (lp tp : Option Addr) (ln lc tn tc : Nat) (c : UInt8) (w : World) (hl : d.line.length = ln) (ht : d.tr.length = tn) (hll : ln ≤ 1048576) (hbb : d.bytes ≤ 1048576) (ha : ArgAt w lp d.line) (hs : d.st = 6) (he : d.line ≠ []) (hh : hasD d = false) (hc13 : c ≠ 13) (hc58 : c ≠ 58) (ho : ¬ 8192 < d.bytes + 1) (hk : tokU c = false) : Calls Tryz.prog 113 #[.agg (dkC d (.slice lp ln lc) (.slice tp tn tc)), byteV c] w fun e w' => e = .returned (.agg (dkC (failD (cntD d) 21) (.slice lp ln lc) (.slice tp tn tc))) ∧ Below w.heap.size w w' := by
  obtain ⟨AT, hAT⟩ : ∃ AT : Int, (if (cutF 58 d.line).2.2 = true then ((cutF 58 d.line).1.length : Int) else -1) = AT := ⟨_, rfl⟩
  have HC := hid (fun (W : World) (hW : Below w.heap.size w W) => colon_any d.line lp ln lc hl hll W (ha.next hW))
  rw [hAT] at HC
  have hAT2 : AT = -1 := by rw [← hAT, if_neg (by rw [show (cutF 58 d.line).2.2 = false from hh]; decide)]
  subst hAT2
  clear hAT hh
  have hl0 : ((ln : Int) == 0) = false := i_ne (b := 0) (fun h => he (List.eq_nil_of_length_eq_zero (hl.trans h)))
  clear he
  have HWd := hid (fun W : World => word_any c W)
  have HT := hid (fun W : World => rtoken_any (c.toNat : Int) W (by omega) (by have := c.toNat_lt; omega))
  unfold byteV at HWd
  rw [show tokB (c.toNat : Int) = tokU c from rfl] at HT
  obtain ⟨V, hV⟩ : ∃ V, valU c = V := ⟨_, rfl⟩
  rw [hV] at HWd
  clear hV
  rw [hk] at HT
  clear hk
  obtain ⟨most, len, st, e0, digits, size, more, line, bytes, tr, gh⟩ := d
  dsimp only at *
  unfold dkC byteV
  unfold cntD
  unfold failD
  dsimp only
  have f13 : ((c.toNat : Int) == 13) = false := c_ne (toNat_ne hc13)
  clear hc13
  have f58 : ((c.toNat : Int) == 58) = false := c_ne (toNat_ne hc58)
  have g58 : ¬ (c.toNat : Int) = 58 := by have := toNat_ne hc58; simp at f58; omega
  have m58 : ((c.toNat : Int) != 58) = true := by simpa using g58
  clear hc58
  subst hs
  obtain ⟨Y, hY⟩ : ∃ Y : Int, (bytes : Int) + 1 = Y := ⟨_, rfl⟩
  have hy0 : (bytes : Int) = Y - 1 := by omega
  have hy1 : 0 < Y := by omega
  have hy2 : Y ≤ 1048577 := by omega
  have ho2 : decide ((8192 : Int) < Y) = false := by rw [decide_eq_false_iff_not]; omega
  clear ho hbb
  clear hl ht ha
  have HF := hid (fun W : World => fail_any ⟨most, len, 6, e0, digits, size, more, line, bytes + 1, tr, gh⟩ lp tp ln lc tn tc 21 W)
  unfold dkC failD at HF
  dsimp only at HF
  push_cast at HF
  rw [hY] at HF
  push_cast
  rw [hY, hy0]
  clear hY hy0
  go_enter Tryz.func113, Tryz.ntmps113
  go_wp2_with (first | (go_at_call 132; (with_reducible refine (HC.out _ (below_twoD w _ _)).mono ?_); rintro e w1 ⟨rfl, hw1⟩; subst w1) | (go_at_call 134; (with_reducible refine (HWd.out _).mono ?_); rintro e w1 ⟨rfl, hw1⟩; subst w1) | (go_at_call 125; (with_reducible refine (HT.out _).mono ?_); rintro e w1 ⟨rfl, hw1⟩; subst w1) | (go_at_call 112; (with_reducible refine (HF.out _).mono ?_); rintro e w2 ⟨rfl, hb2⟩; have hz := (hb2.block (w.heap.size + 1) (by simp)).trans (two_new w _ _); have HB2 := hid (below_out (below_twoD w _ _) hb2); have HZ := hid hz; obtain ⟨k0, k1, k2, k3, k4, k5, k6, k7, k8, k9, kz⟩ := cells10 hz; have z0 := kz 0; have z1 := kz 1; have z2 := kz 2; have z3 := kz 3; have z4 := kz 4; have z5 := kz 5; have z6 := kz 6; have z7 := kz 7; have z8 := kz 8; have z9 := kz 9; clear hb2 hz kz))
  refine bodyPost_ret (results_dk rfl _ _ _ 35 _ (0, 0) rfl (put10 HZ.out _ _ _ _ _ _ _ _ _ _) rfl) rfl ?_
  exact ⟨rfl, below10 HB2.out (Nat.le_succ _) _ _ _ _ _ _ _ _ _ _⟩
set_option maxRecDepth 20000 in
set_option maxHeartbeats 8000000 in
theorem tr_7c (d : DK) (lp tp : Option Addr) (ln lc tn tc : Nat) (c : UInt8) (w : World) (hl : d.line.length = ln) (ht : d.tr.length = tn) (hll : ln ≤ 1048576) (hbb : d.bytes ≤ 1048576) (ha : ArgAt w lp d.line) (hs : d.st = 6) (he : d.line ≠ []) (hh : hasD d = true) (hc13 : c ≠ 13) (ho : ¬ 8192 < d.bytes + 1) (hv : valU c = false) : Calls Tryz.prog 113 #[.agg (dkC d (.slice lp ln lc) (.slice tp tn tc)), byteV c] w fun e w' => e = .returned (.agg (dkC (failD (cntD d) 21) (.slice lp ln lc) (.slice tp tn tc))) ∧ Below w.heap.size w w' := by
  obtain ⟨AT, hAT⟩ : ∃ AT : Int, (if (cutF 58 d.line).2.2 = true then ((cutF 58 d.line).1.length : Int) else -1) = AT := ⟨_, rfl⟩
  have HC := hid (fun (W : World) (hW : Below w.heap.size w W) => colon_any d.line lp ln lc hl hll W (ha.next hW))
  rw [hAT] at HC
  have hAT2 : 0 ≤ AT := by rw [← hAT, if_pos (show (cutF 58 d.line).2.2 = true from hh)]; omega
  clear hAT hh
  have hl0 : ((ln : Int) == 0) = false := i_ne (b := 0) (fun h => he (List.eq_nil_of_length_eq_zero (hl.trans h)))
  clear he
  have HWd := hid (fun W : World => word_any c W)
  have HT := hid (fun W : World => rtoken_any (c.toNat : Int) W (by omega) (by have := c.toNat_lt; omega))
  unfold byteV at HWd
  rw [show tokB (c.toNat : Int) = tokU c from rfl] at HT
  rw [hv] at HWd
  clear hv
  obtain ⟨K, hK⟩ : ∃ K, tokU c = K := ⟨_, rfl⟩
  rw [hK] at HT
  clear hK
  obtain ⟨most, len, st, e0, digits, size, more, line, bytes, tr, gh⟩ := d
  dsimp only at *
  unfold dkC byteV
  unfold cntD
  unfold failD
  dsimp only
  have f13 : ((c.toNat : Int) == 13) = false := c_ne (toNat_ne hc13)
  clear hc13
  subst hs
  obtain ⟨Y, hY⟩ : ∃ Y : Int, (bytes : Int) + 1 = Y := ⟨_, rfl⟩
  have hy0 : (bytes : Int) = Y - 1 := by omega
  have hy1 : 0 < Y := by omega
  have hy2 : Y ≤ 1048577 := by omega
  have ho2 : decide ((8192 : Int) < Y) = false := by rw [decide_eq_false_iff_not]; omega
  clear ho hbb
  clear hl ht ha
  have HF := hid (fun W : World => fail_any ⟨most, len, 6, e0, digits, size, more, line, bytes + 1, tr, gh⟩ lp tp ln lc tn tc 21 W)
  unfold dkC failD at HF
  dsimp only at HF
  push_cast at HF
  rw [hY] at HF
  push_cast
  rw [hY, hy0]
  clear hY hy0
  go_enter Tryz.func113, Tryz.ntmps113
  go_wp2_with (first | (go_at_call 132; (with_reducible refine (HC.out _ (below_twoD w _ _)).mono ?_); rintro e w1 ⟨rfl, hw1⟩; subst w1) | (go_at_call 134; (with_reducible refine (HWd.out _).mono ?_); rintro e w1 ⟨rfl, hw1⟩; subst w1) | (go_at_call 125; (with_reducible refine (HT.out _).mono ?_); rintro e w1 ⟨rfl, hw1⟩; subst w1) | (go_at_call 112; (with_reducible refine (HF.out _).mono ?_); rintro e w2 ⟨rfl, hb2⟩; have hz := (hb2.block (w.heap.size + 1) (by simp)).trans (two_new w _ _); have HB2 := hid (below_out (below_twoD w _ _) hb2); have HZ := hid hz; obtain ⟨k0, k1, k2, k3, k4, k5, k6, k7, k8, k9, kz⟩ := cells10 hz; have z0 := kz 0; have z1 := kz 1; have z2 := kz 2; have z3 := kz 3; have z4 := kz 4; have z5 := kz 5; have z6 := kz 6; have z7 := kz 7; have z8 := kz 8; have z9 := kz 9; clear hb2 hz kz))
  refine bodyPost_ret (results_dk rfl _ _ _ 35 _ (0, 0) rfl (put10 HZ.out _ _ _ _ _ _ _ _ _ _) rfl) rfl ?_
  exact ⟨rfl, below10 HB2.out (Nat.le_succ _) _ _ _ _ _ _ _ _ _ _⟩
set_option maxRecDepth 20000 in
set_option maxHeartbeats 8000000 in
theorem tr_7d (d : DK) (lp tp : Option Addr) (ln lc tn tc : Nat) (c : UInt8) (w : World) (hl : d.line.length = ln) (ht : d.tr.length = tn) (hll : ln ≤ 1048576) (hbb : d.bytes ≤ 1048576) (ha : ArgAt w lp d.line) (hs : d.st = 6) (he : d.line = []) (hc13 : c ≠ 13) (hc58 : c ≠ 58) (ho : ¬ 8192 < d.bytes + 1) (hk : tokU c = true) (hr : d.tr.length = 64) : Calls Tryz.prog 113 #[.agg (dkC d (.slice lp ln lc) (.slice tp tn tc)), byteV c] w fun e w' => e = .returned (.agg (dkC (failD (cntD d) 21) (.slice lp ln lc) (.slice tp tn tc))) ∧ Below w.heap.size w w' := by
  obtain ⟨AT, hAT⟩ : ∃ AT : Int, (if (cutF 58 d.line).2.2 = true then ((cutF 58 d.line).1.length : Int) else -1) = AT := ⟨_, rfl⟩
  have HC := hid (fun (W : World) (hW : Below w.heap.size w W) => colon_any d.line lp ln lc hl hll W (ha.next hW))
  rw [hAT] at HC
  rw [he] at hAT hl
  have hAT2 : AT = -1 := by rw [← hAT]; rfl
  subst hAT2
  have hl0 : ln = 0 := by rw [← hl]; rfl
  subst hl0
  clear hAT hl
  have HWd := hid (fun W : World => word_any c W)
  have HT := hid (fun W : World => rtoken_any (c.toNat : Int) W (by omega) (by have := c.toNat_lt; omega))
  unfold byteV at HWd
  rw [show tokB (c.toNat : Int) = tokU c from rfl] at HT
  obtain ⟨V, hV⟩ : ∃ V, valU c = V := ⟨_, rfl⟩
  rw [hV] at HWd
  clear hV
  rw [hk] at HT
  clear hk
  rw [ht] at hr
  subst hr
  obtain ⟨most, len, st, e0, digits, size, more, line, bytes, tr, gh⟩ := d
  dsimp only at *
  unfold dkC byteV
  unfold cntD
  unfold failD
  dsimp only
  have f13 : ((c.toNat : Int) == 13) = false := c_ne (toNat_ne hc13)
  clear hc13
  have f58 : ((c.toNat : Int) == 58) = false := c_ne (toNat_ne hc58)
  have g58 : ¬ (c.toNat : Int) = 58 := by have := toNat_ne hc58; simp at f58; omega
  have m58 : ((c.toNat : Int) != 58) = true := by simpa using g58
  clear hc58
  subst hs
  obtain ⟨Y, hY⟩ : ∃ Y : Int, (bytes : Int) + 1 = Y := ⟨_, rfl⟩
  have hy0 : (bytes : Int) = Y - 1 := by omega
  have hy1 : 0 < Y := by omega
  have hy2 : Y ≤ 1048577 := by omega
  have ho2 : decide ((8192 : Int) < Y) = false := by rw [decide_eq_false_iff_not]; omega
  clear ho hbb
  clear ht ha he
  have HF := hid (fun W : World => fail_any ⟨most, len, 6, e0, digits, size, more, line, bytes + 1, tr, gh⟩ lp tp 0 lc 64 tc 21 W)
  unfold dkC failD at HF
  dsimp only at HF
  push_cast at HF
  rw [hY] at HF
  push_cast
  rw [hY, hy0]
  clear hY hy0
  go_enter Tryz.func113, Tryz.ntmps113
  go_wp2_with (first | (go_at_call 132; (with_reducible refine (HC.out _ (below_twoD w _ _)).mono ?_); rintro e w1 ⟨rfl, hw1⟩; subst w1) | (go_at_call 134; (with_reducible refine (HWd.out _).mono ?_); rintro e w1 ⟨rfl, hw1⟩; subst w1) | (go_at_call 125; (with_reducible refine (HT.out _).mono ?_); rintro e w1 ⟨rfl, hw1⟩; subst w1) | (go_at_call 112; (with_reducible refine (HF.out _).mono ?_); rintro e w2 ⟨rfl, hb2⟩; have hz := (hb2.block (w.heap.size + 1) (by simp)).trans (two_new w _ _); have HB2 := hid (below_out (below_twoD w _ _) hb2); have HZ := hid hz; obtain ⟨k0, k1, k2, k3, k4, k5, k6, k7, k8, k9, kz⟩ := cells10 hz; have z0 := kz 0; have z1 := kz 1; have z2 := kz 2; have z3 := kz 3; have z4 := kz 4; have z5 := kz 5; have z6 := kz 6; have z7 := kz 7; have z8 := kz 8; have z9 := kz 9; clear hb2 hz kz))
  refine bodyPost_ret (results_dk rfl _ _ _ 35 _ (0, 0) rfl (put10 HZ.out _ _ _ _ _ _ _ _ _ _) rfl) rfl ?_
  exact ⟨rfl, below10 HB2.out (Nat.le_succ _) _ _ _ _ _ _ _ _ _ _⟩
end Go.Proofs.YtnlmjlfoeodleaaGreatDoor
