/- The document's reader of chunked bodies: a byte of a size line. -/
import Derived.Test.YtnlmjlfoeodleaaGreatDoorDFns
namespace Go.Proofs.YtnlmjlfoeodleaaGreatDoor
open Go.RowKit

theorem put10 {w : World} {g : Nat} {T : TypeId} {fr : Nat × Nat} {x0 x1 x2 x3 x4 x5 x6 x7 x8 x9 : Value} (h : w.heap[g]? = some (.cells #[x0, x1, x2, x3, x4, x5, x6, x7, x8, x9] T fr)) (c0 c1 c2 c3 c4 c5 c6 c7 c8 c9 : Value) : ((((((((((w.setCell ⟨g, 0, none⟩ c0).setCell ⟨g, 1, none⟩ c1).setCell ⟨g, 2, none⟩ c2).setCell ⟨g, 3, none⟩ c3).setCell ⟨g, 4, none⟩ c4).setCell ⟨g, 5, none⟩ c5).setCell ⟨g, 6, none⟩ c6).setCell ⟨g, 7, none⟩ c7).setCell ⟨g, 8, none⟩ c8).setCell ⟨g, 9, none⟩ c9).heap[g]? = some (.cells #[c0, c1, c2, c3, c4, c5, c6, c7, c8, c9] T fr) := by
  simp [World.setCell, Array.getElem?_modify, h]
theorem below10 {w0 w : World} {N g : Nat} (h : Below N w0 w) (hg : N ≤ g) (c0 c1 c2 c3 c4 c5 c6 c7 c8 c9 : Value) : Below N w0 ((((((((((w.setCell ⟨g, 0, none⟩ c0).setCell ⟨g, 1, none⟩ c1).setCell ⟨g, 2, none⟩ c2).setCell ⟨g, 3, none⟩ c3).setCell ⟨g, 4, none⟩ c4).setCell ⟨g, 5, none⟩ c5).setCell ⟨g, 6, none⟩ c6).setCell ⟨g, 7, none⟩ c7).setCell ⟨g, 8, none⟩ c8).setCell ⟨g, 9, none⟩ c9) := by
  iterate 10 refine Below.setCell ?_ hg _
  exact h
def zzD : Array Value := #[.int .i64 0, .int .i64 0, .int .i64 0, .int .i64 0, .int .i64 0, .int .i64 0, .int .i64 0, .slice none 0 0, .int .i64 0, .slice none 0 0]
set_option maxRecDepth 20000 in
set_option maxHeartbeats 8000000 in
theorem size_1 (d : DK) (lp tp : Option Addr) (ln lc tn tc : Nat) (c : UInt8) (w : World) (hs : d.st = 2) (hc : c = 10) (hm : d.most ≤ 1099511627776) (hlm : d.len ≤ d.most) (hb : d.most - d.len < d.size) : Calls Tryz.prog 114 #[.agg (dkC d (.slice lp ln lc) (.slice tp tn tc)), byteV c] w fun e w' => e = .returned (.agg (dkC (failD d 33) (.slice lp ln lc) (.slice tp tn tc))) ∧ Below w.heap.size w w' := by
  have HX := hid (fun W : World => hexd_any c W)
  have HWd := hid (fun W : World => word_any c W)
  unfold byteV at HX HWd
  obtain ⟨D, hD⟩ : ∃ D : Int, (if hexU c = true then (hexN c : Int) else -1) = D := ⟨_, rfl⟩
  rw [hD] at HX
  clear hD
  obtain ⟨V, hV⟩ : ∃ V, valU c = V := ⟨_, rfl⟩
  rw [hV] at HWd
  clear hV
  obtain ⟨most, len, st, e0, digits, size, more, line, bytes, tr, gh⟩ := d
  dsimp only at *
  unfold dkC byteV
  dsimp only
  have hcz : (c.toNat : Int) = 10 := by rw [hc]; rfl
  rw [hcz]
  rw [hcz] at HX HWd
  subst hs
  have hgt : (most : Int) - (len : Int) < (size : Int) := by omega
  have hw : wrap64 ((most : Int) - (len : Int)) = (most : Int) - (len : Int) := by unfold wrap64; omega
  clear hc hb
  have HF := hid (fun W : World => fail_any ⟨most, len, 2, e0, digits, size, more, line, bytes, tr, gh⟩ lp tp ln lc tn tc 33 W)
  unfold dkC failD at HF
  dsimp only at HF
  push_cast at HF
  go_enter Tryz.func114, Tryz.ntmps114
  go_wp2_with (first | (go_at_call 135; (with_reducible refine (HX.out _).mono ?_); rintro e w1 ⟨rfl, hw1⟩; subst w1) | (go_at_call 134; (with_reducible refine (HWd.out _).mono ?_); rintro e w1 ⟨rfl, hw1⟩; subst w1) | (go_at_call 112; (with_reducible refine (HF.out _).mono ?_); rintro e w2 ⟨rfl, hb2⟩; have hz := (hb2.block (w.heap.size + 1) (by simp)).trans (two_new w _ _); have HB2 := hid (below_out (below_twoD w _ _) hb2); have HZ := hid hz; obtain ⟨k0, k1, k2, k3, k4, k5, k6, k7, k8, k9, kz⟩ := cells10 hz; have z0 := kz 0; have z1 := kz 1; have z2 := kz 2; have z3 := kz 3; have z4 := kz 4; have z5 := kz 5; have z6 := kz 6; have z7 := kz 7; have z8 := kz 8; have z9 := kz 9; clear hb2 hz kz))
  refine bodyPost_ret (results_dk rfl _ _ _ 35 _ (0, 0) rfl (put10 HZ.out _ _ _ _ _ _ _ _ _ _) rfl) rfl ?_
  exact ⟨rfl, below10 HB2.out (Nat.le_succ _) _ _ _ _ _ _ _ _ _ _⟩
set_option maxRecDepth 20000 in
set_option maxHeartbeats 8000000 in
theorem size_2 (d : DK) (lp tp : Option Addr) (ln lc tn tc : Nat) (c : UInt8) (w : World) (hs : d.st = 2) (hc : c = 10) (hm : d.most ≤ 1099511627776) (hlm : d.len ≤ d.most) (hz : d.size = 0) : Calls Tryz.prog 114 #[.agg (dkC d (.slice lp ln lc) (.slice tp tn tc)), byteV c] w fun e w' => e = .returned (.agg (dkC { d with st := 6 } (.slice lp ln lc) (.slice tp tn tc))) ∧ Below w.heap.size w w' := by
  have HX := hid (fun W : World => hexd_any c W)
  have HWd := hid (fun W : World => word_any c W)
  unfold byteV at HX HWd
  obtain ⟨D, hD⟩ : ∃ D : Int, (if hexU c = true then (hexN c : Int) else -1) = D := ⟨_, rfl⟩
  rw [hD] at HX
  clear hD
  obtain ⟨V, hV⟩ : ∃ V, valU c = V := ⟨_, rfl⟩
  rw [hV] at HWd
  clear hV
  obtain ⟨most, len, st, e0, digits, size, more, line, bytes, tr, gh⟩ := d
  dsimp only at *
  unfold dkC byteV
  dsimp only
  have hcz : (c.toNat : Int) = 10 := by rw [hc]; rfl
  rw [hcz]
  rw [hcz] at HX HWd
  subst hs
  subst hz
  have hgt : ¬ (most : Int) - (len : Int) < 0 := by omega
  have hw : wrap64 ((most : Int) - (len : Int)) = (most : Int) - (len : Int) := by unfold wrap64; omega
  clear hc
  go_enter Tryz.func114, Tryz.ntmps114
  go_wp2_with (first | (go_at_call 135; (with_reducible refine (HX.out _).mono ?_); rintro e w1 ⟨rfl, hw1⟩; subst w1) | (go_at_call 134; (with_reducible refine (HWd.out _).mono ?_); rintro e w1 ⟨rfl, hw1⟩; subst w1))
  refine bodyPost_ret (results_dk rfl _ _ _ 35 _ (0, 0) rfl (two_new _ _ _) rfl) rfl ?_
  exact ⟨rfl, below_twoD _ _ _⟩
set_option maxRecDepth 20000 in
set_option maxHeartbeats 8000000 in
theorem size_3 (d : DK) (lp tp : Option Addr) (ln lc tn tc : Nat) (c : UInt8) (w : World) (hs : d.st = 2) (hc : c = 10) (hm : d.most ≤ 1099511627776) (hlm : d.len ≤ d.most) (hb : ¬ d.most - d.len < d.size) (hz : d.size ≠ 0) : Calls Tryz.prog 114 #[.agg (dkC d (.slice lp ln lc) (.slice tp tn tc)), byteV c] w fun e w' => e = .returned (.agg (dkC { d with st := 3 } (.slice lp ln lc) (.slice tp tn tc))) ∧ Below w.heap.size w w' := by
  have HX := hid (fun W : World => hexd_any c W)
  have HWd := hid (fun W : World => word_any c W)
  unfold byteV at HX HWd
  obtain ⟨D, hD⟩ : ∃ D : Int, (if hexU c = true then (hexN c : Int) else -1) = D := ⟨_, rfl⟩
  rw [hD] at HX
  clear hD
  obtain ⟨V, hV⟩ : ∃ V, valU c = V := ⟨_, rfl⟩
  rw [hV] at HWd
  clear hV
  obtain ⟨most, len, st, e0, digits, size, more, line, bytes, tr, gh⟩ := d
  dsimp only at *
  unfold dkC byteV
  dsimp only
  have hcz : (c.toNat : Int) = 10 := by rw [hc]; rfl
  rw [hcz]
  rw [hcz] at HX HWd
  subst hs
  have hgt : ¬ (most : Int) - (len : Int) < (size : Int) := by omega
  have hz2 : ((size : Int) == 0) = false := i_ne (b := 0) hz
  have hw : wrap64 ((most : Int) - (len : Int)) = (most : Int) - (len : Int) := by unfold wrap64; omega
  clear hc hb hz
  go_enter Tryz.func114, Tryz.ntmps114
  go_wp2_with (first | (go_at_call 135; (with_reducible refine (HX.out _).mono ?_); rintro e w1 ⟨rfl, hw1⟩; subst w1) | (go_at_call 134; (with_reducible refine (HWd.out _).mono ?_); rintro e w1 ⟨rfl, hw1⟩; subst w1))
  refine bodyPost_ret (results_dk rfl _ _ _ 35 _ (0, 0) rfl (two_new _ _ _) rfl) rfl ?_
  exact ⟨rfl, below_twoD _ _ _⟩
set_option maxRecDepth 20000 in
set_option maxHeartbeats 8000000 in
theorem size_4 (d : DK) (lp tp : Option Addr) (ln lc tn tc : Nat) (c : UInt8) (w : World) (hs : d.st = 2) (hc : c ≠ 10) : Calls Tryz.prog 114 #[.agg (dkC d (.slice lp ln lc) (.slice tp tn tc)), byteV c] w fun e w' => e = .returned (.agg (dkC (failD d 31) (.slice lp ln lc) (.slice tp tn tc))) ∧ Below w.heap.size w w' := by
  have HX := hid (fun W : World => hexd_any c W)
  have HWd := hid (fun W : World => word_any c W)
  unfold byteV at HX HWd
  obtain ⟨D, hD⟩ : ∃ D : Int, (if hexU c = true then (hexN c : Int) else -1) = D := ⟨_, rfl⟩
  rw [hD] at HX
  clear hD
  obtain ⟨V, hV⟩ : ∃ V, valU c = V := ⟨_, rfl⟩
  rw [hV] at HWd
  clear hV
  obtain ⟨most, len, st, e0, digits, size, more, line, bytes, tr, gh⟩ := d
  dsimp only at *
  unfold dkC byteV
  dsimp only
  have f10 : ((c.toNat : Int) == 10) = false := c_ne (toNat_ne hc)
  subst hs
  clear hc
  have HF := hid (fun W : World => fail_any ⟨most, len, 2, e0, digits, size, more, line, bytes, tr, gh⟩ lp tp ln lc tn tc 31 W)
  unfold dkC failD at HF
  dsimp only at HF
  push_cast at HF
  go_enter Tryz.func114, Tryz.ntmps114
  go_wp2_with (first | (go_at_call 135; (with_reducible refine (HX.out _).mono ?_); rintro e w1 ⟨rfl, hw1⟩; subst w1) | (go_at_call 134; (with_reducible refine (HWd.out _).mono ?_); rintro e w1 ⟨rfl, hw1⟩; subst w1) | (go_at_call 112; (with_reducible refine (HF.out _).mono ?_); rintro e w2 ⟨rfl, hb2⟩; have hz := (hb2.block (w.heap.size + 1) (by simp)).trans (two_new w _ _); have HB2 := hid (below_out (below_twoD w _ _) hb2); have HZ := hid hz; obtain ⟨k0, k1, k2, k3, k4, k5, k6, k7, k8, k9, kz⟩ := cells10 hz; have z0 := kz 0; have z1 := kz 1; have z2 := kz 2; have z3 := kz 3; have z4 := kz 4; have z5 := kz 5; have z6 := kz 6; have z7 := kz 7; have z8 := kz 8; have z9 := kz 9; clear hb2 hz kz))
  refine bodyPost_ret (results_dk rfl _ _ _ 35 _ (0, 0) rfl (put10 HZ.out _ _ _ _ _ _ _ _ _ _) rfl) rfl ?_
  exact ⟨rfl, below10 HB2.out (Nat.le_succ _) _ _ _ _ _ _ _ _ _ _⟩
set_option maxRecDepth 20000 in
set_option maxHeartbeats 8000000 in
theorem size_5 (d : DK) (lp tp : Option Addr) (ln lc tn tc : Nat) (c : UInt8) (w : World) (hs : d.st = 0) (hx : hexU c = true) (hn : d.digits < 16) (hz : d.size ≤ 1125899906842624) : Calls Tryz.prog 114 #[.agg (dkC d (.slice lp ln lc) (.slice tp tn tc)), byteV c] w fun e w' => e = .returned (.agg (dkC { d with digits := d.digits + 1, size := min (d.size * 16 + hexN c) 1125899906842624 } (.slice lp ln lc) (.slice tp tn tc))) ∧ Below w.heap.size w w' := by
  have HX := hid (fun W : World => hexd_any c W)
  have HWd := hid (fun W : World => word_any c W)
  unfold byteV at HX HWd
  obtain ⟨D, hD⟩ : ∃ D : Int, (if hexU c = true then (hexN c : Int) else -1) = D := ⟨_, rfl⟩
  rw [hD] at HX
  rw [if_pos hx] at hD
  have hd0 : 0 ≤ D := by omega
  have hd1 : D < 16 := by have := hexN_lt c; omega
  obtain ⟨V, hV⟩ : ∃ V, valU c = V := ⟨_, rfl⟩
  rw [hV] at HWd
  clear hV
  obtain ⟨most, len, st, e0, digits, size, more, line, bytes, tr, gh⟩ := d
  dsimp only at *
  unfold dkC byteV
  dsimp only
  subst hs
  have hn2 : (digits : Int) < 16 := by omega
  obtain ⟨SZ, hSZ⟩ : ∃ SZ : Int, (size : Int) = SZ := ⟨_, rfl⟩
  have hmin : min (SZ * 16 + D) 1125899906842624 = ((min (size * 16 + hexN c) 1125899906842624 : Nat) : Int) := by omega
  obtain ⟨R, hR⟩ : ∃ R : Int, ((min (size * 16 + hexN c) 1125899906842624 : Nat) : Int) = R := ⟨_, rfl⟩
  rw [hR] at hmin ⊢
  rw [hSZ]
  have hs0 : 0 ≤ SZ := by omega
  have hs1 : SZ ≤ 1125899906842624 := by omega
  push_cast
  clear hn hx hSZ hR hD hz
  go_enter Tryz.func114, Tryz.ntmps114
  go_wp2_with (first | (go_at_call 135; (with_reducible refine (HX.out _).mono ?_); rintro e w1 ⟨rfl, hw1⟩; subst w1) | (go_at_call 134; (with_reducible refine (HWd.out _).mono ?_); rintro e w1 ⟨rfl, hw1⟩; subst w1))
  all_goals
    refine bodyPost_ret (results_dk rfl _ _ _ 35 _ (0, 0) rfl (two_new _ _ _) rfl) rfl ?_
    refine ⟨?_, below_twoD _ _ _⟩
    first
      | rfl
      | rw [show R = 1125899906842624 from by omega]
      | rw [show R = SZ * 16 + D from by omega]
set_option maxRecDepth 20000 in
set_option maxHeartbeats 8000000 in
theorem size_6 (d : DK) (lp tp : Option Addr) (ln lc tn tc : Nat) (c : UInt8) (w : World) (hs : d.st = 0) (hx : hexU c = false) (hn : d.digits = 0) : Calls Tryz.prog 114 #[.agg (dkC d (.slice lp ln lc) (.slice tp tn tc)), byteV c] w fun e w' => e = .returned (.agg (dkC (failD d 31) (.slice lp ln lc) (.slice tp tn tc))) ∧ Below w.heap.size w w' := by
  have HX := hid (fun W : World => hexd_any c W)
  have HWd := hid (fun W : World => word_any c W)
  unfold byteV at HX HWd
  obtain ⟨D, hD⟩ : ∃ D : Int, (if hexU c = true then (hexN c : Int) else -1) = D := ⟨_, rfl⟩
  rw [hD] at HX
  rw [if_neg (by rw [hx]; decide)] at hD
  subst hD
  obtain ⟨V, hV⟩ : ∃ V, valU c = V := ⟨_, rfl⟩
  rw [hV] at HWd
  clear hV
  obtain ⟨most, len, st, e0, digits, size, more, line, bytes, tr, gh⟩ := d
  dsimp only at *
  unfold dkC byteV
  dsimp only
  subst hs
  subst hn
  clear hx
  have HF := hid (fun W : World => fail_any ⟨most, len, 0, e0, 0, size, more, line, bytes, tr, gh⟩ lp tp ln lc tn tc 31 W)
  unfold dkC failD at HF
  dsimp only at HF
  push_cast at HF
  go_enter Tryz.func114, Tryz.ntmps114
  go_wp2_with (first | (go_at_call 135; (with_reducible refine (HX.out _).mono ?_); rintro e w1 ⟨rfl, hw1⟩; subst w1) | (go_at_call 134; (with_reducible refine (HWd.out _).mono ?_); rintro e w1 ⟨rfl, hw1⟩; subst w1) | (go_at_call 112; (with_reducible refine (HF.out _).mono ?_); rintro e w2 ⟨rfl, hb2⟩; have hz := (hb2.block (w.heap.size + 1) (by simp)).trans (two_new w _ _); have HB2 := hid (below_out (below_twoD w _ _) hb2); have HZ := hid hz; obtain ⟨k0, k1, k2, k3, k4, k5, k6, k7, k8, k9, kz⟩ := cells10 hz; have z0 := kz 0; have z1 := kz 1; have z2 := kz 2; have z3 := kz 3; have z4 := kz 4; have z5 := kz 5; have z6 := kz 6; have z7 := kz 7; have z8 := kz 8; have z9 := kz 9; clear hb2 hz kz))
  refine bodyPost_ret (results_dk rfl _ _ _ 35 _ (0, 0) rfl (put10 HZ.out _ _ _ _ _ _ _ _ _ _) rfl) rfl ?_
  exact ⟨rfl, below10 HB2.out (Nat.le_succ _) _ _ _ _ _ _ _ _ _ _⟩
set_option maxRecDepth 20000 in
set_option maxHeartbeats 8000000 in
theorem size_7 (d : DK) (lp tp : Option Addr) (ln lc tn tc : Nat) (c : UInt8) (w : World) (hs : d.st = 0) (hc : c = 13) (hn : d.digits ≠ 0) : Calls Tryz.prog 114 #[.agg (dkC d (.slice lp ln lc) (.slice tp tn tc)), byteV c] w fun e w' => e = .returned (.agg (dkC { d with st := 2 } (.slice lp ln lc) (.slice tp tn tc))) ∧ Below w.heap.size w w' := by
  have HX := hid (fun W : World => hexd_any c W)
  have HWd := hid (fun W : World => word_any c W)
  unfold byteV at HX HWd
  obtain ⟨D, hD⟩ : ∃ D : Int, (if hexU c = true then (hexN c : Int) else -1) = D := ⟨_, rfl⟩
  rw [hD] at HX
  rw [if_neg (by rw [hc]; decide)] at hD
  subst hD
  obtain ⟨V, hV⟩ : ∃ V, valU c = V := ⟨_, rfl⟩
  rw [hV] at HWd
  clear hV
  obtain ⟨most, len, st, e0, digits, size, more, line, bytes, tr, gh⟩ := d
  dsimp only at *
  unfold dkC byteV
  dsimp only
  have hcz : (c.toNat : Int) = 13 := by rw [hc]; rfl
  rw [hcz]
  rw [hcz] at HX HWd
  subst hs
  have hdg : ((digits : Int) == 0) = false := i_ne (b := 0) (by omega)
  clear hc hn
  go_enter Tryz.func114, Tryz.ntmps114
  go_wp2_with (first | (go_at_call 135; (with_reducible refine (HX.out _).mono ?_); rintro e w1 ⟨rfl, hw1⟩; subst w1) | (go_at_call 134; (with_reducible refine (HWd.out _).mono ?_); rintro e w1 ⟨rfl, hw1⟩; subst w1))
  refine bodyPost_ret (results_dk rfl _ _ _ 35 _ (0, 0) rfl (two_new _ _ _) rfl) rfl ?_
  exact ⟨rfl, below_twoD _ _ _⟩
set_option maxRecDepth 20000 in
set_option maxHeartbeats 8000000 in
theorem size_8 (d : DK) (lp tp : Option Addr) (ln lc tn tc : Nat) (c : UInt8) (w : World) (hs : d.st = 1) (hc : c = 13) (hn : d.digits ≠ 0) : Calls Tryz.prog 114 #[.agg (dkC d (.slice lp ln lc) (.slice tp tn tc)), byteV c] w fun e w' => e = .returned (.agg (dkC { d with st := 2 } (.slice lp ln lc) (.slice tp tn tc))) ∧ Below w.heap.size w w' := by
  have HX := hid (fun W : World => hexd_any c W)
  have HWd := hid (fun W : World => word_any c W)
  unfold byteV at HX HWd
  obtain ⟨D, hD⟩ : ∃ D : Int, (if hexU c = true then (hexN c : Int) else -1) = D := ⟨_, rfl⟩
  rw [hD] at HX
  clear hD
  obtain ⟨V, hV⟩ : ∃ V, valU c = V := ⟨_, rfl⟩
  rw [hV] at HWd
  clear hV
  obtain ⟨most, len, st, e0, digits, size, more, line, bytes, tr, gh⟩ := d
  dsimp only at *
  unfold dkC byteV
  dsimp only
  have hcz : (c.toNat : Int) = 13 := by rw [hc]; rfl
  rw [hcz]
  rw [hcz] at HX HWd
  subst hs
  have hdg : ((digits : Int) == 0) = false := i_ne (b := 0) (by omega)
  clear hc hn
  go_enter Tryz.func114, Tryz.ntmps114
  go_wp2_with (first | (go_at_call 135; (with_reducible refine (HX.out _).mono ?_); rintro e w1 ⟨rfl, hw1⟩; subst w1) | (go_at_call 134; (with_reducible refine (HWd.out _).mono ?_); rintro e w1 ⟨rfl, hw1⟩; subst w1))
  refine bodyPost_ret (results_dk rfl _ _ _ 35 _ (0, 0) rfl (two_new _ _ _) rfl) rfl ?_
  exact ⟨rfl, below_twoD _ _ _⟩
set_option maxRecDepth 20000 in
set_option maxHeartbeats 8000000 in
theorem size_9a (d : DK) (lp tp : Option Addr) (ln lc tn tc : Nat) (c : UInt8) (w : World) (hs : d.st = 0) (hc : c = 59) (hn : d.digits ≠ 0) (hm : d.more = 0) : Calls Tryz.prog 114 #[.agg (dkC d (.slice lp ln lc) (.slice tp tn tc)), byteV c] w fun e w' => e = .returned (.agg (dkC { d with st := 1, more := d.more + 1 } (.slice lp ln lc) (.slice tp tn tc))) ∧ Below w.heap.size w w' := by
  have HX := hid (fun W : World => hexd_any c W)
  have HWd := hid (fun W : World => word_any c W)
  unfold byteV at HX HWd
  obtain ⟨D, hD⟩ : ∃ D : Int, (if hexU c = true then (hexN c : Int) else -1) = D := ⟨_, rfl⟩
  rw [hD] at HX
  rw [if_neg (by rw [hc]; decide)] at hD
  subst hD
  obtain ⟨V, hV⟩ : ∃ V, valU c = V := ⟨_, rfl⟩
  rw [hV] at HWd
  clear hV
  obtain ⟨most, len, st, e0, digits, size, more, line, bytes, tr, gh⟩ := d
  dsimp only at *
  unfold dkC byteV
  dsimp only
  have hcz : (c.toNat : Int) = 59 := by rw [hc]; rfl
  rw [hcz]
  rw [hcz] at HX HWd
  subst hs
  subst hm
  have hdg : ((digits : Int) == 0) = false := i_ne (b := 0) (by omega)
  clear hc hn
  go_enter Tryz.func114, Tryz.ntmps114
  go_wp2_with (first | (go_at_call 135; (with_reducible refine (HX.out _).mono ?_); rintro e w1 ⟨rfl, hw1⟩; subst w1) | (go_at_call 134; (with_reducible refine (HWd.out _).mono ?_); rintro e w1 ⟨rfl, hw1⟩; subst w1))
  refine bodyPost_ret (results_dk rfl _ _ _ 35 _ (0, 0) rfl (two_new _ _ _) rfl) rfl ?_
  exact ⟨rfl, below_twoD _ _ _⟩
set_option maxRecDepth 20000 in
set_option maxHeartbeats 8000000 in
theorem size_9b (d : DK) (lp tp : Option Addr) (ln lc tn tc : Nat) (c : UInt8) (w : World) (hs : d.st = 0) (hc : c = 32) (hn : d.digits ≠ 0) (hm : d.more = 0) : Calls Tryz.prog 114 #[.agg (dkC d (.slice lp ln lc) (.slice tp tn tc)), byteV c] w fun e w' => e = .returned (.agg (dkC { d with st := 1, more := d.more + 1 } (.slice lp ln lc) (.slice tp tn tc))) ∧ Below w.heap.size w w' := by
  have HX := hid (fun W : World => hexd_any c W)
  have HWd := hid (fun W : World => word_any c W)
  unfold byteV at HX HWd
  obtain ⟨D, hD⟩ : ∃ D : Int, (if hexU c = true then (hexN c : Int) else -1) = D := ⟨_, rfl⟩
  rw [hD] at HX
  rw [if_neg (by rw [hc]; decide)] at hD
  subst hD
  obtain ⟨V, hV⟩ : ∃ V, valU c = V := ⟨_, rfl⟩
  rw [hV] at HWd
  clear hV
  obtain ⟨most, len, st, e0, digits, size, more, line, bytes, tr, gh⟩ := d
  dsimp only at *
  unfold dkC byteV
  dsimp only
  have hcz : (c.toNat : Int) = 32 := by rw [hc]; rfl
  rw [hcz]
  rw [hcz] at HX HWd
  subst hs
  subst hm
  have hdg : ((digits : Int) == 0) = false := i_ne (b := 0) (by omega)
  clear hc hn
  go_enter Tryz.func114, Tryz.ntmps114
  go_wp2_with (first | (go_at_call 135; (with_reducible refine (HX.out _).mono ?_); rintro e w1 ⟨rfl, hw1⟩; subst w1) | (go_at_call 134; (with_reducible refine (HWd.out _).mono ?_); rintro e w1 ⟨rfl, hw1⟩; subst w1))
  refine bodyPost_ret (results_dk rfl _ _ _ 35 _ (0, 0) rfl (two_new _ _ _) rfl) rfl ?_
  exact ⟨rfl, below_twoD _ _ _⟩
set_option maxRecDepth 20000 in
set_option maxHeartbeats 8000000 in
theorem size_9c (d : DK) (lp tp : Option Addr) (ln lc tn tc : Nat) (c : UInt8) (w : World) (hs : d.st = 0) (hc : c = 9) (hn : d.digits ≠ 0) (hm : d.more = 0) : Calls Tryz.prog 114 #[.agg (dkC d (.slice lp ln lc) (.slice tp tn tc)), byteV c] w fun e w' => e = .returned (.agg (dkC { d with st := 1, more := d.more + 1 } (.slice lp ln lc) (.slice tp tn tc))) ∧ Below w.heap.size w w' := by
  have HX := hid (fun W : World => hexd_any c W)
  have HWd := hid (fun W : World => word_any c W)
  unfold byteV at HX HWd
  obtain ⟨D, hD⟩ : ∃ D : Int, (if hexU c = true then (hexN c : Int) else -1) = D := ⟨_, rfl⟩
  rw [hD] at HX
  rw [if_neg (by rw [hc]; decide)] at hD
  subst hD
  obtain ⟨V, hV⟩ : ∃ V, valU c = V := ⟨_, rfl⟩
  rw [hV] at HWd
  clear hV
  obtain ⟨most, len, st, e0, digits, size, more, line, bytes, tr, gh⟩ := d
  dsimp only at *
  unfold dkC byteV
  dsimp only
  have hcz : (c.toNat : Int) = 9 := by rw [hc]; rfl
  rw [hcz]
  rw [hcz] at HX HWd
  subst hs
  subst hm
  have hdg : ((digits : Int) == 0) = false := i_ne (b := 0) (by omega)
  clear hc hn
  go_enter Tryz.func114, Tryz.ntmps114
  go_wp2_with (first | (go_at_call 135; (with_reducible refine (HX.out _).mono ?_); rintro e w1 ⟨rfl, hw1⟩; subst w1) | (go_at_call 134; (with_reducible refine (HWd.out _).mono ?_); rintro e w1 ⟨rfl, hw1⟩; subst w1))
  refine bodyPost_ret (results_dk rfl _ _ _ 35 _ (0, 0) rfl (two_new _ _ _) rfl) rfl ?_
  exact ⟨rfl, below_twoD _ _ _⟩
set_option maxRecDepth 20000 in
set_option maxHeartbeats 8000000 in
theorem size_10 (d : DK) (lp tp : Option Addr) (ln lc tn tc : Nat) (c : UInt8) (w : World) (hs : d.st = 1) (hc : c ≠ 13) (hv : valU c = true) (hn : d.digits ≠ 0) (hm : d.more < 256) : Calls Tryz.prog 114 #[.agg (dkC d (.slice lp ln lc) (.slice tp tn tc)), byteV c] w fun e w' => e = .returned (.agg (dkC { d with st := 1, more := d.more + 1 } (.slice lp ln lc) (.slice tp tn tc))) ∧ Below w.heap.size w w' := by
  have HX := hid (fun W : World => hexd_any c W)
  have HWd := hid (fun W : World => word_any c W)
  unfold byteV at HX HWd
  obtain ⟨D, hD⟩ : ∃ D : Int, (if hexU c = true then (hexN c : Int) else -1) = D := ⟨_, rfl⟩
  rw [hD] at HX
  clear hD
  rw [hv] at HWd
  obtain ⟨most, len, st, e0, digits, size, more, line, bytes, tr, gh⟩ := d
  dsimp only at *
  unfold dkC byteV
  dsimp only
  have f13 : ((c.toNat : Int) == 13) = false := c_ne (toNat_ne hc)
  subst hs
  have hdg : ((digits : Int) == 0) = false := i_ne (b := 0) (by omega)
  have hm2 : ¬ (256 : Int) < (more : Int) + 1 := by omega
  push_cast
  clear hc hn hv
  go_enter Tryz.func114, Tryz.ntmps114
  go_wp2_with (first | (go_at_call 135; (with_reducible refine (HX.out _).mono ?_); rintro e w1 ⟨rfl, hw1⟩; subst w1) | (go_at_call 134; (with_reducible refine (HWd.out _).mono ?_); rintro e w1 ⟨rfl, hw1⟩; subst w1))
  refine bodyPost_ret (results_dk rfl _ _ _ 35 _ (0, 0) rfl (two_new _ _ _) rfl) rfl ?_
  exact ⟨rfl, below_twoD _ _ _⟩
set_option maxRecDepth 20000 in
set_option maxHeartbeats 8000000 in
theorem size_11 (d : DK) (lp tp : Option Addr) (ln lc tn tc : Nat) (c : UInt8) (w : World) (hs : d.st = 1) (hc : c ≠ 13) (hv : valU c = true) (hn : d.digits ≠ 0) (hm : d.more = 256) : Calls Tryz.prog 114 #[.agg (dkC d (.slice lp ln lc) (.slice tp tn tc)), byteV c] w fun e w' => e = .returned (.agg (dkC (failD { d with st := 1, more := d.more + 1 } 31) (.slice lp ln lc) (.slice tp tn tc))) ∧ Below w.heap.size w w' := by
  have HX := hid (fun W : World => hexd_any c W)
  have HWd := hid (fun W : World => word_any c W)
  unfold byteV at HX HWd
  obtain ⟨D, hD⟩ : ∃ D : Int, (if hexU c = true then (hexN c : Int) else -1) = D := ⟨_, rfl⟩
  rw [hD] at HX
  clear hD
  rw [hv] at HWd
  obtain ⟨most, len, st, e0, digits, size, more, line, bytes, tr, gh⟩ := d
  dsimp only at *
  unfold dkC byteV
  dsimp only
  have f13 : ((c.toNat : Int) == 13) = false := c_ne (toNat_ne hc)
  subst hs
  subst hm
  have hdg : ((digits : Int) == 0) = false := i_ne (b := 0) (by omega)
  clear hc hn hv
  have HF := hid (fun W : World => fail_any ⟨most, len, 1, e0, digits, size, 257, line, bytes, tr, gh⟩ lp tp ln lc tn tc 31 W)
  unfold dkC failD at HF
  dsimp only at HF
  push_cast at HF
  go_enter Tryz.func114, Tryz.ntmps114
  go_wp2_with (first | (go_at_call 135; (with_reducible refine (HX.out _).mono ?_); rintro e w1 ⟨rfl, hw1⟩; subst w1) | (go_at_call 134; (with_reducible refine (HWd.out _).mono ?_); rintro e w1 ⟨rfl, hw1⟩; subst w1) | (go_at_call 112; (with_reducible refine (HF.out _).mono ?_); rintro e w2 ⟨rfl, hb2⟩; have hz := (hb2.block (w.heap.size + 1) (by simp)).trans (two_new w _ _); have HB2 := hid (below_out (below_twoD w _ _) hb2); have HZ := hid hz; obtain ⟨k0, k1, k2, k3, k4, k5, k6, k7, k8, k9, kz⟩ := cells10 hz; have z0 := kz 0; have z1 := kz 1; have z2 := kz 2; have z3 := kz 3; have z4 := kz 4; have z5 := kz 5; have z6 := kz 6; have z7 := kz 7; have z8 := kz 8; have z9 := kz 9; clear hb2 hz kz))
  refine bodyPost_ret (results_dk rfl _ _ _ 35 _ (0, 0) rfl (put10 HZ.out _ _ _ _ _ _ _ _ _ _) rfl) rfl ?_
  exact ⟨rfl, below10 HB2.out (Nat.le_succ _) _ _ _ _ _ _ _ _ _ _⟩
set_option maxRecDepth 20000 in
set_option maxHeartbeats 8000000 in
theorem size_12 (d : DK) (lp tp : Option Addr) (ln lc tn tc : Nat) (c : UInt8) (w : World) (hs : d.st = 1) (hc : c ≠ 13) (hv : valU c = false) (hn : d.digits ≠ 0) : Calls Tryz.prog 114 #[.agg (dkC d (.slice lp ln lc) (.slice tp tn tc)), byteV c] w fun e w' => e = .returned (.agg (dkC (failD d 31) (.slice lp ln lc) (.slice tp tn tc))) ∧ Below w.heap.size w w' := by
  have HX := hid (fun W : World => hexd_any c W)
  have HWd := hid (fun W : World => word_any c W)
  unfold byteV at HX HWd
  obtain ⟨D, hD⟩ : ∃ D : Int, (if hexU c = true then (hexN c : Int) else -1) = D := ⟨_, rfl⟩
  rw [hD] at HX
  clear hD
  rw [hv] at HWd
  obtain ⟨most, len, st, e0, digits, size, more, line, bytes, tr, gh⟩ := d
  dsimp only at *
  unfold dkC byteV
  dsimp only
  have f13 : ((c.toNat : Int) == 13) = false := c_ne (toNat_ne hc)
  subst hs
  have hdg : ((digits : Int) == 0) = false := i_ne (b := 0) (by omega)
  clear hc hn hv
  have HF := hid (fun W : World => fail_any ⟨most, len, 1, e0, digits, size, more, line, bytes, tr, gh⟩ lp tp ln lc tn tc 31 W)
  unfold dkC failD at HF
  dsimp only at HF
  push_cast at HF
  go_enter Tryz.func114, Tryz.ntmps114
  go_wp2_with (first | (go_at_call 135; (with_reducible refine (HX.out _).mono ?_); rintro e w1 ⟨rfl, hw1⟩; subst w1) | (go_at_call 134; (with_reducible refine (HWd.out _).mono ?_); rintro e w1 ⟨rfl, hw1⟩; subst w1) | (go_at_call 112; (with_reducible refine (HF.out _).mono ?_); rintro e w2 ⟨rfl, hb2⟩; have hz := (hb2.block (w.heap.size + 1) (by simp)).trans (two_new w _ _); have HB2 := hid (below_out (below_twoD w _ _) hb2); have HZ := hid hz; obtain ⟨k0, k1, k2, k3, k4, k5, k6, k7, k8, k9, kz⟩ := cells10 hz; have z0 := kz 0; have z1 := kz 1; have z2 := kz 2; have z3 := kz 3; have z4 := kz 4; have z5 := kz 5; have z6 := kz 6; have z7 := kz 7; have z8 := kz 8; have z9 := kz 9; clear hb2 hz kz))
  refine bodyPost_ret (results_dk rfl _ _ _ 35 _ (0, 0) rfl (put10 HZ.out _ _ _ _ _ _ _ _ _ _) rfl) rfl ?_
  exact ⟨rfl, below10 HB2.out (Nat.le_succ _) _ _ _ _ _ _ _ _ _ _⟩
set_option maxRecDepth 20000 in
set_option maxHeartbeats 8000000 in
theorem size_13 (d : DK) (lp tp : Option Addr) (ln lc tn tc : Nat) (c : UInt8) (w : World) (hs : d.st = 0) (hx : hexU c = false) (hc : c ≠ 13) (h1 : c ≠ 59) (h2 : c ≠ 32) (h3 : c ≠ 9) (hn : d.digits ≠ 0) : Calls Tryz.prog 114 #[.agg (dkC d (.slice lp ln lc) (.slice tp tn tc)), byteV c] w fun e w' => e = .returned (.agg (dkC (failD d 31) (.slice lp ln lc) (.slice tp tn tc))) ∧ Below w.heap.size w w' := by
  have HX := hid (fun W : World => hexd_any c W)
  have HWd := hid (fun W : World => word_any c W)
  unfold byteV at HX HWd
  obtain ⟨D, hD⟩ : ∃ D : Int, (if hexU c = true then (hexN c : Int) else -1) = D := ⟨_, rfl⟩
  rw [hD] at HX
  rw [if_neg (by rw [hx]; decide)] at hD
  subst hD
  obtain ⟨V, hV⟩ : ∃ V, valU c = V := ⟨_, rfl⟩
  rw [hV] at HWd
  clear hV
  obtain ⟨most, len, st, e0, digits, size, more, line, bytes, tr, gh⟩ := d
  dsimp only at *
  unfold dkC byteV
  dsimp only
  have f13 : ((c.toNat : Int) == 13) = false := c_ne (toNat_ne hc)
  have f59 : ((c.toNat : Int) == 59) = false := c_ne (toNat_ne h1)
  have f32 : ((c.toNat : Int) == 32) = false := c_ne (toNat_ne h2)
  have f9 : ((c.toNat : Int) == 9) = false := c_ne (toNat_ne h3)
  subst hs
  have hdg : ((digits : Int) == 0) = false := i_ne (b := 0) (by omega)
  clear hc hn hx h1 h2 h3
  have HF := hid (fun W : World => fail_any ⟨most, len, 0, e0, digits, size, more, line, bytes, tr, gh⟩ lp tp ln lc tn tc 31 W)
  unfold dkC failD at HF
  dsimp only at HF
  push_cast at HF
  go_enter Tryz.func114, Tryz.ntmps114
  go_wp2_with (first | (go_at_call 135; (with_reducible refine (HX.out _).mono ?_); rintro e w1 ⟨rfl, hw1⟩; subst w1) | (go_at_call 134; (with_reducible refine (HWd.out _).mono ?_); rintro e w1 ⟨rfl, hw1⟩; subst w1) | (go_at_call 112; (with_reducible refine (HF.out _).mono ?_); rintro e w2 ⟨rfl, hb2⟩; have hz := (hb2.block (w.heap.size + 1) (by simp)).trans (two_new w _ _); have HB2 := hid (below_out (below_twoD w _ _) hb2); have HZ := hid hz; obtain ⟨k0, k1, k2, k3, k4, k5, k6, k7, k8, k9, kz⟩ := cells10 hz; have z0 := kz 0; have z1 := kz 1; have z2 := kz 2; have z3 := kz 3; have z4 := kz 4; have z5 := kz 5; have z6 := kz 6; have z7 := kz 7; have z8 := kz 8; have z9 := kz 9; clear hb2 hz kz))
  refine bodyPost_ret (results_dk rfl _ _ _ 35 _ (0, 0) rfl (put10 HZ.out _ _ _ _ _ _ _ _ _ _) rfl) rfl ?_
  exact ⟨rfl, below10 HB2.out (Nat.le_succ _) _ _ _ _ _ _ _ _ _ _⟩
set_option maxRecDepth 20000 in
set_option maxHeartbeats 8000000 in
theorem size_14 (d : DK) (lp tp : Option Addr) (ln lc tn tc : Nat) (c : UInt8) (w : World) (hs : d.st = 0) (hx : hexU c = true) (hc : c ≠ 13) (h1 : c ≠ 59) (h2 : c ≠ 32) (h3 : c ≠ 9) (hn : ¬ d.digits < 16) : Calls Tryz.prog 114 #[.agg (dkC d (.slice lp ln lc) (.slice tp tn tc)), byteV c] w fun e w' => e = .returned (.agg (dkC (failD d 31) (.slice lp ln lc) (.slice tp tn tc))) ∧ Below w.heap.size w w' := by
  have HX := hid (fun W : World => hexd_any c W)
  have HWd := hid (fun W : World => word_any c W)
  unfold byteV at HX HWd
  obtain ⟨D, hD⟩ : ∃ D : Int, (if hexU c = true then (hexN c : Int) else -1) = D := ⟨_, rfl⟩
  rw [hD] at HX
  rw [if_pos hx] at hD
  have hd0 : 0 ≤ D := by omega
  have hd1 : D < 16 := by have := hexN_lt c; omega
  obtain ⟨V, hV⟩ : ∃ V, valU c = V := ⟨_, rfl⟩
  rw [hV] at HWd
  clear hV
  obtain ⟨most, len, st, e0, digits, size, more, line, bytes, tr, gh⟩ := d
  dsimp only at *
  unfold dkC byteV
  dsimp only
  have f13 : ((c.toNat : Int) == 13) = false := c_ne (toNat_ne hc)
  have f59 : ((c.toNat : Int) == 59) = false := c_ne (toNat_ne h1)
  have f32 : ((c.toNat : Int) == 32) = false := c_ne (toNat_ne h2)
  have f9 : ((c.toNat : Int) == 9) = false := c_ne (toNat_ne h3)
  subst hs
  have hn2 : ¬ (digits : Int) < 16 := by omega
  have hdg : ((digits : Int) == 0) = false := i_ne (b := 0) (by omega)
  clear hc hn hx h1 h2 h3 hD
  have HF := hid (fun W : World => fail_any ⟨most, len, 0, e0, digits, size, more, line, bytes, tr, gh⟩ lp tp ln lc tn tc 31 W)
  unfold dkC failD at HF
  dsimp only at HF
  push_cast at HF
  go_enter Tryz.func114, Tryz.ntmps114
  go_wp2_with (first | (go_at_call 135; (with_reducible refine (HX.out _).mono ?_); rintro e w1 ⟨rfl, hw1⟩; subst w1) | (go_at_call 134; (with_reducible refine (HWd.out _).mono ?_); rintro e w1 ⟨rfl, hw1⟩; subst w1) | (go_at_call 112; (with_reducible refine (HF.out _).mono ?_); rintro e w2 ⟨rfl, hb2⟩; have hz := (hb2.block (w.heap.size + 1) (by simp)).trans (two_new w _ _); have HB2 := hid (below_out (below_twoD w _ _) hb2); have HZ := hid hz; obtain ⟨k0, k1, k2, k3, k4, k5, k6, k7, k8, k9, kz⟩ := cells10 hz; have z0 := kz 0; have z1 := kz 1; have z2 := kz 2; have z3 := kz 3; have z4 := kz 4; have z5 := kz 5; have z6 := kz 6; have z7 := kz 7; have z8 := kz 8; have z9 := kz 9; clear hb2 hz kz))
  refine bodyPost_ret (results_dk rfl _ _ _ 35 _ (0, 0) rfl (put10 HZ.out _ _ _ _ _ _ _ _ _ _) rfl) rfl ?_
  exact ⟨rfl, below10 HB2.out (Nat.le_succ _) _ _ _ _ _ _ _ _ _ _⟩
/-- What a size's reader must be. -/
structure OkS (d : DK) : Prop where
  st : d.st = 0 ∨ d.st = 1 ∨ d.st = 2
  most : d.most ≤ 1099511627776
  len : d.len ≤ d.most
  size : d.size ≤ 1125899906842624
  d1 : d.st = 1 → d.digits ≠ 0
  m0 : d.st = 0 → d.more = 0
  m1 : d.more ≤ 256
theorem size_any (d : DK) (lp tp : Option Addr) (ln lc tn tc : Nat) (c : UInt8) (w : World) (h : OkS d) : Calls Tryz.prog 114 #[.agg (dkC d (.slice lp ln lc) (.slice tp tn tc)), byteV c] w fun e w' => e = .returned (.agg (dkC (sizeD d c) (.slice lp ln lc) (.slice tp tn tc))) ∧ Below w.heap.size w w' := by
  obtain ⟨h1, h2, h3, h4, h5, h6, h7⟩ := h
  rcases h1 with e | e | e
  · have g1 : ¬ (d.st = 2 ∧ c = 10) := by omega
    have g2 : ¬ d.st = 2 := by omega
    by_cases hx : hexU c = true
    · by_cases hn : d.digits < 16
      · rw [show sizeD d c = _ from by unfold sizeD; rw [if_neg g1, if_neg g2, if_pos ⟨e, hx, hn⟩]]
        exact size_5 d lp tp ln lc tn tc c w e hx hn h4
      · obtain ⟨n1, n2, n3, n4⟩ := hex_not hx
        rw [show sizeD d c = _ from by unfold sizeD; rw [if_neg g1, if_neg g2, if_neg (fun h => hn h.2.2), if_neg (by omega), if_neg n1, if_neg (fun h => by rcases h with h | h; (rcases h.2 with h | h | h; exact n2 h; exact n3 h; exact n4 h); omega)]]
        exact size_14 d lp tp ln lc tn tc c w e hx n1 n2 n3 n4 hn
    · have g3 : ¬ (d.st = 0 ∧ hexU c = true ∧ d.digits < 16) := fun h => hx h.2.1
      have hx' : hexU c = false := by simpa using hx
      by_cases hn : d.digits = 0
      · rw [show sizeD d c = _ from by unfold sizeD; rw [if_neg g1, if_neg g2, if_neg g3, if_pos hn]]
        exact size_6 d lp tp ln lc tn tc c w e hx' hn
      · by_cases h13 : c = 13
        · rw [show sizeD d c = _ from by unfold sizeD; rw [if_neg g1, if_neg g2, if_neg g3, if_neg hn, if_pos h13]]
          exact size_7 d lp tp ln lc tn tc c w e h13 hn
        · by_cases hs : c = 59 ∨ c = 32 ∨ c = 9
          · rw [show sizeD d c = _ from by unfold sizeD; rw [if_neg g1, if_neg g2, if_neg g3, if_neg hn, if_neg h13, if_pos (.inl ⟨e, hs⟩), if_neg (by have := h6 e; omega)]]
            rcases hs with hs | hs | hs
            · exact size_9a d lp tp ln lc tn tc c w e hs hn (h6 e)
            · exact size_9b d lp tp ln lc tn tc c w e hs hn (h6 e)
            · exact size_9c d lp tp ln lc tn tc c w e hs hn (h6 e)
          · rw [show sizeD d c = _ from by unfold sizeD; rw [if_neg g1, if_neg g2, if_neg g3, if_neg hn, if_neg h13, if_neg (fun h => by rcases h with h | h; exact hs h.2; omega)]]
            exact size_13 d lp tp ln lc tn tc c w e hx' h13 (fun h => hs (.inl h)) (fun h => hs (.inr (.inl h))) (fun h => hs (.inr (.inr h))) hn
  · have g1 : ¬ (d.st = 2 ∧ c = 10) := by omega
    have g2 : ¬ d.st = 2 := by omega
    have g3 : ¬ (d.st = 0 ∧ hexU c = true ∧ d.digits < 16) := fun h => by omega
    have hn := h5 e
    by_cases h13 : c = 13
    · rw [show sizeD d c = _ from by unfold sizeD; rw [if_neg g1, if_neg g2, if_neg g3, if_neg hn, if_pos h13]]
      exact size_8 d lp tp ln lc tn tc c w e h13 hn
    · by_cases hv : valU c = true
      · have g5 : (d.st = 0 ∧ (c = 59 ∨ c = 32 ∨ c = 9)) ∨ (d.st = 1 ∧ valU c = true) := .inr ⟨e, hv⟩
        by_cases h256 : d.more < 256
        · rw [show sizeD d c = _ from by unfold sizeD; rw [if_neg g1, if_neg g2, if_neg g3, if_neg hn, if_neg h13, if_pos g5, if_neg (by omega)]]
          exact size_10 d lp tp ln lc tn tc c w e h13 hv hn h256
        · rw [show sizeD d c = _ from by unfold sizeD; rw [if_neg g1, if_neg g2, if_neg g3, if_neg hn, if_neg h13, if_pos g5, if_pos (by omega)]]
          exact size_11 d lp tp ln lc tn tc c w e h13 hv hn (by omega)
      · rw [show sizeD d c = _ from by unfold sizeD; rw [if_neg g1, if_neg g2, if_neg g3, if_neg hn, if_neg h13, if_neg (fun h => by rcases h with h | h; omega; exact hv h.2)]]
        exact size_12 d lp tp ln lc tn tc c w e h13 (by simpa using hv) hn
  · by_cases h10 : c = 10
    · by_cases hb : d.most - d.len < d.size
      · rw [show sizeD d c = _ from by unfold sizeD; rw [if_pos ⟨e, h10⟩, if_pos hb]]
        exact size_1 d lp tp ln lc tn tc c w e h10 h2 h3 hb
      · rw [show sizeD d c = _ from by unfold sizeD; rw [if_pos ⟨e, h10⟩, if_neg hb]]
        by_cases hz : d.size = 0
        · simp only [if_pos hz]
          exact size_2 d lp tp ln lc tn tc c w e h10 h2 h3 hz
        · simp only [if_neg hz]
          exact size_3 d lp tp ln lc tn tc c w e h10 h2 h3 hb hz
    · rw [show sizeD d c = _ from by unfold sizeD; rw [if_neg (fun h => h10 h.2), if_pos e]]
      exact size_4 d lp tp ln lc tn tc c w e h10
end Go.Proofs.YtnlmjlfoeodleaaGreatDoor
