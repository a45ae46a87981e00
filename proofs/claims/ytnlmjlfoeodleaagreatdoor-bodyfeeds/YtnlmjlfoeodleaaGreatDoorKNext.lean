/- The program's reader of chunked bodies: a byte of a size, of an extension, of a size line's end. -/
import Derived.Test.YtnlmjlfoeodleaaGreatDoorKFns
import Derived.Laws.BitsLemmas
namespace Go.Proofs.YtnlmjlfoeodleaaGreatDoor
open Go.RowKit

theorem wraps_u64 (n : Int) (h0 : 0 ≤ n) (h1 : n < 2 ^ 64) : IntKind.u64.wrap n = n := by rw [IntKind.wrap_u64]; omega
theorem or4 (L D : Int) (h0 : 0 ≤ L) (h1 : L * 16 + 15 < 18446744073709551616) (d0 : 0 ≤ D) (d1 : D < 16) : bits .or .u64 (IntKind.u64.wrap (L * 16)) D = L * 16 + D := by
  have e : IntKind.u64.wrap (L * 16) = L * 16 := wraps_u64 _ (by omega) (by omega)
  rw [e]
  exact bits_join .u64 64 (by decide) wraps_u64 4 _ D (by omega) (by omega) (by omega) d0 (by omega) (by omega)
theorem hexN_cast (c : UInt8) : hexV (c.toNat : Int) = (hexN c : Int) := by
  unfold hexN
  have := c.toNat_lt
  rw [Int.toNat_of_nonneg (by unfold hexV; (repeat' split) <;> omega)]
theorem hexc_any (c : UInt8) (w : World) : Calls Tryz.prog 160 #[byteV c] w fun e w' => e = .returned (.tuple #[.int .i64 (hexN c : Int), .bool (hexU c)]) ∧ w' = w := by
  have hl := c.toNat_lt
  have := hex_any (c.toNat : Int) w (by omega) (by omega)
  rw [hexN_cast] at this
  exact this
theorem valc_any (c : UInt8) (w : World) : Calls Tryz.prog 101 #[byteV c] w fun e w' => e = .returned (.bool (valU c)) ∧ w' = w := by
  have hl := c.toNat_lt
  exact value_any (c.toNat : Int) w (by omega) (by omega)
theorem tokc_any (c : UInt8) (w : World) : Calls Tryz.prog 120 #[byteV c] w fun e w' => e = .returned (.bool (tokU c)) ∧ w' = w := by
  have hl := c.toNat_lt
  exact token_any (c.toNat : Int) w (by omega) (by omega)
theorem hex_not {c : UInt8} (h : hexU c = true) : c ≠ 13 ∧ c ≠ 59 ∧ c ≠ 32 ∧ c ≠ 9 := by
  refine ⟨?_, ?_, ?_, ?_⟩ <;> (rintro rfl; revert h; decide)
/-- The size's digit laid behind. -/
theorem RdAt.digit {F : Nat → Prop} {w : World} {g : Nat} {s : KS} (h : RdAt F w g s) (d : Nat) : Turned F w g { s with left := s.left * 16 + d, count := s.count + 1 } ((w.setCell ⟨g, 4, none⟩ (.int .u64 ((s.left : Int) * 16 + (d : Int)))).setCell ⟨g, 5, none⟩ (.int .i64 ((s.count : Int) + 1))) := by
  obtain ⟨r1, o1⟩ := h.put (s' := { s with left := s.left * 16 + d }) 4 (.int .u64 ((s.left : Int) * 16 + (d : Int))) (fun t p => by unfold kdCells; simp) rfl rfl
  obtain ⟨r2, o2⟩ := r1.put (s' := { s with left := s.left * 16 + d, count := s.count + 1 }) 5 (.int .i64 ((s.count : Int) + 1)) (fun t p => by unfold kdCells; simp) rfl rfl
  exact ⟨F, r2, o1.trans o2 (fun _ h => .inl h), fun _ h => .inl h⟩
theorem RdAt.setCount {F : Nat → Prop} {w : World} {g : Nat} {s : KS} (h : RdAt F w g s) (n : Nat) : Turned F w g { s with count := n } (w.setCell ⟨g, 5, none⟩ (.int .i64 (n : Int))) := by
  obtain ⟨r1, o1⟩ := h.put (s' := { s with count := n }) 5 (.int .i64 (n : Int)) (fun t p => by unfold kdCells; simp) rfl rfl
  exact ⟨F, r1, o1, fun _ h => .inl h⟩
set_option maxRecDepth 20000 in
set_option maxHeartbeats 8000000 in
theorem size_a {F : Nat → Prop} {w : World} {g : Nat} {s : KS} (h : RdAt F w g s) (c : UInt8) (hx : hexU c = true) (hn : s.count < 16) (hl : s.left < 16 ^ s.count) : Calls Tryz.prog 144 #[.pointer (some ⟨g, 0, none⟩), byteV c] w (NextT F w g (ofSizeK s c)) := by
  have HV := hid (show ofSizeK s c = ({ s with left := s.left * 16 + hexN c, count := s.count + 1 }, 0) from by unfold ofSizeK; rw [if_pos ⟨hx, hn⟩])
  have HD := hid (h.digit (hexN c))
  rw [HV.out]
  have HX := hid (hexc_any c w)
  rw [hx] at HX
  unfold byteV at HX ⊢
  have hd := hexN_lt c
  have h16 := pow16 (n := s.count + 1) (by omega)
  rw [Nat.pow_succ] at h16
  have hor : bits .or .u64 (IntKind.u64.wrap ((s.left : Int) * 16)) (hexN c : Int) = (s.left : Int) * 16 + (hexN c : Int) := or4 _ _ (by omega) (by omega) (by omega) (by omega)
  have H := hid h
  obtain ⟨t, p, hc⟩ := h.cells
  obtain ⟨_, _, _, _, k4, k5, _, _, _, _, kz⟩ := hc
  have z4 := kz 4
  have z5 := kz 5
  obtain ⟨D, hD⟩ : ∃ D : Int, (hexN c : Int) = D := ⟨_, rfl⟩
  obtain ⟨L, hL⟩ : ∃ L : Int, (s.left : Int) = L := ⟨_, rfl⟩
  obtain ⟨n, hN⟩ : ∃ n, s.count = n := ⟨_, rfl⟩
  have hw : IntKind.u64.wrap D = D := wraps_u64 D (by omega) (by omega)
  obtain ⟨X, hX⟩ : ∃ X : Int, (s.left : Int) * 16 + (hexN c : Int) = X := ⟨_, rfl⟩
  rw [hX] at hor HD
  rw [hL, hD] at hor
  rw [hN] at hn k5 HD
  rw [hL] at k4
  rw [hD] at HX
  have hn2 : (n : Int) < 16 := by omega
  have hn3 : n < 16 := by omega
  clear hX hD hL hd h16 hl hx h kz
  go_enter Tryz.func144, Tryz.ntmps144
  go_wp2_with (go_at_call 160; (with_reducible refine HX.out.mono ?_); rintro e w1 ⟨rfl, hw1⟩; subst w1)
  go_ret
  subst hN
  exact ⟨rfl, HD.out⟩
set_option maxRecDepth 20000 in
set_option maxHeartbeats 8000000 in
theorem size_b {F : Nat → Prop} {w : World} {g : Nat} {s : KS} (h : RdAt F w g s) (c : UInt8) (hx : hexU c = true) (hn : ¬ s.count < 16) : Calls Tryz.prog 144 #[.pointer (some ⟨g, 0, none⟩), byteV c] w (NextT F w g (ofSizeK s c)) := by
  have HV := hid (show ofSizeK s c = (s, 12) from by obtain ⟨h1, h2, h3, h4⟩ := hex_not hx; unfold ofSizeK; rw [if_neg (fun h => hn h.2), if_neg (by omega), if_neg h1, if_neg (fun h => by rcases h with h | h | h; exact h2 h; exact h3 h; exact h4 h)])
  rw [HV.out]
  have HX := hid (hexc_any c w)
  rw [hx] at HX
  unfold byteV at HX ⊢
  have H := hid h
  obtain ⟨t, p, hc⟩ := h.cells
  obtain ⟨_, _, _, _, k4, k5, _, _, _, _, kz⟩ := hc
  have z4 := kz 4
  have z5 := kz 5
  obtain ⟨D, hD⟩ : ∃ D : Int, (hexN c : Int) = D := ⟨_, rfl⟩
  obtain ⟨n, hN⟩ : ∃ n, s.count = n := ⟨_, rfl⟩
  rw [hN] at k5
  rw [hD] at HX
  obtain ⟨g1, g2, g3, g4⟩ := hex_not hx
  have f1 : ((c.toNat : Int) == 13) = false := c_ne (toNat_ne g1)
  have f2 : ((c.toNat : Int) == 59) = false := c_ne (toNat_ne g2)
  have f3 : ((c.toNat : Int) == 32) = false := c_ne (toNat_ne g3)
  have f4 : ((c.toNat : Int) == 9) = false := c_ne (toNat_ne g4)
  have hn2 : ¬ (n : Int) < 16 := by omega
  have hn3 : ((n : Int) == 0) = false := i_ne (b := 0) (by omega)
  clear hD hN hx hn g1 g2 g3 g4 h kz k4
  go_enter Tryz.func144, Tryz.ntmps144
  go_wp2_with (go_at_call 160; (with_reducible refine HX.out.mono ?_); rintro e w1 ⟨rfl, hw1⟩; subst w1)
  go_ret
  exact ⟨rfl, Turned.same H.out⟩
set_option maxRecDepth 20000 in
set_option maxHeartbeats 8000000 in
theorem size_c {F : Nat → Prop} {w : World} {g : Nat} {s : KS} (h : RdAt F w g s) (c : UInt8) (hx : hexU c = false) (hn : s.count = 0) : Calls Tryz.prog 144 #[.pointer (some ⟨g, 0, none⟩), byteV c] w (NextT F w g (ofSizeK s c)) := by
  have HV := hid (show ofSizeK s c = (s, 12) from by unfold ofSizeK; rw [if_neg (fun h => by rw [hx] at h; exact absurd h.1 (by decide)), if_pos hn])
  rw [HV.out]
  have HX := hid (hexc_any c w)
  rw [hx] at HX
  unfold byteV at HX ⊢
  have H := hid h
  obtain ⟨t, p, hc⟩ := h.cells
  obtain ⟨_, _, _, _, k4, k5, _, _, _, _, kz⟩ := hc
  have z4 := kz 4
  have z5 := kz 5
  obtain ⟨D, hD⟩ : ∃ D : Int, (hexN c : Int) = D := ⟨_, rfl⟩
  obtain ⟨n, hN⟩ : ∃ n, s.count = n := ⟨_, rfl⟩
  rw [hN] at k5
  rw [hD] at HX
  obtain rfl : n = 0 := by omega
  clear hD hN hx hn h kz k4
  go_enter Tryz.func144, Tryz.ntmps144
  go_wp2_with (go_at_call 160; (with_reducible refine HX.out.mono ?_); rintro e w1 ⟨rfl, hw1⟩; subst w1)
  go_ret
  exact ⟨rfl, Turned.same H.out⟩
set_option maxRecDepth 20000 in
set_option maxHeartbeats 8000000 in
theorem size_d {F : Nat → Prop} {w : World} {g : Nat} {s : KS} (h : RdAt F w g s) (c : UInt8) (hc : c = 13) (hn : s.count ≠ 0) : Calls Tryz.prog 144 #[.pointer (some ⟨g, 0, none⟩), byteV c] w (NextT F w g (ofSizeK s c)) := by
  have HV := hid (show ofSizeK s c = (s, 2) from by subst hc; unfold ofSizeK; rw [if_neg (fun h => absurd h.1 (by decide)), if_neg hn, if_pos rfl])
  rw [HV.out]
  have HX := hid (hexc_any c w)
  rw [show hexU c = false from by rw [hc]; decide] at HX
  unfold byteV at HX ⊢
  have hcz : (c.toNat : Int) = 13 := by rw [hc]; rfl
  rw [hcz] at HX ⊢
  have H := hid h
  obtain ⟨t, p, hc⟩ := h.cells
  obtain ⟨_, _, _, _, k4, k5, _, _, _, _, kz⟩ := hc
  have z4 := kz 4
  have z5 := kz 5
  obtain ⟨D, hD⟩ : ∃ D : Int, (hexN c : Int) = D := ⟨_, rfl⟩
  obtain ⟨n, hN⟩ : ∃ n, s.count = n := ⟨_, rfl⟩
  rw [hN] at k5
  rw [hD] at HX
  have hn3 : ((n : Int) == 0) = false := i_ne (b := 0) (by omega)
  clear hD hN hn hc h kz k4
  go_enter Tryz.func144, Tryz.ntmps144
  go_wp2_with (go_at_call 160; (with_reducible refine HX.out.mono ?_); rintro e w1 ⟨rfl, hw1⟩; subst w1)
  go_ret
  exact ⟨rfl, Turned.same H.out⟩
set_option maxRecDepth 20000 in
set_option maxHeartbeats 8000000 in
theorem size_e {F : Nat → Prop} {w : World} {g : Nat} {s : KS} (h : RdAt F w g s) (c : UInt8) (hc : c = 59) (hn : s.count ≠ 0) : Calls Tryz.prog 144 #[.pointer (some ⟨g, 0, none⟩), byteV c] w (NextT F w g (ofSizeK s c)) := by
  have HV := hid (show ofSizeK s c = ({ s with count := 1 }, 1) from by subst hc; unfold ofSizeK; rw [if_neg (fun h => absurd h.1 (by decide)), if_neg hn, if_neg (by decide), if_pos (by decide)])
  rw [HV.out]
  have HX := hid (hexc_any c w)
  rw [show hexU c = false from by rw [hc]; decide] at HX
  unfold byteV at HX ⊢
  have hcz : (c.toNat : Int) = 59 := by rw [hc]; rfl
  rw [hcz] at HX ⊢
  have H := hid h
  obtain ⟨t, p, hc⟩ := h.cells
  obtain ⟨_, _, _, _, k4, k5, _, _, _, _, kz⟩ := hc
  have z4 := kz 4
  have z5 := kz 5
  obtain ⟨D, hD⟩ : ∃ D : Int, (hexN c : Int) = D := ⟨_, rfl⟩
  obtain ⟨n, hN⟩ : ∃ n, s.count = n := ⟨_, rfl⟩
  rw [hN] at k5
  rw [hD] at HX
  have hn3 : ((n : Int) == 0) = false := i_ne (b := 0) (by omega)
  have HT := hid (h.setCount 1)
  rw [show ((1 : Nat) : Int) = 1 from rfl] at HT
  clear hD hN hn hc h kz k4
  go_enter Tryz.func144, Tryz.ntmps144
  go_wp2_with (go_at_call 160; (with_reducible refine HX.out.mono ?_); rintro e w1 ⟨rfl, hw1⟩; subst w1)
  go_ret
  exact ⟨rfl, HT.out⟩
set_option maxRecDepth 20000 in
set_option maxHeartbeats 8000000 in
theorem size_f {F : Nat → Prop} {w : World} {g : Nat} {s : KS} (h : RdAt F w g s) (c : UInt8) (hc : c = 32) (hn : s.count ≠ 0) : Calls Tryz.prog 144 #[.pointer (some ⟨g, 0, none⟩), byteV c] w (NextT F w g (ofSizeK s c)) := by
  have HV := hid (show ofSizeK s c = ({ s with count := 1 }, 1) from by subst hc; unfold ofSizeK; rw [if_neg (fun h => absurd h.1 (by decide)), if_neg hn, if_neg (by decide), if_pos (by decide)])
  rw [HV.out]
  have HX := hid (hexc_any c w)
  rw [show hexU c = false from by rw [hc]; decide] at HX
  unfold byteV at HX ⊢
  have hcz : (c.toNat : Int) = 32 := by rw [hc]; rfl
  rw [hcz] at HX ⊢
  have H := hid h
  obtain ⟨t, p, hc⟩ := h.cells
  obtain ⟨_, _, _, _, k4, k5, _, _, _, _, kz⟩ := hc
  have z4 := kz 4
  have z5 := kz 5
  obtain ⟨D, hD⟩ : ∃ D : Int, (hexN c : Int) = D := ⟨_, rfl⟩
  obtain ⟨n, hN⟩ : ∃ n, s.count = n := ⟨_, rfl⟩
  rw [hN] at k5
  rw [hD] at HX
  have hn3 : ((n : Int) == 0) = false := i_ne (b := 0) (by omega)
  have HT := hid (h.setCount 1)
  rw [show ((1 : Nat) : Int) = 1 from rfl] at HT
  clear hD hN hn hc h kz k4
  go_enter Tryz.func144, Tryz.ntmps144
  go_wp2_with (go_at_call 160; (with_reducible refine HX.out.mono ?_); rintro e w1 ⟨rfl, hw1⟩; subst w1)
  go_ret
  exact ⟨rfl, HT.out⟩
set_option maxRecDepth 20000 in
set_option maxHeartbeats 8000000 in
theorem size_g {F : Nat → Prop} {w : World} {g : Nat} {s : KS} (h : RdAt F w g s) (c : UInt8) (hc : c = 9) (hn : s.count ≠ 0) : Calls Tryz.prog 144 #[.pointer (some ⟨g, 0, none⟩), byteV c] w (NextT F w g (ofSizeK s c)) := by
  have HV := hid (show ofSizeK s c = ({ s with count := 1 }, 1) from by subst hc; unfold ofSizeK; rw [if_neg (fun h => absurd h.1 (by decide)), if_neg hn, if_neg (by decide), if_pos (by decide)])
  rw [HV.out]
  have HX := hid (hexc_any c w)
  rw [show hexU c = false from by rw [hc]; decide] at HX
  unfold byteV at HX ⊢
  have hcz : (c.toNat : Int) = 9 := by rw [hc]; rfl
  rw [hcz] at HX ⊢
  have H := hid h
  obtain ⟨t, p, hc⟩ := h.cells
  obtain ⟨_, _, _, _, k4, k5, _, _, _, _, kz⟩ := hc
  have z4 := kz 4
  have z5 := kz 5
  obtain ⟨D, hD⟩ : ∃ D : Int, (hexN c : Int) = D := ⟨_, rfl⟩
  obtain ⟨n, hN⟩ : ∃ n, s.count = n := ⟨_, rfl⟩
  rw [hN] at k5
  rw [hD] at HX
  have hn3 : ((n : Int) == 0) = false := i_ne (b := 0) (by omega)
  have HT := hid (h.setCount 1)
  rw [show ((1 : Nat) : Int) = 1 from rfl] at HT
  clear hD hN hn hc h kz k4
  go_enter Tryz.func144, Tryz.ntmps144
  go_wp2_with (go_at_call 160; (with_reducible refine HX.out.mono ?_); rintro e w1 ⟨rfl, hw1⟩; subst w1)
  go_ret
  exact ⟨rfl, HT.out⟩
set_option maxRecDepth 20000 in
set_option maxHeartbeats 8000000 in
theorem size_h {F : Nat → Prop} {w : World} {g : Nat} {s : KS} (h : RdAt F w g s) (c : UInt8) (hx : hexU c = false) (hn : s.count ≠ 0) (g1 : c ≠ 13) (g2 : c ≠ 59) (g3 : c ≠ 32) (g4 : c ≠ 9) : Calls Tryz.prog 144 #[.pointer (some ⟨g, 0, none⟩), byteV c] w (NextT F w g (ofSizeK s c)) := by
  have HV := hid (show ofSizeK s c = (s, 12) from by unfold ofSizeK; rw [if_neg (fun h => by rw [hx] at h; exact absurd h.1 (by decide)), if_neg hn, if_neg g1, if_neg (fun h => by rcases h with h | h | h; exact g2 h; exact g3 h; exact g4 h)])
  rw [HV.out]
  have HX := hid (hexc_any c w)
  rw [hx] at HX
  unfold byteV at HX ⊢
  have H := hid h
  obtain ⟨t, p, hc⟩ := h.cells
  obtain ⟨_, _, _, _, k4, k5, _, _, _, _, kz⟩ := hc
  have z4 := kz 4
  have z5 := kz 5
  obtain ⟨D, hD⟩ : ∃ D : Int, (hexN c : Int) = D := ⟨_, rfl⟩
  obtain ⟨n, hN⟩ : ∃ n, s.count = n := ⟨_, rfl⟩
  rw [hN] at k5
  rw [hD] at HX
  have f1 : ((c.toNat : Int) == 13) = false := c_ne (toNat_ne g1)
  have f2 : ((c.toNat : Int) == 59) = false := c_ne (toNat_ne g2)
  have f3 : ((c.toNat : Int) == 32) = false := c_ne (toNat_ne g3)
  have f4 : ((c.toNat : Int) == 9) = false := c_ne (toNat_ne g4)
  have hn3 : ((n : Int) == 0) = false := i_ne (b := 0) (by omega)
  clear hD hN hx hn g1 g2 g3 g4 h kz k4
  go_enter Tryz.func144, Tryz.ntmps144
  go_wp2_with (go_at_call 160; (with_reducible refine HX.out.mono ?_); rintro e w1 ⟨rfl, hw1⟩; subst w1)
  go_ret
  exact ⟨rfl, Turned.same H.out⟩
theorem ofSize_any {F : Nat → Prop} {w : World} {g : Nat} {s : KS} (h : RdAt F w g s) (c : UInt8) (hl : s.left < 16 ^ s.count) : Calls Tryz.prog 144 #[.pointer (some ⟨g, 0, none⟩), byteV c] w (NextT F w g (ofSizeK s c)) := by
  cases hx : hexU c with
  | true =>
    by_cases hn : s.count < 16
    · exact size_a h c hx hn hl
    · exact size_b h c hx hn
  | false =>
    by_cases hn : s.count = 0
    · exact size_c h c hx hn
    · by_cases g1 : c = 13
      · exact size_d h c g1 hn
      · by_cases g2 : c = 59
        · exact size_e h c g2 hn
        · by_cases g3 : c = 32
          · exact size_f h c g3 hn
          · by_cases g4 : c = 9
            · exact size_g h c g4 hn
            · exact size_h h c hx hn g1 g2 g3 g4
set_option maxRecDepth 20000 in
set_option maxHeartbeats 8000000 in
theorem ext_a {F : Nat → Prop} {w : World} {g : Nat} {s : KS} (h : RdAt F w g s) (c : UInt8) (hc : c = 13) : Calls Tryz.prog 145 #[.pointer (some ⟨g, 0, none⟩), byteV c] w (NextT F w g (ofExtK s c)) := by
  have HV := hid (show ofExtK s c = (s, 2) from by unfold ofExtK; rw [if_pos hc])
  rw [HV.out]
  have HX := hid (valc_any c w)
  unfold byteV at HX ⊢
  have H := hid h
  obtain ⟨t, p, hc⟩ := h.cells
  obtain ⟨_, _, _, _, k4, k5, _, _, _, _, kz⟩ := hc
  have z4 := kz 4
  have z5 := kz 5
  obtain ⟨n, hN⟩ : ∃ n, s.count = n := ⟨_, rfl⟩
  rw [hN] at k5
  have hcz : (c.toNat : Int) = 13 := by rw [hc]; rfl
  rw [hcz]
  clear hN hc h kz k4
  go_enter Tryz.func145, Tryz.ntmps145
  go_wp2_with (go_at_call 101; (with_reducible refine HX.out.mono ?_); rintro e w1 ⟨rfl, hw1⟩; subst w1)
  go_ret
  exact ⟨rfl, Turned.same H.out⟩
set_option maxRecDepth 20000 in
set_option maxHeartbeats 8000000 in
theorem ext_b {F : Nat → Prop} {w : World} {g : Nat} {s : KS} (h : RdAt F w g s) (c : UInt8) (hc : c ≠ 13) (hn : s.count < 256) (hv : valU c = true) : Calls Tryz.prog 145 #[.pointer (some ⟨g, 0, none⟩), byteV c] w (NextT F w g (ofExtK s c)) := by
  have HV := hid (show ofExtK s c = ({ s with count := s.count + 1 }, 1) from by unfold ofExtK; rw [if_neg hc, if_pos ⟨hn, hv⟩])
  rw [HV.out]
  have HX := hid (valc_any c w)
  unfold byteV at HX ⊢
  have H := hid h
  obtain ⟨t, p, hc⟩ := h.cells
  obtain ⟨_, _, _, _, k4, k5, _, _, _, _, kz⟩ := hc
  have z4 := kz 4
  have z5 := kz 5
  obtain ⟨n, hN⟩ : ∃ n, s.count = n := ⟨_, rfl⟩
  rw [hN] at k5
  have f1 : ((c.toNat : Int) == 13) = false := c_ne (toNat_ne hc)
  rw [hv] at HX
  have hn2 : (n : Int) < 256 := by omega
  have HT := hid (h.setCount (s.count + 1))
  rw [hN, show ((n + 1 : Nat) : Int) = (n : Int) + 1 from by omega] at HT
  clear hc hv hn h kz k4
  go_enter Tryz.func145, Tryz.ntmps145
  go_wp2_with (go_at_call 101; (with_reducible refine HX.out.mono ?_); rintro e w1 ⟨rfl, hw1⟩; subst w1)
  go_ret
  subst hN
  exact ⟨rfl, HT.out⟩
set_option maxRecDepth 20000 in
set_option maxHeartbeats 8000000 in
theorem ext_c {F : Nat → Prop} {w : World} {g : Nat} {s : KS} (h : RdAt F w g s) (c : UInt8) (hc : c ≠ 13) (hn : s.count < 256) (hv : valU c = false) : Calls Tryz.prog 145 #[.pointer (some ⟨g, 0, none⟩), byteV c] w (NextT F w g (ofExtK s c)) := by
  have HV := hid (show ofExtK s c = (s, 12) from by unfold ofExtK; rw [if_neg hc, if_neg (fun h => by rw [hv] at h; exact absurd h.2 (by decide))])
  rw [HV.out]
  have HX := hid (valc_any c w)
  unfold byteV at HX ⊢
  have H := hid h
  obtain ⟨t, p, hc⟩ := h.cells
  obtain ⟨_, _, _, _, k4, k5, _, _, _, _, kz⟩ := hc
  have z4 := kz 4
  have z5 := kz 5
  obtain ⟨n, hN⟩ : ∃ n, s.count = n := ⟨_, rfl⟩
  rw [hN] at k5
  have f1 : ((c.toNat : Int) == 13) = false := c_ne (toNat_ne hc)
  rw [hv] at HX
  have hn2 : (n : Int) < 256 := by omega
  clear hN hc hv hn h kz k4
  go_enter Tryz.func145, Tryz.ntmps145
  go_wp2_with (go_at_call 101; (with_reducible refine HX.out.mono ?_); rintro e w1 ⟨rfl, hw1⟩; subst w1)
  go_ret
  exact ⟨rfl, Turned.same H.out⟩
set_option maxRecDepth 20000 in
set_option maxHeartbeats 8000000 in
theorem ext_d {F : Nat → Prop} {w : World} {g : Nat} {s : KS} (h : RdAt F w g s) (c : UInt8) (hc : c ≠ 13) (hn : ¬ s.count < 256) : Calls Tryz.prog 145 #[.pointer (some ⟨g, 0, none⟩), byteV c] w (NextT F w g (ofExtK s c)) := by
  have HV := hid (show ofExtK s c = (s, 12) from by unfold ofExtK; rw [if_neg hc, if_neg (fun h => hn h.1)])
  rw [HV.out]
  have HX := hid (valc_any c w)
  unfold byteV at HX ⊢
  have H := hid h
  obtain ⟨t, p, hc⟩ := h.cells
  obtain ⟨_, _, _, _, k4, k5, _, _, _, _, kz⟩ := hc
  have z4 := kz 4
  have z5 := kz 5
  obtain ⟨n, hN⟩ : ∃ n, s.count = n := ⟨_, rfl⟩
  rw [hN] at k5
  have f1 : ((c.toNat : Int) == 13) = false := c_ne (toNat_ne hc)
  have hn2 : ¬ (n : Int) < 256 := by omega
  clear hN hc hn h kz k4
  go_enter Tryz.func145, Tryz.ntmps145
  go_wp2_with (go_at_call 101; (with_reducible refine HX.out.mono ?_); rintro e w1 ⟨rfl, hw1⟩; subst w1)
  go_ret
  exact ⟨rfl, Turned.same H.out⟩
theorem ofExt_any {F : Nat → Prop} {w : World} {g : Nat} {s : KS} (h : RdAt F w g s) (c : UInt8) : Calls Tryz.prog 145 #[.pointer (some ⟨g, 0, none⟩), byteV c] w (NextT F w g (ofExtK s c)) := by
  by_cases hc : c = 13
  · exact ext_a h c hc
  · by_cases hn : s.count < 256
    · cases hv : valU c with
      | true => exact ext_b h c hc hn hv
      | false => exact ext_c h c hc hn hv
    · exact ext_d h c hc hn
set_option maxRecDepth 20000 in
set_option maxHeartbeats 8000000 in
theorem se_a {F : Nat → Prop} {w : World} {g : Nat} {s : KS} (h : RdAt F w g s) (c : UInt8) (hc : c ≠ 10) : Calls Tryz.prog 146 #[.pointer (some ⟨g, 0, none⟩), byteV c] w (NextT F w g (ofSizeEndK s c)) := by
  have HV := hid (show ofSizeEndK s c = (s, 12) from by unfold ofSizeEndK; rw [if_neg hc])
  rw [HV.out]
  have HT := hid (h.setCount 0)
  rw [show ((0 : Nat) : Int) = 0 from rfl] at HT
  unfold byteV
  have H := hid h
  obtain ⟨t, p, hc⟩ := h.cells
  obtain ⟨_, _, _, _, k4, k5, _, _, _, _, kz⟩ := hc
  have z4 := kz 4
  have z5 := kz 5
  have f1 : ((c.toNat : Int) != 10) = true := c_neq (toNat_ne hc)
  clear hc h kz
  go_enter Tryz.func146, Tryz.ntmps146
  go_wp2
  go_ret
  exact ⟨rfl, Turned.same H.out⟩
set_option maxRecDepth 20000 in
set_option maxHeartbeats 8000000 in
theorem se_b {F : Nat → Prop} {w : World} {g : Nat} {s : KS} (h : RdAt F w g s) (c : UInt8) (hc : c = 10) (h0 : s.left = 0) : Calls Tryz.prog 146 #[.pointer (some ⟨g, 0, none⟩), byteV c] w (NextT F w g (ofSizeEndK s c)) := by
  have HV := hid (show ofSizeEndK s c = ({ s with count := 0 }, 6) from by unfold ofSizeEndK; rw [if_pos hc, if_pos h0])
  rw [HV.out]
  have HT := hid (h.setCount 0)
  rw [show ((0 : Nat) : Int) = 0 from rfl] at HT
  unfold byteV
  have H := hid h
  obtain ⟨t, p, hc⟩ := h.cells
  obtain ⟨_, _, _, _, k4, k5, _, _, _, _, kz⟩ := hc
  have z4 := kz 4
  have z5 := kz 5
  have hcz : (c.toNat : Int) = 10 := by rw [hc]; rfl
  rw [hcz]
  rw [h0, show ((0 : Nat) : Int) = 0 from rfl] at k4
  clear hc h0 h kz
  go_enter Tryz.func146, Tryz.ntmps146
  go_wp2
  go_ret
  exact ⟨rfl, HT.out⟩
set_option maxRecDepth 20000 in
set_option maxHeartbeats 8000000 in
theorem se_c {F : Nat → Prop} {w : World} {g : Nat} {s : KS} (h : RdAt F w g s) (c : UInt8) (hc : c = 10) (h0 : s.left ≠ 0) : Calls Tryz.prog 146 #[.pointer (some ⟨g, 0, none⟩), byteV c] w (NextT F w g (ofSizeEndK s c)) := by
  have HV := hid (show ofSizeEndK s c = ({ s with count := 0 }, 3) from by unfold ofSizeEndK; rw [if_pos hc, if_neg h0])
  rw [HV.out]
  have HT := hid (h.setCount 0)
  rw [show ((0 : Nat) : Int) = 0 from rfl] at HT
  unfold byteV
  have H := hid h
  obtain ⟨t, p, hc⟩ := h.cells
  obtain ⟨_, _, _, _, k4, k5, _, _, _, _, kz⟩ := hc
  have z4 := kz 4
  have z5 := kz 5
  have hcz : (c.toNat : Int) = 10 := by rw [hc]; rfl
  rw [hcz]
  have f1 : ((s.left : Int) == 0) = false := i_ne (b := 0) h0
  clear hc h0 h kz
  go_enter Tryz.func146, Tryz.ntmps146
  go_wp2
  go_ret
  exact ⟨rfl, HT.out⟩
theorem ofSizeEnd_any {F : Nat → Prop} {w : World} {g : Nat} {s : KS} (h : RdAt F w g s) (c : UInt8) : Calls Tryz.prog 146 #[.pointer (some ⟨g, 0, none⟩), byteV c] w (NextT F w g (ofSizeEndK s c)) := by
  by_cases hc : c = 10
  · by_cases h0 : s.left = 0
    · exact se_b h c hc h0
    · exact se_c h c hc h0
  · exact se_a h c hc
end Go.Proofs.YtnlmjlfoeodleaaGreatDoor
