/- The law of the way back: what is told in codes is decoded to it; what is told of a target's parts is read as them. -/
import Derived.Test.YtbdbmlklijmefaaDoorPText2
namespace Go.Proofs.YtbdbmlklijmefaaDoor
open Go.RowKit

theorem behind_zero {f : Int} {h s : B} : (behindB f h s).2 ≠ 0 → (behindB f h s).1 = TG.zero := by
  unfold behindB
  split
  · intro _; rfl
  · intro q; exact absurd rfl q
theorem parse_zero {s : B} : (parseT s).2 ≠ 0 → (parseT s).1 = TG.zero := by
  unfold parseT
  split
  · intro _; rfl
  split
  · intro q; exact absurd rfl q
  split
  · exact behind_zero
  split
  · intro _; rfl
  split
  · intro _; rfl
  · exact behind_zero
theorem behind_parts {f : Int} {h s : B} : (behindB f h s).1.host.length ≤ h.length ∧ (behindB f h s).1.path.length ≤ s.length + 1 ∧ (behindB f h s).1.query.length ≤ s.length := by
  have hl := cutF_len 63 s
  unfold behindB
  split
  · simp [TG.zero]
  · refine ⟨Nat.le_refl _, ?_, hl.2⟩
    show (pathOf f (cutF 63 s).1).length ≤ _
    unfold pathOf
    split
    · simp
    · omega
theorem parse_parts (s : B) : (parseT s).1.host.length ≤ s.length ∧ (parseT s).1.path.length ≤ s.length + 1 ∧ (parseT s).1.query.length ≤ s.length := by
  unfold parseT
  split
  · simp [TG.zero]
  split
  · simp
  split
  · obtain ⟨a, b, c⟩ := behind_parts (f := 1) (h := []) (s := s)
    exact ⟨Nat.le_trans a (Nat.zero_le _), b, c⟩
  split
  · simp [TG.zero]
  split
  · simp [TG.zero]
  · obtain ⟨a, b, c⟩ := behind_parts (f := 2) (h := smallB ((s.drop 7).takeWhile hostB)) (s := (s.drop 7).dropWhile hostB)
    have h1 := tw_le hostB (s.drop 7)
    have h2 : ((s.drop 7).dropWhile hostB).length ≤ (s.drop 7).length := by rw [(tw_take hostB (s.drop 7)).2, List.length_drop]; omega
    have h3 : (smallB ((s.drop 7).takeWhile hostB)).length = ((s.drop 7).takeWhile hostB).length := by simp [smallB]
    rw [List.length_drop] at h1 h2
    omega
set_option maxRecDepth 20000 in
set_option maxHeartbeats 8000000 in
theorem targetBack_any (s : B) (hs : s.length ≤ 1048576) (w : World) (hE : Env w) : Calls Tryd.prog 8 #[.string (str s)] w fun e w' => e = .returned (.bool true) ∧ Below w.heap.size w w' := by
  have HE := hid hE
  have hel := enc_len s
  have HEn := hid (pencode_any s (by omega))
  have HDe := hid (pdecode_any (encodeB s) (by omega))
  rw [decode_encode] at HDe
  have HEb := hid (encode_bytes s)
  have HUn := hid (show ∀ (c : UInt8) (w : World), _ from unres_any)
  have HWk := hid works_any
  have HP1 := hid (pparse_any s (by omega))
  obtain ⟨hq1, hq2, hq3⟩ := parse_parts s
  obtain ⟨t, k, hpt⟩ : ∃ t k, parseT s = (t, k) := ⟨_, _, rfl⟩
  have HZ := hid (show k ≠ 0 → t = TG.zero from by have := @parse_zero s; rw [hpt] at this; exact this)
  have HTe := hid (show k = 0 → textT t = (tellT t, 0) from fun h => text_back (s := s) (by rw [hpt, h]))
  have HTb := hid (show k = 0 → parseT (tellT t) = (t, 0) ∧ (tellT t).length ≤ s.length from fun h => tell_back (s := s) (by rw [hpt, h]))
  rw [hpt] at HP1 hq1 hq2 hq3
  dsimp only at HP1 hq1 hq2 hq3
  have HTx := hid (ptext_any t (by omega))
  obtain ⟨n, hn⟩ : ∃ n, s.length = n := ⟨_, rfl⟩
  obtain ⟨C, hC⟩ : ∃ C, encodeB s = C := ⟨_, rfl⟩
  obtain ⟨m, hm⟩ : ∃ m, C.length = m := ⟨_, rfl⟩
  rw [hC] at hel HEn HDe HEb
  rw [hm] at hel
  have hmm : m ≤ 3145728 := by omega
  have HM := hid hm
  obtain ⟨S, hS⟩ : ∃ S, str s = S := ⟨_, rfl⟩
  have hSn : S.size = n := by rw [← hS, str_size, hn]
  obtain ⟨SC, hSC⟩ : ∃ SC, str C = SC := ⟨_, rfl⟩
  have hSCm : SC.size = m := by rw [← hSC, str_size, hm]
  have HByC := hid (show ∀ (k : Nat) (y : UInt8) (h2 : k < SC.size), C[k]? = some y → SC[k]'h2 = y from fun k y h2 hy => by
    subst hSC
    have hk : k < C.length := (List.getElem?_eq_some_iff.1 hy).1
    rw [List.getElem?_eq_getElem hk] at hy
    exact Option.some.inj hy)
  rw [hS] at HEn HP1 ⊢
  rw [hSC] at HEn HDe
  have HD2 := hid (show ∀ w, Calls Tryd.prog 20 #[.string SC] w fun e w' => e = .returned (.tuple #[.string S, .nilIface]) ∧ Below w.heap.size w w' from by rw [← hS]; exact HDe.out)
  have hn20 : n ≤ 1048576 := by omega
  have HLn := hid hn
  clear hs hE hpt hq1 hq2 hq3 hn hC hm hS hSC hel HDe
  go_enter Tryd.func8, Tryd.ntmps8
  go_wp2_with (first
    | (go_at_call 24; (with_reducible refine (HEn.out _).mono ?_); rintro e w1 ⟨rfl, hb⟩; have HB1 := hid hb; clear hb)
    | (go_at_call 20; (with_reducible refine (HD2.out _).mono ?_); rintro e w2 ⟨rfl, hb⟩; have HB2 := hid (below_out HB1.out hb); have HE2 := hid (HE.out.below HB2.out); clear hb))
  go_loopg [6] (m + 1) (fun gk s6 wr => ∃ i : Nat, s6 = .int .i64 (i : Int) ∧ i ≤ m ∧ gk = m - i + 1 ∧ wr = w2)
  case atStart => exact ⟨0, rfl, by omega, rfl, rfl⟩
  case round =>
    obtain ⟨i, rfl, hi, rfl, hwr⟩ := hrel
    subst wr
    by_cases hin : i < m
    · obtain ⟨y, hy⟩ : ∃ y, C[i]? = some y := ⟨_, List.getElem?_eq_getElem (by rw [HM.out]; exact hin)⟩
      have hby : ∀ h : i < SC.size, SC[i]'h = y := fun h => HByC.out i y h hy
      have hcs := HEb.out y (List.mem_of_getElem? hy)
      clear hy
      by_cases h37 : y = 37
      · subst h37
        clear hcs
        go_wp2
        go_roundg (m - (i + 1) + 1)
        case measure => omega
        case rel => exact ⟨i + 1, by go_num, by omega, rfl, rfl⟩
      · have hu : unres y = true := hcs.resolve_left h37
        have HUy := hid (HUn.out y)
        rw [hu] at HUy
        have z1 : ¬ (y.toNat : Int) = 37 := fun e => h37 (UInt8.toNat_inj.1 (by show y.toNat = 37; omega))
        have z2 : ((y.toNat : Int) != 37) = true := by simpa using z1
        clear hcs h37 hu
        go_wp2_with (go_at_call 27; (with_reducible refine (HUy.out _).mono ?_); rintro e w10 ⟨rfl, hw10⟩; subst w10)
        go_roundg (m - (i + 1) + 1)
        case measure => omega
        case rel => exact ⟨i + 1, by go_num, by omega, rfl, rfl⟩
    · obtain rfl : m = i := by omega
      by_cases hk : k = 0
      · subst hk
        obtain ⟨hb1, hb2⟩ := HTb.out rfl
        have ht := HTe.out rfl
        rw [HLn.out] at hb2
        have HP3 := hid (pparse_any (tellT t) (by rw [HLn.out] at *; omega))
        rw [hb1] at HP3
        rw [ht] at HTx
        dsimp only at HP3 HTx
        obtain ⟨tf, c1, c2, c3, ths, ha⟩ := agg_some t
        rw [ha] at HP1 HP3 HTx
        obtain ⟨U, hU⟩ : ∃ U, str (tellT t) = U := ⟨_, rfl⟩
        have hUl : U.size ≤ n := by rw [← hU, str_size]; exact hb2
        rw [hU] at HP3 HTx
        rw [errOf_zero] at HP1 HP3 HTx
        clear hb1 hb2 ht ha hU
        go_wp2_with (first
          | (go_at_call 9; (with_reducible refine (HP1.out _ HE2.out).mono ?_); rintro e w3 ⟨rfl, hb⟩; have HB3 := hid (below_out HB2.out (below_out hb (below_new w3 (.cells #[.int .i64 tf, .string c1, .string c2, .string c3, .bool ths] 23 (0, 0))))); have HE3 := hid (HE.out.below HB3.out); obtain ⟨x0, x1, x2, x3, x4, xz⟩ := five (heap_alloc_new w3 (.cells #[.int .i64 tf, .string c1, .string c2, .string c3, .bool ths] 23 (0, 0))); clear hb xz)
          | (go_at_call 13; (with_reducible refine (HTx.out _ HE3.out).mono ?_); rintro e w4 ⟨rfl, hb⟩; have HB4 := hid (below_out HB3.out hb); have HE4 := hid (HE.out.below HB4.out); have HX4 := hid ((hb.block _ (lt_of_heap (heap_alloc_new w3 (.cells #[.int .i64 tf, .string c1, .string c2, .string c3, .bool ths] 23 (0, 0))))).trans (heap_alloc_new w3 (.cells #[.int .i64 tf, .string c1, .string c2, .string c3, .bool ths] 23 (0, 0)))); clear hb)
          | (go_at_call 9; (with_reducible refine (HP3.out _ HE4.out).mono ?_); rintro e w5 ⟨rfl, hb⟩; have HB5 := hid (below_out HB4.out (below_out hb (below_new w5 (.cells #[.int .i64 tf, .string c1, .string c2, .string c3, .bool ths] 23 (0, 0))))); have HE5 := hid (HE.out.below HB5.out); obtain ⟨y0, y1, y2, y3, y4, yz⟩ := five ((hb.block _ (lt_of_heap HX4.out)).trans HX4.out); have hlt : w3.heap.size < w5.heap.size := (by have h9 := lt_of_heap HX4.out; have h8 := hb.size; omega); have hne1 : ¬ w3.heap.size = w5.heap.size := (by omega); clear hb yz)
          | (go_at_call 12; (with_reducible refine (HWk.out _ HE5.out).mono ?_); rintro e w8 ⟨rfl, hb⟩; have HB8 := hid (below_out HB5.out hb); clear hb))
        go_ret
        exact ⟨rfl, HB8.out⟩
      · obtain rfl := HZ.out hk
        have HEr := hid (errOf_pos hk)
        rw [HEr.out, agg_zero] at HP1
        go_wp2_with (first
          | (go_at_call 9; (with_reducible refine (HP1.out _ HE2.out).mono ?_); rintro e w3 ⟨rfl, hb⟩; have HB3 := hid (below_out HB2.out (below_out hb (below_new w3 Z5))); have HE3 := hid (HE.out.below HB3.out); clear hb)
          | (go_at_call 12; (with_reducible refine (HWk.out _ HE3.out).mono ?_); rintro e w8 ⟨rfl, hb⟩; have HB8 := hid (below_out HB3.out hb); clear hb))
        go_ret
        exact ⟨rfl, HB8.out⟩
end Go.Proofs.YtbdbmlklijmefaaDoor
