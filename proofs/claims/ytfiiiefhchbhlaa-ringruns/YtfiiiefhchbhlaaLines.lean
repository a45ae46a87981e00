/- At, Index and Line of package ring, and the number of an error. -/
import Derived.Test.YtfiiiefhchbhlaaWrite
import Derived.Test.YtfiiiefhchbhlaaScan
namespace Go.Proofs.Ytfiiiefhchbhlaa
open Go.RowKit

theorem spot_p {w : World} {r g S F C : Nat} {L : List Int} (h : RingAt w r g S F C L) (i : Nat) (hi : i ≤ S) (p : Nat) (hp : posn S F i = p) (n : Nat) :
    Calls Try.prog 29 #[.pointer (some ⟨r, 0, none⟩), .int .i64 i] (w.drewN n) fun e w' => e = .returned (.int .i64 p) ∧ w' = w.drewN n := by
  subst hp; exact spot_any (h.drewN n) i hi
set_option maxHeartbeats 1000000 in
theorem at_in {w : World} {r g S F C : Nat} {L : List Int} (h : RingAt w r g S F C L) (i : Nat) (hi : i < C) :
    Calls Try.prog 17 #[.pointer (some ⟨r, 0, none⟩), .int .i64 i] w fun e w' => e = .returned (.tuple #[.int .u8 ((view L F C).getD i 0), .bool true]) ∧ ∃ n, w' = w.drewN n := by
  have hS := h.most
  have hC := h.count
  have hF := h.first
  have hl := h.len
  obtain ⟨p, HP⟩ : ∃ p, Hid (posn S F i = p) := ⟨_, rfl⟩
  have hp : p < S := by rw [← HP.out]; exact posn_lt h.first (by omega)
  have hp1 : (p : Int) < S := by omega
  have c0 := h.c0
  have cp := h.at p hp
  obtain ⟨x, HX⟩ : ∃ x, Hid (L.getD p 0 = x) := ⟨_, rfl⟩
  have HV : Hid ((view L F C).getD i 0 = x) := by
    show _ = _
    rw [← HX.out, ← HP.out, ← hl]
    exact (view_at L F C i (by omega) (by omega) hi).symm
  rw [HX.out] at cp
  have hi0 : ¬ (i : Int) < 0 := by omega
  have hi1 : ¬ (i : Int) ≥ C := by omega
  have hi2 : (i : Int) < C := by omega
  have HH := hid h
  clear h hl
  rw [HV.out]
  go_enter Try.func17, Try.ntmps17
  go_wp2_with (go_at_call 19; refine (len_any HH.out).mono ?_; rintro e w' ⟨rfl, rfl⟩)
  go_quiet ((go_at_call 29; exact Calls.quiet_of_same (spot_p HH.out i (by omega) p HP.out _)))
  go_wp2
  go_ret2
  exact ⟨rfl, nq, rfl⟩
set_option maxHeartbeats 1000000 in
theorem at_out {w : World} {r g S F C : Nat} {L : List Int} (h : RingAt w r g S F C L) (i : Int) (hi : i < 0 ∨ (C : Int) ≤ i) :
    Calls Try.prog 17 #[.pointer (some ⟨r, 0, none⟩), .int .i64 i] w fun e w' => e = .returned (.tuple #[.int .u8 0, .bool false]) ∧ w' = w := by
  have hS := h.most
  have hC := h.count
  rcases hi with hi | hi
  · go_enter Try.func17, Try.ntmps17
    go_wp2
    go_ret2
    exact ⟨rfl, rfl⟩
  · have hi0 : ¬ i < 0 := by omega
    go_enter Try.func17, Try.ntmps17
    go_wp2_with (go_at_call 19; refine (len_any h).mono ?_; rintro e w' ⟨rfl, rfl⟩)
    go_ret2
    exact ⟨rfl, rfl⟩
/-- Nothing in memory has turned. -/
structure Still (w w' : World) : Prop where
  heap : w'.heap = w.heap
  os : w'.os = w.os
  tape : w'.tape = w.tape
  output : w'.output = w.output
theorem Still.refl (w : World) : Still w w := ⟨rfl, rfl, rfl, rfl⟩
theorem Still.drewN {w w' : World} (h : Still w w') (n : Nat) : Still w (w'.drewN n) := ⟨h.heap, h.os, h.tape, h.output⟩
theorem Still.trans {a b c : World} (h : Still a b) (k : Still b c) : Still a c := ⟨k.heap.trans h.heap, k.os.trans h.os, k.tape.trans h.tape, k.output.trans h.output⟩
theorem Still.below {w w' : World} (h : Still w w') (B : Nat) : Below B w w' := ⟨h.os, h.tape, h.output, by rw [h.heap]; exact Nat.le_refl _, fun k _ => by rw [h.heap]⟩
theorem Still.turn {w w' : World} (h : Still w w') (r g : Nat) : Turn r g w w' := ⟨h.os, h.tape, h.output, by rw [h.heap]; exact Nat.le_refl _, fun k _ _ _ => by rw [h.heap]⟩
theorem RingAt.still {w w' : World} {r g S F C : Nat} {L : List Int} (h : RingAt w r g S F C L) (hs : Still w w') : RingAt w' r g S F C L := h.of_heap (by rw [hs.heap]) (by rw [hs.heap])
theorem Holds.still {w w' : World} {r g S : Nat} {q : List Int} (h : Holds w r g S q) (hs : Still w w') : Holds w' r g S q := h.of_heap (by rw [hs.heap]) (by rw [hs.heap])

theorem spot_x {w : World} {r g S F C : Nat} {L : List Int} (h : RingAt w r g S F C L) (x : Int) (i : Nat) (hx : x = i) (hi : i ≤ S) (p : Nat) (hp : posn S F i = p) (n : Nat) :
    Calls Try.prog 29 #[.pointer (some ⟨r, 0, none⟩), .int .i64 x] (w.drewN n) fun e w' => e = .returned (.int .i64 p) ∧ w' = w.drewN n := by
  subst hp; subst hx; exact spot_any (h.drewN n) i hi
theorem cell_view {w : World} {r g S F C : Nat} {L : List Int} (h : RingAt w r g S F C L) (i : Nat) (hi : i < C) :
    ∃ p, posn S F i = p ∧ (p : Int) < S ∧ w.cell? ⟨g, p, none⟩ = some (.int .u8 ((view L F C).getD i 0)) := by
  have hS := h.first
  have hC := h.count
  have hl := h.len
  have hp : posn S F i < S := posn_lt h.first (by omega)
  refine ⟨_, rfl, by omega, ?_⟩
  rw [h.at _ hp]
  subst hl
  rw [view_at L F C i (by omega) (by omega) hi]
def IdxInv (c : Int) (q : List Int) (R : Int) (f k : Nat) : Prop := (k = 0 ∨ f + k ≤ q.length) ∧ R = idx c (f + k) (q.drop (f + k))
set_option maxHeartbeats 2000000 in
theorem index_nat {w : World} {r g S F C : Nat} {L : List Int} (h : RingAt w r g S F C L) (c : Int) (f : Nat) (hf : (f : Int) ≤ 9223372036854775807) (R : Int) (hR : R = idx c f ((view L F C).drop f)) :
    Calls Try.prog 20 #[.pointer (some ⟨r, 0, none⟩), .int .u8 c, .int .i64 f] w fun e w' => e = .returned (.int .i64 R) ∧ Still w w' := by
  have hS := h.most
  have hC := h.count
  have hF := h.first
  have hl := h.len
  obtain ⟨q, HQ⟩ : ∃ q, Hid (q = view L F C) := ⟨_, rfl⟩
  have HQl : Hid (q.length = C) := by show _ = _; rw [HQ.out]; exact view_length L F C (by omega) (by omega)
  have HR : Hid (R = idx c f (q.drop f)) := by show _ = _; rw [HQ.out]; exact hR
  have HH := hid h
  have hn0 : (0 : Int) ≤ f := by omega
  clear hl h hR
  go_enter Try.func20, Try.ntmps20
  go_wp2_with (go_at_call 19; refine (len_any HH.out).mono ?_; rintro e w' ⟨rfl, rfl⟩)
  go_loopw [14] (fun i W => ∃ k : Nat, i = .int .i64 k ∧ Still w' W ∧ IdxInv c q R f k) (fun i _ => C - (intOf i).toNat)
  case atStart => exact ⟨0, rfl, Still.refl _, .inl rfl, HR.out⟩
  case round =>
    obtain ⟨k, rfl, hst, hinv⟩ := hrel
    rename World => wr
    have hrg := HH.out.still hst
    obtain ⟨j, HJ⟩ : ∃ j, Hid (j = f + k) := ⟨_, rfl⟩
    have hinv1 : k = 0 ∨ j ≤ q.length := by rw [HJ.out]; exact hinv.1
    have HI : Hid (R = idx c j (q.drop j)) := by show _ = _; rw [HJ.out]; exact hinv.2
    by_cases hlt : j < C
    · have c0 := hrg.c0
      obtain ⟨p, hp, hpS, cp⟩ := cell_view hrg j hlt
      have HP := hid hp
      have HG := hid hrg
      obtain ⟨x, HX⟩ : ∃ x, Hid ((view L F C).getD j 0 = x) := ⟨_, rfl⟩
      rw [HX.out] at cp
      have HV : Hid (q.getD j 0 = x) := by show _ = _; rw [HQ.out]; exact HX.out
      have hlt' : (k : Int) < (C : Int) - f := by have := HJ.out; omega
      clear hp hrg hinv
      by_cases hxc : x = c
      · have hbe : (x == c) = true := by simpa using hxc
        have HXC := hid hxc
        clear hxc
        go_wp2
        go_quiet ((go_at_call 29; exact Calls.quiet_of_same (spot_x HG.out _ j (by have := HJ.out; omega) (by omega) p HP.out _)))
        go_wp2
        go_ret
        refine ⟨ret_int ?_, hst.drewN _⟩
        rw [HI.out, idx_hit c q j (by rw [HQl.out]; exact hlt) (by rw [HV.out]; exact HXC.out), HJ.out]
        omega
      · have hbe : (x == c) = false := by simpa using hxc
        have HXC := hid hxc
        clear hxc
        go_wp2
        go_quiet ((go_at_call 29; exact Calls.quiet_of_same (spot_x HG.out _ j (by have := HJ.out; omega) (by omega) p HP.out _)))
        go_wp2
        go_roundw
        case rel => exact ⟨k + 1, by go_num, hst.drewN _, .inr (by rw [HQl.out]; have := HJ.out; omega), by rw [HI.out, idx_miss c q j (by rw [HQl.out]; exact hlt) (by rw [HV.out]; exact HXC.out), HJ.out]; rfl⟩
        case measure => simp [intOf]; have := HJ.out; omega
    · have hlt' : ¬ (k : Int) < (C : Int) - f := by have := HJ.out; omega
      go_wp2
      go_ret
      refine ⟨ret_int ?_, hst⟩
      rw [HI.out, idx_end c q j (by rw [HQl.out]; omega)]
set_option maxHeartbeats 2000000 in
theorem index_neg {w : World} {r g S F C : Nat} {L : List Int} (h : RingAt w r g S F C L) (c : Int) (n : Int) (hn : n < 0) (R : Int) (hR : R = idx c 0 ((view L F C).drop 0)) :
    Calls Try.prog 20 #[.pointer (some ⟨r, 0, none⟩), .int .u8 c, .int .i64 n] w fun e w' => e = .returned (.int .i64 R) ∧ Still w w' := by
  have hS := h.most
  have hC := h.count
  have hF := h.first
  have hl := h.len
  obtain ⟨q, HQ⟩ : ∃ q, Hid (q = view L F C) := ⟨_, rfl⟩
  have HQl : Hid (q.length = C) := by show _ = _; rw [HQ.out]; exact view_length L F C (by omega) (by omega)
  have HR : Hid (R = idx c 0 (q.drop 0)) := by show _ = _; rw [HQ.out]; exact hR
  have HH := hid h
  have hn0 : ¬ (0 < n) := by omega
  clear hl h hR
  go_enter Try.func20, Try.ntmps20
  go_wp2_with (go_at_call 19; refine (len_any HH.out).mono ?_; rintro e w' ⟨rfl, rfl⟩)
  go_loopw [14] (fun i W => ∃ k : Nat, i = .int .i64 k ∧ Still w' W ∧ IdxInv c q R 0 k) (fun i _ => C - (intOf i).toNat)
  case atStart => exact ⟨0, rfl, Still.refl _, .inl rfl, HR.out⟩
  case round =>
    obtain ⟨k, rfl, hst, hinv⟩ := hrel
    rename World => wr
    have hrg := HH.out.still hst
    obtain ⟨j, HJ⟩ : ∃ j, Hid (j = 0 + k) := ⟨_, rfl⟩
    have hinv1 : k = 0 ∨ j ≤ q.length := by rw [HJ.out]; exact hinv.1
    have HI : Hid (R = idx c j (q.drop j)) := by show _ = _; rw [HJ.out]; exact hinv.2
    by_cases hlt : j < C
    · have c0 := hrg.c0
      obtain ⟨p, hp, hpS, cp⟩ := cell_view hrg j hlt
      have HP := hid hp
      have HG := hid hrg
      obtain ⟨x, HX⟩ : ∃ x, Hid ((view L F C).getD j 0 = x) := ⟨_, rfl⟩
      rw [HX.out] at cp
      have HV : Hid (q.getD j 0 = x) := by show _ = _; rw [HQ.out]; exact HX.out
      have hlt' : (k : Int) < (C : Int) := by have := HJ.out; omega
      clear hp hrg hinv
      by_cases hxc : x = c
      · have hbe : (x == c) = true := by simpa using hxc
        have HXC := hid hxc
        clear hxc
        go_wp2
        go_quiet ((go_at_call 29; exact Calls.quiet_of_same (spot_x HG.out _ j (by have := HJ.out; omega) (by omega) p HP.out _)))
        go_wp2
        go_ret
        refine ⟨ret_int ?_, hst.drewN _⟩
        rw [HI.out, idx_hit c q j (by rw [HQl.out]; exact hlt) (by rw [HV.out]; exact HXC.out), HJ.out]
        omega
      · have hbe : (x == c) = false := by simpa using hxc
        have HXC := hid hxc
        clear hxc
        go_wp2
        go_quiet ((go_at_call 29; exact Calls.quiet_of_same (spot_x HG.out _ j (by have := HJ.out; omega) (by omega) p HP.out _)))
        go_wp2
        go_roundw
        case rel => exact ⟨k + 1, by go_num, hst.drewN _, .inr (by rw [HQl.out]; have := HJ.out; omega), by rw [HI.out, idx_miss c q j (by rw [HQl.out]; exact hlt) (by rw [HV.out]; exact HXC.out), HJ.out]; rfl⟩
        case measure => simp [intOf]; have := HJ.out; omega
    · have hlt' : ¬ (k : Int) < (C : Int) := by have := HJ.out; omega
      go_wp2
      go_ret
      refine ⟨ret_int ?_, hst⟩
      rw [HI.out, idx_end c q j (by rw [HQl.out]; omega)]
theorem hindex_any {w : World} {r g S : Nat} {q : List Int} (h : Holds w r g S q) (c n : Int) (hn2 : n ≤ 9223372036854775807) :
    Calls Try.prog 20 #[.pointer (some ⟨r, 0, none⟩), .int .u8 c, .int .i64 n] w fun e w' => e = .returned (.int .i64 (idxFrom c q n)) ∧ Still w w' := by
  obtain ⟨F, L, h1, h2⟩ := h
  by_cases hn : n < 0
  · refine index_neg h1 c n hn _ ?_
    rw [h2]; unfold idxFrom
    rw [show n.toNat = 0 by omega]
  · obtain ⟨f, rfl⟩ : ∃ f : Nat, n = f := ⟨n.toNat, by omega⟩
    refine index_nat h1 c f hn2 _ ?_
    rw [h2]; unfold idxFrom
    rw [Int.toNat_natCast]
end Go.Proofs.Ytfiiiefhchbhlaa
