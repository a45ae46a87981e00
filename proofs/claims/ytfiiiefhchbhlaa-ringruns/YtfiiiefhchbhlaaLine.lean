/- Line of package ring, and the number of an error. -/
import Derived.Test.YtfiiiefhchbhlaaLines
import Derived.LaidEql
import Derived.Stop.Asserts
namespace Go.Proofs.Ytfiiiefhchbhlaa
open Go.RowKit

/-- The error with a number; nil is 0. -/
def errV (c : Int) : Value := if c = 0 then .nilIface else .iface 54 (.int .i64 c)
/-- What a Line hands back, and what is left. -/
structure Lined (w w' : World) (r g S : Nat) (q : List Int) (most : Int) (v : Value) : Prop where
  bytes : BytesAt w.heap.size w' v (lineL q most)
  turn : Turn r g w w'
  ring : Holds w' r g S (lineR q most)
theorem lined_err {w w' : World} {r g S : Nat} {q : List Int} {most : Int} (h : Holds w r g S q) (hs : Still w w') (hc : lineC q most ≠ 0) : Lined w w' r g S q most (.slice none 0 0) :=
  ⟨.inl ⟨rfl, by unfold lineL; rw [if_neg hc]⟩, hs.turn r g, by unfold lineR; rw [if_neg hc]; exact h.still hs⟩

set_option maxHeartbeats 1000000 in
theorem lineTo_none {w : World} {r g S : Nat} {q : List Int} (h : Holds w r g S q) (i : Nat) (hi : q.length = i + 1) :
    Calls Try.prog 31 #[.pointer (some ⟨r, 0, none⟩), .int .i64 i] w fun e w' => e = .returned (.tuple #[.slice none 0 0, .iface 54 (.int .i64 8)]) ∧ Still w w' := by
  obtain ⟨F, L, h1, h2⟩ := h
  have hS := h1.most
  have hC := h1.count
  have HH := hid h1
  go_enter Try.func31, Try.ntmps31
  go_wp2_with (go_at_call 17; refine (at_out HH.out _ (by omega)).mono ?_; rintro e w' ⟨rfl, rfl⟩)
  go_ret2
  exact ⟨rfl, Still.refl _⟩
set_option maxHeartbeats 1000000 in
theorem lineTo_form {w : World} {r g S : Nat} {q : List Int} (h : Holds w r g S q) (i : Nat) (hi : i + 1 < q.length) (hd : q.getD (i + 1) 0 ≠ 10) :
    Calls Try.prog 31 #[.pointer (some ⟨r, 0, none⟩), .int .i64 i] w fun e w' => e = .returned (.tuple #[.slice none 0 0, .iface 54 (.int .i64 3)]) ∧ Still w w' := by
  obtain ⟨F, L, h1, h2⟩ := h
  have hS := h1.most
  have hC := h1.count
  have HH := hid h1
  obtain ⟨x, HX⟩ : ∃ x, Hid ((view L F q.length).getD (i + 1) 0 = x) := ⟨_, rfl⟩
  have hx : x ≠ 10 := by rw [← HX.out, h2]; exact hd
  have at1 := at_in h1 (i + 1) hi
  rw [HX.out] at at1
  have AT := hid at1
  clear at1 h1 h2 hd
  go_enter Try.func31, Try.ntmps31
  go_wp2_with (go_at_call 17; refine AT.out.mono ?_; rintro e w' ⟨rfl, nq, rfl⟩)
  go_ret2
  exact ⟨rfl, (Still.refl _).drewN _⟩
theorem held_nat (i C : Nat) (h : i ≤ C) : held i C = i := by unfold held; (repeat' split) <;> omega
set_option maxHeartbeats 1000000 in
theorem lineTo_yes {w : World} {r g S : Nat} {q : List Int} (h : Holds w r g S q) (i : Nat) (hi : i + 1 < q.length) (hd : q.getD (i + 1) 0 = 10) :
    Calls Try.prog 31 #[.pointer (some ⟨r, 0, none⟩), .int .i64 i] w fun e w' => ∃ v, e = .returned (.tuple #[v, .nilIface]) ∧ BytesAt w.heap.size w' v (q.take i) ∧ Turn r g w w' ∧ Holds w' r g S (q.drop (i + 2)) := by
  have HQ := hid h
  have hq := h.le
  have hm := h.most
  have HE : Hid (held i q.length = i) := held_nat i _ (by omega)
  have HE2 : Hid (held 2 (q.drop i).length = 2) := held_nat 2 _ (by simp; omega)
  obtain ⟨F, L, h1, h2⟩ := h
  have at1 := at_in h1 (i + 1) hi
  rw [h2, hd] at at1
  have AT := hid at1
  clear at1 h1 h2 hd
  go_enter Try.func31, Try.ntmps31
  go_wp2_with (first
    | (go_at_call 17; refine AT.out.mono ?_; rintro e w' ⟨rfl, nq, rfl⟩)
    | (go_at_call 18; refine (hread_any (HQ.out.still ((Still.refl _).drewN nq)) i).mono ?_; rintro e w1 ⟨v, rfl, hv, ht, hh⟩; rw [HE.out] at hv hh)
    | (go_at_call 15; refine (hskip_any hh 2).mono ?_; rintro e w2 ⟨rfl, ht2, hz2, hh2⟩; rw [HE2.out] at hh2))
  go_ret2
  refine ⟨v, rfl, hv.turn ht2 HQ.out.rlt HQ.out.glt, (((Still.refl _).drewN nq).turn r g).trans (ht.trans ht2), ?_⟩
  rw [List.drop_drop] at hh2
  exact hh2

theorem lineC_of {q : List Int} {most : Int} {k : Nat} {c : Int} (h0 : 0 ≤ most) (h : scan most 0 q = (c, k)) : lineC q most = c := by
  unfold lineC
  rw [if_neg (by omega), h]
def LineInv (q : List Int) (most : Int) (k : Nat) : Prop := k ≤ q.length ∧ scan most 0 q = scan most k (q.drop k)
theorem ret_err {v : Value} {c d : Int} (h : c = d) : Ending.returned (.tuple #[v, errV d]) = .returned (.tuple #[v, errV c]) := by rw [h]
set_option maxHeartbeats 4000000 in
theorem hline_any {w : World} {r g S : Nat} {q : List Int} (h : Holds w r g S q) (most : Int) (hmost : most ≤ 9223372036854775807) :
    Calls Try.prog 16 #[.pointer (some ⟨r, 0, none⟩), .int .i64 most] w fun e w' => ∃ v, e = .returned (.tuple #[v, errV (lineC q most)]) ∧ Lined w w' r g S q most v := by
  have HQ := hid h
  by_cases hm0 : most < 0
  · have hc : lineC q most = 1 := by unfold lineC; rw [if_pos hm0]
    have HC := hid hc
    clear hc
    go_enter Try.func16, Try.ntmps16
    go_wp2
    go_ret2
    exact ⟨_, ret_err HC.out, lined_err HQ.out (Still.refl _) (by rw [HC.out]; decide)⟩
  obtain ⟨F, L, h1, h2⟩ := h
  have hS := h1.most
  have hC := h1.count
  have hF := h1.first
  have HH := hid h1
  have HV := hid h2
  obtain ⟨C, HCq⟩ : ∃ C, Hid (q.length = C) := ⟨_, rfl⟩
  rw [HCq.out] at hC
  clear h1 h2
  go_enter Try.func16, Try.ntmps16
  go_wp2_with (go_at_call 19; refine (len_any HH.out).mono ?_; rintro e w' ⟨rfl, rfl⟩; rw [HCq.out])
  go_loopw [13] (fun i W => ∃ k : Nat, i = .int .i64 k ∧ Still w' W ∧ LineInv q most k) (fun i _ => C - (intOf i).toNat)
  case atStart => exact ⟨0, rfl, Still.refl _, Nat.zero_le _, rfl⟩
  case round =>
    obtain ⟨k, rfl, hst, hinv⟩ := hrel
    rename World => wr
    by_cases hlt : k < C
    · have hrg := HH.out.still hst
      have c0 := hrg.c0
      have hltq : k < q.length := by rw [HCq.out]; exact hlt
      obtain ⟨p, hp, hpS, cp⟩ := cell_view hrg k hltq
      have HP := hid hp
      have HG := hid hrg
      obtain ⟨x, HX⟩ : ∃ x, Hid (q.getD k 0 = x) := ⟨_, rfl⟩
      rw [HV.out, HX.out] at cp
      have hlt' : (k : Int) < (C : Int) := by omega
      have HLQ := hid hltq
      clear hp hrg hltq
      by_cases h13 : x = 13
      · subst h13
        by_cases hl : C = k + 1
        · have HS : Hid (lineC q most = 8) := lineC_of (by omega) (hinv.2.trans (scan_last most q k HLQ.out HX.out (by rw [HCq.out]; exact hl)))
          have HL := hid hl
          clear hl
          go_wp2
          go_quiet ((go_at_call 29; exact Calls.quiet_of_same (spot_x HG.out _ k rfl (by omega) p HP.out _)))
          go_wp2_with (go_at_call 31; refine (lineTo_none (HQ.out.still (hst.drewN _)) k (by rw [HCq.out]; exact HL.out)).mono ?_; rintro e w2 ⟨rfl, hs2⟩)
          go_ret2
          exact ⟨_, ret_err HS.out, lined_err HQ.out ((hst.drewN _).trans hs2) (by rw [HS.out]; decide)⟩
        · have hl2 : k + 1 < C := by omega
          have HL : Hid (k + 1 < q.length) := by show _ < _; rw [HCq.out]; exact hl2
          by_cases h10 : q.getD (k + 1) 0 = 10
          · have H10 := hid h10
            have HS : Hid (scan most 0 q = (0, k)) := hinv.2.trans (scan_line most q k HL.out HX.out h10)
            clear h10
            go_wp2
            go_quiet ((go_at_call 29; exact Calls.quiet_of_same (spot_x HG.out _ k rfl (by omega) p HP.out _)))
            go_wp2_with (go_at_call 31; refine (lineTo_yes (HQ.out.still (hst.drewN _)) k HL.out H10.out).mono ?_; rintro e w2 ⟨v, rfl, hv, ht, hh⟩)
            go_ret2
            have hC0 := lineC_of (by omega) HS.out
            refine ⟨v, ret_err hC0, ?_, ((hst.drewN _).turn r g).trans ht, ?_⟩
            · unfold lineL; rw [if_pos hC0, HS.out]
              have hz : (wr.drewN nq).heap.size = w'.heap.size := by show wr.heap.size = _; rw [hst.heap]
              rw [← hz]; exact hv
            · unfold lineR; rw [if_pos hC0, HS.out]; exact hh
          · have H10 := hid h10
            have HS : Hid (lineC q most = 3) := lineC_of (by omega) (hinv.2.trans (scan_bare most q k HL.out HX.out h10))
            clear h10
            go_wp2
            go_quiet ((go_at_call 29; exact Calls.quiet_of_same (spot_x HG.out _ k rfl (by omega) p HP.out _)))
            go_wp2_with (go_at_call 31; refine (lineTo_form (HQ.out.still (hst.drewN _)) k HL.out H10.out).mono ?_; rintro e w2 ⟨rfl, hs2⟩)
            go_ret2
            exact ⟨_, ret_err HS.out, lined_err HQ.out ((hst.drewN _).trans hs2) (by rw [HS.out]; decide)⟩
      · have H13 := hid h13
        have b13 : (x == 13) = false := by simpa using h13
        clear h13
        by_cases h10 : x = 10
        · subst h10
          have HS : Hid (lineC q most = 3) := lineC_of (by omega) (hinv.2.trans (scan_form most q k HLQ.out HX.out))
          go_wp2
          go_quiet ((go_at_call 29; exact Calls.quiet_of_same (spot_x HG.out _ k rfl (by omega) p HP.out _)))
          go_wp2
          go_ret2
          exact ⟨_, ret_err HS.out, lined_err HQ.out (hst.drewN _) (by rw [HS.out]; decide)⟩
        · have H10 := hid h10
          have b10 : (x == 10) = false := by simpa using h10
          clear h10
          by_cases hm : most ≤ k
          · have HS : Hid (lineC q most = 2) := lineC_of (by omega) (hinv.2.trans (scan_long most q k HLQ.out (by rw [HX.out]; exact H13.out) (by rw [HX.out]; exact H10.out) hm))
            go_wp2
            go_quiet ((go_at_call 29; exact Calls.quiet_of_same (spot_x HG.out _ k rfl (by omega) p HP.out _)))
            go_wp2
            go_ret2
            exact ⟨_, ret_err HS.out, lined_err HQ.out (hst.drewN _) (by rw [HS.out]; decide)⟩
          · have hm' : (k : Int) < most := by omega
            have HS : Hid (LineInv q most (k + 1)) := ⟨by rw [HCq.out]; omega, hinv.2.trans (scan_next most q k HLQ.out (by rw [HX.out]; exact H13.out) (by rw [HX.out]; exact H10.out) hm)⟩
            go_wp2
            go_quiet ((go_at_call 29; exact Calls.quiet_of_same (spot_x HG.out _ k rfl (by omega) p HP.out _)))
            go_wp2
            go_roundw
            case rel => exact ⟨k + 1, by go_num, hst.drewN _, HS.out⟩
            case measure => simp [intOf]; omega
    · have hlt' : ¬ (k : Int) < (C : Int) := by omega
      have HS : Hid (lineC q most = 8) := lineC_of (by omega) (hinv.2.trans (scan_end most q k (by rw [HCq.out]; omega)))
      go_wp2
      go_ret2
      exact ⟨_, ret_err HS.out, lined_err HQ.out hst (by rw [HS.out]; decide)⟩
end Go.Proofs.Ytfiiiefhchbhlaa
