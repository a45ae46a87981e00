/- The law of the gateway's own responses. -/
import Derived.Test.YtpcfcpeokkbfmaaDoorWRLocal
namespace Go.Proofs.YtpcfcpeokkbfmaaDoor
open Go.RowKit

set_option maxRecDepth 20000 in
set_option maxHeartbeats 8000000 in
theorem wlocals_no (s k : Int) (last : Bool) (w : World) (hE : EnvP w) (hl : locB s k = false) : Calls Tryd.prog 5 #[.int .i64 s, .int .i64 k, .bool last] w fun e w' => e = .returned (.bool true) ∧ Below w.heap.size w w' := by
  have HP := hid (local_no s k last w hl)
  have HD := hid (show ∀ W : World, _ from fun W => rlocal_no s k last W hl)
  unfold respZ at HP HD
  have HRp := hid (show ∀ W : World, _ from fun W => reason_any s W)
  have HRd := hid (show ∀ W : World, _ from fun W => rreason_any s W)
  have HWk := hid (show ∀ W : World, Below w.heap.size w W → _ from fun W hb => works10_any W (hE.next hb))
  have HFs := hid (show ∀ W : World, _ from fun W => fields10_any [] [] none none 0 0 0 0 rfl rfl W (fun j f h => by simp at h) (fun j f h => by simp at h) (by decide))
  rw [decide_eq_true rfl] at HFs
  have HNm := hid (show ∀ W : World, _ from fun W => num10_any 20 W)
  rw [errOf_pos (by decide), show ((20 : Nat) : Int) = 20 from rfl] at HNm
  obtain ⟨S, hS⟩ : ∃ S, str (reasonB s) = S := ⟨_, rfl⟩
  rw [hS] at HRp HRd
  clear hS hE hl
  go_enter Tryd.func5, Tryd.ntmps5
  go_wp2_with (first | (go_at_call 24; (with_reducible refine HP.out.mono ?_); rintro e w1 ⟨rfl, hb1⟩; have hb2 := below_new w1 (.cells #[.int .i64 0, .string ⟨#[]⟩, .int .i64 0, .slice none 0 0] 26 (0, 0)); have HB2 := hid (below_out hb1 hb2); have HH2 := hid (heap_alloc_new w1 (.cells #[.int .i64 0, .string ⟨#[]⟩, .int .i64 0, .slice none 0 0] 26 (0, 0))); clear hb1 hb2 HP) | (go_at_call 25; (with_reducible refine (HD.out _).mono ?_); rintro e w3 ⟨rfl, hb3⟩; have hb4 := below_new w3 (.cells #[.int .i64 0, .string ⟨#[]⟩, .int .i64 0, .slice none 0 0] 26 (0, 0)); have HB4 := hid (below_out (below_out HB2.out hb3) hb4); have HH4 := hid (And.intro ((hb4.block _ (Nat.lt_of_lt_of_le (lt_of_heap HH2.out) hb3.size)).trans ((hb3.block _ (lt_of_heap HH2.out)).trans HH2.out)) (heap_alloc_new w3 (.cells #[.int .i64 0, .string ⟨#[]⟩, .int .i64 0, .slice none 0 0] 26 (0, 0)))); clear hb3 hb4 HD) | (go_at_call 26; (with_reducible refine (HRp.out _).mono ?_); rintro e w4 ⟨rfl, hw4⟩; subst w4) | (go_at_call 27; (with_reducible refine (HRd.out _).mono ?_); rintro e w5 ⟨rfl, hb5⟩; have HB5 := hid (below_out HB4.out hb5); obtain ⟨x0, x1, x2, x3, _⟩ := cells4 ((hb5.block _ (lt_of_heap HH4.out.1)).trans HH4.out.1); obtain ⟨y0, y1, y2, y3, _⟩ := cells4 ((hb5.block _ (lt_of_heap HH4.out.2)).trans HH4.out.2); clear hb5) | (go_at_call 14; (with_reducible refine (HFs.out _).mono ?_); rintro e w6 ⟨rfl, hb6⟩; have HB6 := hid (below_out HB5.out hb6); have hcv1 := run_convert_bytes_nil (P := Tryd.prog) w6 28 5 (by kernel_rfl) (by kernel_rfl) 0 0 9 (by kernel_rfl); clear hb6) | (go_at_call 13; (with_reducible refine (HNm.out _).mono ?_); rintro e w7 ⟨rfl, hw7⟩; subst w7) | (go_at_call 15; (with_reducible refine (HWk.out _ HB6.out).mono ?_); rintro e w9 ⟨rfl, hb9⟩; have HB9 := hid (below_out HB6.out hb9); clear hb9))
  go_ret
  exact ⟨rfl, HB9.out⟩
set_option maxRecDepth 20000 in
set_option maxHeartbeats 8000000 in
theorem wlocals_true (s k : Int) (w : World) (hE : EnvP w) (hl : locB s k = true) : Calls Tryd.prog 5 #[.int .i64 s, .int .i64 k, .bool true] w fun e w' => e = .returned (.bool true) ∧ Below w.heap.size w w' := by
  have HP := hid (local_yes_true s k w hE hl)
  have HD := hid (show ∀ W : World, _ from fun W => rlocal_yes_true s k W hl)
  have HFl := hid (show (fldL s true).length = 3 from rfl)
  have HRp := hid (show ∀ W : World, _ from fun W => reason_any s W)
  have HRd := hid (show ∀ W : World, _ from fun W => rreason_any s W)
  have HWk := hid (show ∀ W : World, Below w.heap.size w W → _ from fun W hb => works10_any W (hE.next hb))
  have HFs := hid (show ∀ (W : World) (p p' : Option Addr) (c c' : Nat), FAt W p (fldL s true) → FAt W p' (fldL s true) → _ from fun W p p' c c' h h' => fields10_any (fldL s true) (fldL s true) p p' 3 3 c c' rfl rfl W h h' (by decide))
  rw [decide_eq_true rfl] at HFs
  have HNm := hid (show ∀ W : World, _ from fun W => num10_any 0 W)
  rw [errOf_zero, show ((0 : Nat) : Int) = 0 from rfl] at HNm
  have HCv := hid (show ∀ (W : World) (g d : Nat), ArgAt W (some ⟨g, 0, none⟩) (bodyL s) → _ from fun W g d h => conv_arg (c := d) h)
  obtain ⟨Z, hZ⟩ : ∃ Z, str (bodyL s) = Z := ⟨_, rfl⟩
  rw [hZ] at HCv
  obtain ⟨L, hL⟩ : ∃ L, (bodyL s).length = L := ⟨_, rfl⟩
  rw [hL] at HP HD HCv
  clear hZ hL
  obtain ⟨S, hS⟩ : ∃ S, str (reasonB s) = S := ⟨_, rfl⟩
  rw [hS] at HRp HRd HP HD
  clear hS hE hl
  go_enter Tryd.func5, Tryd.ntmps5
  go_wp2_with (first | (go_at_call 24; (with_reducible refine HP.out.mono ?_); rintro e w1 ⟨p1, c1, g1, d1, rfl, hF1, hA1, hb1⟩; have hb2 := below_new w1 (.cells #[.int .i64 s, .string S, .int .i64 k, .slice p1 3 c1] 26 (0, 0)); have HB2 := hid (below_out hb1 hb2); have HF2 := hid (hF1.next hb2); have HA2 := hid (hA1.next hb2); have HH2 := hid (heap_alloc_new w1 (.cells #[.int .i64 s, .string S, .int .i64 k, .slice p1 3 c1] 26 (0, 0))); clear hb1 hb2 hF1 hA1 HP) | (go_at_call 25; (with_reducible refine (HD.out _).mono ?_); rintro e w3 ⟨p3, c3, g3, d3, rfl, hF3, hA3, hb3⟩; have hb4 := below_new w3 (.cells #[.int .i64 s, .string S, .int .i64 k, .slice p3 3 c3] 26 (0, 0)); have HB4 := hid (below_out (below_out HB2.out hb3) hb4); have HF4 := hid (And.intro ((HF2.out.next hb3).next hb4) (hF3.next hb4)); have HA4 := hid (And.intro ((HA2.out.next hb3).next hb4) (hA3.next hb4)); have HH4 := hid (And.intro ((hb4.block _ (Nat.lt_of_lt_of_le (lt_of_heap HH2.out) hb3.size)).trans ((hb3.block _ (lt_of_heap HH2.out)).trans HH2.out)) (heap_alloc_new w3 (.cells #[.int .i64 s, .string S, .int .i64 k, .slice p3 3 c3] 26 (0, 0)))); clear hb3 hb4 hF3 hA3 HD) | (go_at_call 26; (with_reducible refine (HRp.out _).mono ?_); rintro e w4 ⟨rfl, hw4⟩; subst w4) | (go_at_call 27; (with_reducible refine (HRd.out _).mono ?_); rintro e w5 ⟨rfl, hb5⟩; have HB5 := hid (below_out HB4.out hb5); have HF5 := hid (HFs.out _ p1 p3 c1 c3 (HF4.out.1.next hb5) (HF4.out.2.next hb5)); have HA5 := hid (And.intro (HA4.out.1.next hb5) (HA4.out.2.next hb5)); obtain ⟨x0, x1, x2, x3, _⟩ := cells4 ((hb5.block _ (lt_of_heap HH4.out.1)).trans HH4.out.1); obtain ⟨y0, y1, y2, y3, _⟩ := cells4 ((hb5.block _ (lt_of_heap HH4.out.2)).trans HH4.out.2); clear hb5) | (go_at_call 14; (with_reducible refine HF5.out.mono ?_); rintro e w6 ⟨rfl, hb6⟩; have HB6 := hid (below_out HB5.out hb6); have hcv1 := HCv.out w6 g1 d1 (HA5.out.1.next hb6); have hcv2 := HCv.out w6 g3 d3 (HA5.out.2.next hb6); clear hb6) | (go_at_call 13; (with_reducible refine (HNm.out _).mono ?_); rintro e w7 ⟨rfl, hw7⟩; subst w7) | (go_at_call 15; (with_reducible refine (HWk.out _ HB6.out).mono ?_); rintro e w9 ⟨rfl, hb9⟩; have HB9 := hid (below_out HB6.out hb9); clear hb9))
  go_ret
  exact ⟨rfl, HB9.out⟩
set_option maxRecDepth 20000 in
set_option maxHeartbeats 8000000 in
theorem wlocals_false (s k : Int) (w : World) (hE : EnvP w) (hl : locB s k = true) : Calls Tryd.prog 5 #[.int .i64 s, .int .i64 k, .bool false] w fun e w' => e = .returned (.bool true) ∧ Below w.heap.size w w' := by
  have HP := hid (local_yes_false s k w hE hl)
  have HD := hid (show ∀ W : World, _ from fun W => rlocal_yes_false s k W hl)
  have HFl := hid (show (fldL s false).length = 2 from rfl)
  have HRp := hid (show ∀ W : World, _ from fun W => reason_any s W)
  have HRd := hid (show ∀ W : World, _ from fun W => rreason_any s W)
  have HWk := hid (show ∀ W : World, Below w.heap.size w W → _ from fun W hb => works10_any W (hE.next hb))
  have HFs := hid (show ∀ (W : World) (p p' : Option Addr) (c c' : Nat), FAt W p (fldL s false) → FAt W p' (fldL s false) → _ from fun W p p' c c' h h' => fields10_any (fldL s false) (fldL s false) p p' 2 2 c c' rfl rfl W h h' (by decide))
  rw [decide_eq_true rfl] at HFs
  have HNm := hid (show ∀ W : World, _ from fun W => num10_any 0 W)
  rw [errOf_zero, show ((0 : Nat) : Int) = 0 from rfl] at HNm
  have HCv := hid (show ∀ (W : World) (g d : Nat), ArgAt W (some ⟨g, 0, none⟩) (bodyL s) → _ from fun W g d h => conv_arg (c := d) h)
  obtain ⟨Z, hZ⟩ : ∃ Z, str (bodyL s) = Z := ⟨_, rfl⟩
  rw [hZ] at HCv
  obtain ⟨L, hL⟩ : ∃ L, (bodyL s).length = L := ⟨_, rfl⟩
  rw [hL] at HP HD HCv
  clear hZ hL
  obtain ⟨S, hS⟩ : ∃ S, str (reasonB s) = S := ⟨_, rfl⟩
  rw [hS] at HRp HRd HP HD
  clear hS hE hl
  go_enter Tryd.func5, Tryd.ntmps5
  go_wp2_with (first | (go_at_call 24; (with_reducible refine HP.out.mono ?_); rintro e w1 ⟨p1, c1, g1, d1, rfl, hF1, hA1, hb1⟩; have hb2 := below_new w1 (.cells #[.int .i64 s, .string S, .int .i64 k, .slice p1 2 c1] 26 (0, 0)); have HB2 := hid (below_out hb1 hb2); have HF2 := hid (hF1.next hb2); have HA2 := hid (hA1.next hb2); have HH2 := hid (heap_alloc_new w1 (.cells #[.int .i64 s, .string S, .int .i64 k, .slice p1 2 c1] 26 (0, 0))); clear hb1 hb2 hF1 hA1 HP) | (go_at_call 25; (with_reducible refine (HD.out _).mono ?_); rintro e w3 ⟨p3, c3, g3, d3, rfl, hF3, hA3, hb3⟩; have hb4 := below_new w3 (.cells #[.int .i64 s, .string S, .int .i64 k, .slice p3 2 c3] 26 (0, 0)); have HB4 := hid (below_out (below_out HB2.out hb3) hb4); have HF4 := hid (And.intro ((HF2.out.next hb3).next hb4) (hF3.next hb4)); have HA4 := hid (And.intro ((HA2.out.next hb3).next hb4) (hA3.next hb4)); have HH4 := hid (And.intro ((hb4.block _ (Nat.lt_of_lt_of_le (lt_of_heap HH2.out) hb3.size)).trans ((hb3.block _ (lt_of_heap HH2.out)).trans HH2.out)) (heap_alloc_new w3 (.cells #[.int .i64 s, .string S, .int .i64 k, .slice p3 2 c3] 26 (0, 0)))); clear hb3 hb4 hF3 hA3 HD) | (go_at_call 26; (with_reducible refine (HRp.out _).mono ?_); rintro e w4 ⟨rfl, hw4⟩; subst w4) | (go_at_call 27; (with_reducible refine (HRd.out _).mono ?_); rintro e w5 ⟨rfl, hb5⟩; have HB5 := hid (below_out HB4.out hb5); have HF5 := hid (HFs.out _ p1 p3 c1 c3 (HF4.out.1.next hb5) (HF4.out.2.next hb5)); have HA5 := hid (And.intro (HA4.out.1.next hb5) (HA4.out.2.next hb5)); obtain ⟨x0, x1, x2, x3, _⟩ := cells4 ((hb5.block _ (lt_of_heap HH4.out.1)).trans HH4.out.1); obtain ⟨y0, y1, y2, y3, _⟩ := cells4 ((hb5.block _ (lt_of_heap HH4.out.2)).trans HH4.out.2); clear hb5) | (go_at_call 14; (with_reducible refine HF5.out.mono ?_); rintro e w6 ⟨rfl, hb6⟩; have HB6 := hid (below_out HB5.out hb6); have hcv1 := HCv.out w6 g1 d1 (HA5.out.1.next hb6); have hcv2 := HCv.out w6 g3 d3 (HA5.out.2.next hb6); clear hb6) | (go_at_call 13; (with_reducible refine (HNm.out _).mono ?_); rintro e w7 ⟨rfl, hw7⟩; subst w7) | (go_at_call 15; (with_reducible refine (HWk.out _ HB6.out).mono ?_); rintro e w9 ⟨rfl, hb9⟩; have HB9 := hid (below_out HB6.out hb9); clear hb9))
  go_ret
  exact ⟨rfl, HB9.out⟩
theorem wlocals_walk (s k : Int) (last : Bool) (w : World) (hE : EnvP w) : Calls Tryd.prog 5 #[.int .i64 s, .int .i64 k, .bool last] w fun e w' => e = .returned (.bool true) ∧ Below w.heap.size w w' := by
  cases hl : locB s k with
  | false => exact wlocals_no s k last w hE hl
  | true =>
    cases last with
    | true => exact wlocals_true s k w hE hl
    | false => exact wlocals_false s k w hE hl
end Go.Proofs.YtpcfcpeokkbfmaaDoor
