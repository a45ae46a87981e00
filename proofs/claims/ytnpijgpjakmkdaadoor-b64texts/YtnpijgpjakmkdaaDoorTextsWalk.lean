/- The law B64Texts returns true for all bytes (up to 2^47 of them), every byte and every whole number, where errors.errorType is laid. -/
import Derived.Test.YtnpijgpjakmkdaaDoorReadsWalk
namespace Go.Proofs.YtnpijgpjakmkdaaDoor
open Go.RowKit

theorem ret_ii {a b x y : Int} (h : a = b) (g : x = y) : Ending.returned (.tuple #[.int .i64 a, .int .i64 x]) = .returned (.tuple #[.int .i64 b, .int .i64 y]) := by rw [h, g]
theorem refLen_any (n : Int) (w : World) : Calls Tryd.prog 8 #[.int .i64 n] w fun e w' => e = .returned (.tuple #[.int .i64 (lenV n), .int .i64 (lenE n)]) ∧ w' = w := by
  by_cases hn : n < 0 ∨ n > 1099511627776
  · rw [lenV, lenE, if_pos hn, if_pos hn]
    go_enter Tryd.func8, Tryd.ntmps8
    rcases hn with hn | hn
    · go_wp2
      go_ret2
      exact ⟨rfl, rfl⟩
    · have hn' : ¬ n < 0 := by omega
      go_wp2
      go_ret2
      exact ⟨rfl, rfl⟩
  · rw [lenV, lenE, if_neg hn, if_neg hn]
    have h0 : 0 ≤ n := by omega
    have h1 : n ≤ 1099511627776 := by omega
    clear hn
    go_enter Tryd.func8, Tryd.ntmps8
    go_wp2
    go_ret2
    exact ⟨rfl, rfl⟩
set_option maxRecDepth 20000 in
set_option maxHeartbeats 4000000 in
theorem texts_walk (p : Option Addr) (N c : Nat) (bs : List Int) (x n : Int) (w : World) (hE : ErrAt w) (hv : ArgAt w (.slice p N c) bs) (hN : bs.length = N) (ho : Oct bs) (hM : N ≤ 140737488355328) (hx0 : 0 ≤ x) (hx1 : x < 256) :
    Calls Tryd.prog 3 #[.slice p N c, .int .u8 x, .int .i64 n] w fun e w' => e = .returned (.bool true) ∧ Below w.heap.size w w' := by
  have HE := hid hE
  have HV := hid hv
  have HN := hid hN
  have HO := hid ho
  have HM : Hid (bs.length ≤ 140737488355328) := by show _ ≤ _; omega
  have HX : Hid (0 ≤ x ∧ x < 256) := ⟨hx0, hx1⟩
  obtain ⟨V, HVV⟩ : ∃ V, Hid ((val x).getD 0 = V) := ⟨_, hid rfl⟩
  obtain ⟨B, HB⟩ : ∃ B, Hid ((val x).isSome = B) := ⟨_, hid rfl⟩
  obtain ⟨LV, HLV⟩ : ∃ B, Hid (lenV n = B) := ⟨_, hid rfl⟩
  obtain ⟨LE, HLE⟩ : ∃ B, Hid (lenE n = B) := ⟨_, hid rfl⟩
  obtain ⟨S, HS⟩ : ∃ B, Hid (strOfNums (textL bs) = B) := ⟨_, hid rfl⟩
  clear hE hv hN ho hM hx0 hx1
  go_enter Tryd.func3, Tryd.ntmps3
  go_wp2_with (first
    | (go_at_call 5; (with_reducible refine (digit_any x HX.out.1 HX.out.2 _).mono ?_); rintro e w' ⟨rfl, hw'⟩; have hw2 := hw'.symm; subst hw2; rw [HVV.out, HB.out])
    | (go_at_call 6; (with_reducible refine (refDigit_any x _).mono ?_); rintro e w' ⟨rfl, hw'⟩; have hw2 := hw'.symm; subst hw2; rw [HVV.out, HB.out])
    | (go_at_call 7; (with_reducible refine (len_any n _).mono ?_); rintro e w' ⟨rfl, hw'⟩; have hw2 := hw'.symm; subst hw2; rw [HLV.out, HLE.out])
    | (go_at_call 8; (with_reducible refine (refLen_any n _).mono ?_); rintro e w' ⟨rfl, hw'⟩; have hw2 := hw'.symm; subst hw2; rw [HLV.out, HLE.out])
    | (refine wpList_append_bytes rfl _ _ rfl rfl _ rfl bs HV.out HM.out ?_; intro p1 c1 w1 hm1; have M1 := hid hm1; clear hm1)
    | (go_at_call 9; (with_reducible refine (encode_any M1.out.arg HO.out HM.out).mono ?_); rintro e w2 ⟨rfl, hb2⟩; rw [HS.out]; have HB2 := hid (M1.out.below.trans (hb2.mono M1.out.below.size)); clear hb2 M1)
    | (go_at_call 10; (with_reducible refine (refEncode_any (HV.out.below HB2.out) HO.out HM.out).mono ?_); rintro e w3 ⟨rfl, hb3⟩; rw [HS.out]; have HB3 := hid (HB2.out.trans (hb3.mono HB2.out.size)); clear hb3 HB2)
    | (go_at_call 11; (with_reducible refine (num_any _ _ (HE.out.below HB3.out)).mono ?_); rintro e w4 ⟨rfl, hb4⟩; have HB4 := hid (HB3.out.trans (hb4.mono HB3.out.size)); clear hb4 HB3)
    | (go_at_call 12; (with_reducible refine (sure_any _).mono ?_); rintro e w5 ⟨rfl, hb5⟩; have HB5 := hid (HB4.out.trans (hb5.mono HB4.out.size)); clear hb5 HB4))
  go_ret
  exact ⟨rfl, HB5.out⟩
end Go.Proofs.YtnpijgpjakmkdaaDoor
