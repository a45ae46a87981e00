/- Patterns of whatever length: what is longer than any pattern is none. -/
import Derived.Test.YtdjjkcpnjocafaaDoorTLFill
namespace Go.Proofs.YtdjjkcpnjocafaaDoor
open Go.RowKit

set_option maxRecDepth 20000 in
set_option maxHeartbeats 4000000 in
theorem hasp_liteW (x : UInt8) (s : B) (hs : s.length ≤ 9223372036854775807) (w : World) : Calls Tryd.prog 65 #[.string (str s), .string ⟨#[x]⟩] w fun e w' => e = .returned (.bool (begB x s)) ∧ w' = w := by
  cases s with
  | nil =>
    show Calls Tryd.prog 65 #[.string ⟨#[]⟩, .string ⟨#[x]⟩] w _
    have hz : (⟨#[x]⟩ : ByteArray).size = 1 := rfl
    obtain ⟨X, hX⟩ : ∃ X : ByteArray, ⟨#[x]⟩ = X := ⟨_, rfl⟩
    rw [hX] at hz ⊢
    clear hX
    go_enter Tryd.func65, Tryd.ntmps65
    go_wp2
    go_ret
    exact ⟨rfl, rfl⟩
  | cons b t =>
    obtain ⟨m, hm⟩ : ∃ m, t.length = m := ⟨_, rfl⟩
    have hm2 : m ≤ 9223372036854775807 := by rw [← hm]; simp at hs; omega
    obtain ⟨S, hS⟩ : ∃ S, str (b :: t) = S := ⟨_, rfl⟩
    have hSn : S.size = m + 1 := by rw [← hS, str_size, ← hm]; rfl
    have hx1 : S.extract 0 1 = str [b] := by rw [← hS, ext_str]; rfl
    obtain ⟨X, hX⟩ : ∃ X : ByteArray, ⟨#[x]⟩ = X := ⟨_, rfl⟩
    have hz : X.size = 1 := by rw [← hX]; rfl
    by_cases hc : b = x
    · have hx2 : S.extract 0 1 = X := by rw [hx1, hc]; exact hX
      have hv : begB x (b :: t) = true := decide_eq_true hc
      rw [hv, hS, hX]
      clear hS hX hc hv hm hx1
      go_enter Tryd.func65, Tryd.ntmps65
      go_wp2
      go_ret
      exact ⟨rfl, rfl⟩
    · have hx2 : ¬ S.extract 0 1 = X := fun e => hc (by
        rw [hx1, ← hX] at e
        have := congrArg (fun a : ByteArray => a.data.toList) e
        simpa using this)
      have hx3 : ((S.extract 0 1).toList == X.toList) = false := ne_list hx2
      have hv : begB x (b :: t) = false := decide_eq_false hc
      rw [hv, hS, hX]
      clear hS hX hc hv hm hx1
      go_enter Tryd.func65, Tryd.ntmps65
      go_wp2
      go_ret
      exact ⟨rfl, rfl⟩
set_option maxRecDepth 20000 in
set_option maxHeartbeats 4000000 in
theorem hasp_anyW (x : UInt8) (s : B) (hs : s.length ≤ 9223372036854775807) (w : World) : Calls Tryd.prog 49 #[.string (str s), .string ⟨#[x]⟩] w fun e w' => e = .returned (.bool (begB x s)) ∧ w' = w := by
  have HL := hid (fun W : World => hasp_liteW x s hs W)
  obtain ⟨S, hS⟩ : ∃ S, str s = S := ⟨_, rfl⟩
  obtain ⟨X, hX⟩ : ∃ X : ByteArray, ⟨#[x]⟩ = X := ⟨_, rfl⟩
  rw [hS, hX] at HL ⊢
  go_enter Tryd.func49, Tryd.ntmps49
  go_wp2_with (go_at_call 65; (with_reducible refine (HL.out _).mono ?_); rintro e w1 ⟨rfl, hw1⟩; subst w1)
  go_ret
  exact ⟨rfl, rfl⟩
set_option maxRecDepth 20000 in
set_option maxHeartbeats 4000000 in
theorem begins_anyW (s : B) (hs : s.length ≤ 9223372036854775807) (w : World) : Calls Tryd.prog 34 #[.string (str s)] w fun e w' => e = .returned (.bool (begB 47 s)) ∧ w' = w := by
  have HL := hid (fun W : World => hasp_anyW 47 s hs W)
  obtain ⟨S, hS⟩ : ∃ S, str s = S := ⟨_, rfl⟩
  rw [hS] at HL ⊢
  go_enter Tryd.func34, Tryd.ntmps34
  go_wp2_with (go_at_call 49; (with_reducible refine (HL.out _).mono ?_); rintro e w1 ⟨rfl, hw1⟩; subst w1)
  go_ret
  exact ⟨rfl, rfl⟩
theorem check_lng {p : B} (h : 256 < p.length) : checkP p = false := by
  cases hc : checkP p with
  | false => rfl
  | true =>
    obtain ⟨t, _, _, h2, _⟩ := check_parts hc
    omega
set_option maxRecDepth 20000 in
set_option maxHeartbeats 4000000 in
theorem seg_lng (p : B) (hp : p.length ≤ 9223372036854775807) (h : 256 < p.length) (w : World) : Calls Tryd.prog 26 #[.string (str p)] w fun e w' => e = .returned (.tuple #[.slice none 0 0, err3]) ∧ w' = w := by
  have HBg := hid (fun W : World => begins_anyW p hp W)
  obtain ⟨N, hN⟩ : ∃ N, p.length = N := ⟨_, rfl⟩
  obtain ⟨S, hS⟩ : ∃ S, str p = S := ⟨_, rfl⟩
  have hSn : S.size = N := by rw [← hS, str_size, hN]
  rw [hN] at h hp
  have h256' : (256 : Int) < (N : Int) := by omega
  rw [hS] at HBg ⊢
  obtain ⟨bb, hbb⟩ : ∃ x, begB 47 p = x := ⟨_, rfl⟩
  rw [hbb] at HBg
  clear hS hbb hN
  cases bb with
  | false =>
    go_enter Tryd.func26, Tryd.ntmps26
    go_wp2_with (go_at_call 34; (with_reducible refine (HBg.out _).mono ?_); rintro e w1 ⟨rfl, hw1⟩; subst w1)
    go_ret2
    exact ⟨rfl, rfl⟩
  | true =>
    go_enter Tryd.func26, Tryd.ntmps26
    go_wp2_with (go_at_call 34; (with_reducible refine (HBg.out _).mono ?_); rintro e w1 ⟨rfl, hw1⟩; subst w1)
    go_ret2
    exact ⟨rfl, rfl⟩
set_option maxRecDepth 20000 in
set_option maxHeartbeats 4000000 in
theorem check_wide (p : B) (hp : p.length ≤ 9223372036854775807) (hc : checkP p = false) (w : World) (hmx : MxAt w) : Calls Tryd.prog 11 #[.string (str p)] w fun e w' => e = .returned err3 ∧ Below w.heap.size w w' := by
  by_cases h : 256 < p.length
  · have H := hid (seg_lng p hp h w)
    obtain ⟨S, hS⟩ : ∃ S, str p = S := ⟨_, rfl⟩
    rw [hS] at H ⊢
    clear hS hc hp hmx h
    go_enter Tryd.func11, Tryd.ntmps11
    go_wp2_with (go_at_call 26; (with_reducible refine H.out.mono ?_); rintro e w1 ⟨rfl, hw1⟩; subst w1)
    go_ret
    exact ⟨rfl, Below.refl _ _⟩
  · have h9 := check_any p (by omega) w hmx
    rw [hc, if_neg (by decide)] at h9
    exact h9
set_option maxRecDepth 20000 in
set_option maxHeartbeats 8000000 in
theorem filled_noW (p : B) (hp : p.length ≤ 9223372036854775807) (hc : checkP p = false) (v : Value) (w : World) (hmx : MxAt w) : Calls Tryd.prog 6 #[.string (str p), v] w fun e w' => e = .returned (.bool true) ∧ Below w.heap.size w w' := by
  have HCk := hid (fun (W : World) (h : MxAt W) => check_wide p hp hc W h)
  have HSu := hid (fun (W : World) (h : MxAt W) => sure_any W h)
  have HMx := hid hmx
  obtain ⟨S, hS⟩ : ∃ S, str p = S := ⟨_, rfl⟩
  rw [hS] at HCk ⊢
  clear hS hc hmx
  go_enter Tryd.func6, Tryd.ntmps6
  go_wp2_with (first | (go_at_call 11; first | ((with_reducible refine (HCk.out _ HMx.out).mono ?_); rintro e w1 ⟨rfl, hb1⟩; have HB1 := hid hb1; have HM1 := hid (HMx.out.next hb1); clear hb1) | ((with_reducible refine (HCk.out _ HM1.out).mono ?_); rintro e w2 ⟨rfl, hb2⟩; have HB2 := hid (below_out HB1.out hb2); have HM2 := hid (HM1.out.next hb2); clear hb2)) | (go_at_call 19; (with_reducible refine (HSu.out _ HM2.out).mono ?_); rintro e w3 ⟨rfl, hb3⟩; have HB3 := hid (below_out HB2.out hb3); clear hb3))
  go_ret
  exact ⟨rfl, HB3.out⟩
end Go.Proofs.YtdjjkcpnjocafaaDoor
