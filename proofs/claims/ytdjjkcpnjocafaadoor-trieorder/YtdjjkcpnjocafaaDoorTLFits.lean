/- The law TrieFits: the program's answers are the document's. -/
import Derived.Test.YtdjjkcpnjocafaaDoorTBeats
namespace Go.Proofs.YtdjjkcpnjocafaaDoor
open Go.RowKit

theorem fat_nil (w : World) : FAt w none [] := fun j f h => by simp at h
theorem ownF_cap {w : World} {b n c : Nat} {p : Option Addr} {fs : List (B × B)} (h : OwnF w b (.slice p n c) fs) : n ≤ c := by
  rcases h.2 with ⟨h1, _⟩ | ⟨g, cap, cur, h1, _, _, h4, _⟩
  · injection h1; omega
  · injection h1 with _ h5 h6
    omega
theorem fitsT_len : ∀ (l r : List B) (F : List (B × B)), fitsT l r = some F → F.length ≤ l.length
  | [], [], F, h => by simp [fitsT] at h; subst h; exact Nat.le_refl _
  | [], _ :: _, F, h => by simp [fitsT] at h
  | _ :: _, [], F, h => by simp [fitsT] at h
  | x :: l, y :: r, F, h => by
    unfold fitsT at h
    split at h
    · injection h with h; subst h; simp
    · split at h
      · split at h
        · cases h
        · cases hf : fitsT l r with
          | none => rw [hf] at h; cases h
          | some F2 =>
            rw [hf] at h
            have := fitsT_len l r F2 hf
            injection h with h
            subst h
            simp
            omega
      · split at h
        · have := fitsT_len l r F h
          simp
          omega
        · cases h
theorem fits_few {a path : B} {F : List (B × B)} (h : fitsO a path = some (some F)) : F.length ≤ 64 := by
  have hc := fitsO_check h
  obtain ⟨t, e, h64, _⟩ := check_parts hc
  unfold fitsO at h
  split at h
  · injection h with h
    have := fitsT_len _ _ F h
    rw [e] at this
    exact Nat.le_trans this h64
  · cases h
theorem beats_cases (a b path : B) : (beatsO a b path).2 = 0 ∨ (beatsO a b path).2 = 3 ∨ (beatsO a b path).2 = 8 := by
  unfold beatsO
  split <;> simp
set_option maxRecDepth 20000 in
set_option maxHeartbeats 8000000 in
theorem trieFits_any (a b path : B) (ha : a.length ≤ 4398046511104) (hb : b.length ≤ 4398046511104) (hp : path.length ≤ 4294967280) (w : World) (hmx : MxAt w) (hE : EnvE w) :
    Calls Tryd.prog 4 #[.string (str a), .string (str b), .string (str path)] w fun e w' => e = .returned (.bool true) ∧ Below w.heap.size w w' := by
  have HMx := hid hmx
  have HE := hid hE
  have HFp := hid (fun (W : World) (h : MxAt W) => fits_any a path (by omega) (by omega) W h)
  have HFd := hid (fun (W : World) => rfitsO_any a path ha hp W)
  have HBp := hid (fun (W : World) (h : MxAt W) => beats_any a b path (by omega) (by omega) (by omega) W h)
  have HBd := hid (fun (W : World) (h : MxAt W) => rbeats_any a b path ha hb hp W h)
  have HSu := hid (fun (W : World) (h : MxAt W) => sure_any W h)
  have HN := hid (fun (k : Nat) (W : World) (h : EnvE W) => num_any k W h)
  obtain ⟨k2, hk2⟩ : ∃ k, (beatsO a b path).2 = k := ⟨_, rfl⟩
  obtain ⟨bb, hbb⟩ : ∃ x, (beatsO a b path).1 = x := ⟨_, rfl⟩
  rw [hk2, hbb] at HBp HBd
  obtain ⟨SA, hSA⟩ : ∃ S, str a = S := ⟨_, rfl⟩
  obtain ⟨SB, hSB⟩ : ∃ S, str b = S := ⟨_, rfl⟩
  obtain ⟨SP, hSP⟩ : ∃ S, str path = S := ⟨_, rfl⟩
  rw [hSA, hSP] at HFp HFd
  rw [hSA, hSB, hSP] at HBp HBd
  rw [hSA, hSB, hSP]
  have HN2 := hid (fun (W : World) (h : EnvE W) => num_any k2 W h)
  obtain ⟨V2, hV2⟩ : ∃ V, errOf k2 = V := ⟨_, rfl⟩
  rw [hV2] at HBp HN2
  have hk8 : k2 ≤ 8 := by rw [← hk2]; rcases beats_cases a b path with h | h | h <;> omega
  clear hk2 hbb hSA hSB hSP ha hb hp hmx hE hV2
  have HLbb := hid (fun (F : List (B × B)) (h : fitsO a path = some (some F)) => fits_few h)
  rcases ho : fitsO a path with _ | (_ | F)
  · rw [ho] at HFp HFd
    have HN1 := hid (fun (W : World) (h : EnvE W) => num_any 3 W h)
    rw [errOf3] at HN1
    go_enter Tryd.func4, Tryd.ntmps4
    go_wp2_with (first | (go_at_call 20; (with_reducible refine (HFp.out _ HMx.out).mono ?_); rintro e w1 ⟨hb1, rfl⟩; have HB1 := hid hb1; have HM1 := hid (HMx.out.next hb1); clear hb1) | (go_at_call 21; (with_reducible refine (HFd.out _).mono ?_); rintro e w2 ⟨hb2, rfl⟩; have HB2 := hid (below_out HB1.out hb2); have HM2 := hid (HM1.out.next hb2); clear hb2) | (go_at_call 22; (with_reducible refine (HBp.out _ HM2.out).mono ?_); rintro e w3 ⟨rfl, hb3⟩; have HB32 := hid hb3; have HB3 := hid (below_out HB2.out hb3); have HM3 := hid (HM2.out.next hb3); clear hb3) | (go_at_call 23; (with_reducible refine (HBd.out _ HM3.out).mono ?_); rintro e w4 ⟨rfl, hb4⟩; have HB42 := hid (below_out HB32.out hb4); have HB4 := hid (below_out HB3.out hb4); have HM4 := hid (HM3.out.next hb4); have HE4 := hid (HE.out.next HB4.out); clear hb4) | (go_at_call 15; (with_reducible refine (fields_same [] none none 0 0 0 rfl _ (fat_nil _) (fat_nil _) (by omega)).mono ?_); rintro e w5 ⟨rfl, hb5⟩; have HB5 := hid (below_out HB4.out hb5); have HM5 := hid (HM4.out.next hb5); have HE5 := hid (HE4.out.next hb5); clear hb5) | (go_at_call 10; first | ((with_reducible refine (HN1.out _ HE5.out).mono ?_); rintro e w6 ⟨rfl, hb6⟩; have HB6 := hid (below_out HB5.out hb6); have HM6 := hid (HM5.out.next hb6); have HE6 := hid (HE5.out.next hb6); clear hb6 HE5) | ((with_reducible refine (HN2.out _ HE6.out).mono ?_); rintro e w7 ⟨rfl, hb7⟩; have HB7 := hid (below_out HB6.out hb7); have HM7 := hid (HM6.out.next hb7); clear hb7)) | (go_at_call 19; (with_reducible refine (HSu.out _ HM7.out).mono ?_); rintro e w8 ⟨rfl, hb8⟩; have HB8 := hid (below_out HB7.out hb8); clear hb8))
    go_ret
    exact ⟨rfl, HB8.out⟩
  · rw [ho] at HFp HFd
    have HN1 := hid (fun (W : World) (h : EnvE W) => num_any 0 W h)
    rw [errOf_zero] at HN1
    go_enter Tryd.func4, Tryd.ntmps4
    go_wp2_with (first | (go_at_call 20; (with_reducible refine (HFp.out _ HMx.out).mono ?_); rintro e w1 ⟨hb1, rfl⟩; have HB1 := hid hb1; have HM1 := hid (HMx.out.next hb1); clear hb1) | (go_at_call 21; (with_reducible refine (HFd.out _).mono ?_); rintro e w2 ⟨hb2, rfl⟩; have HB2 := hid (below_out HB1.out hb2); have HM2 := hid (HM1.out.next hb2); clear hb2) | (go_at_call 22; (with_reducible refine (HBp.out _ HM2.out).mono ?_); rintro e w3 ⟨rfl, hb3⟩; have HB32 := hid hb3; have HB3 := hid (below_out HB2.out hb3); have HM3 := hid (HM2.out.next hb3); clear hb3) | (go_at_call 23; (with_reducible refine (HBd.out _ HM3.out).mono ?_); rintro e w4 ⟨rfl, hb4⟩; have HB42 := hid (below_out HB32.out hb4); have HB4 := hid (below_out HB3.out hb4); have HM4 := hid (HM3.out.next hb4); have HE4 := hid (HE.out.next HB4.out); clear hb4) | (go_at_call 15; (with_reducible refine (fields_same [] none none 0 0 0 rfl _ (fat_nil _) (fat_nil _) (by omega)).mono ?_); rintro e w5 ⟨rfl, hb5⟩; have HB5 := hid (below_out HB4.out hb5); have HM5 := hid (HM4.out.next hb5); have HE5 := hid (HE4.out.next hb5); clear hb5) | (go_at_call 10; first | ((with_reducible refine (HN1.out _ HE5.out).mono ?_); rintro e w6 ⟨rfl, hb6⟩; have HB6 := hid (below_out HB5.out hb6); have HM6 := hid (HM5.out.next hb6); have HE6 := hid (HE5.out.next hb6); clear hb6 HE5) | ((with_reducible refine (HN2.out _ HE6.out).mono ?_); rintro e w7 ⟨rfl, hb7⟩; have HB7 := hid (below_out HB6.out hb7); have HM7 := hid (HM6.out.next hb7); clear hb7)) | (go_at_call 19; (with_reducible refine (HSu.out _ HM7.out).mono ?_); rintro e w8 ⟨rfl, hb8⟩; have HB8 := hid (below_out HB7.out hb8); clear hb8))
    go_ret
    exact ⟨rfl, HB8.out⟩
  · rw [ho] at HFp HFd
    have HN1 := hid (fun (W : World) (h : EnvE W) => num_any 0 W h)
    rw [errOf_zero] at HN1
    obtain ⟨L, hL⟩ : ∃ L, F.length = L := ⟨_, rfl⟩
    have HLL := hid hL
    have HP2 := hid (fun (W : World) (h : MxAt W) => (HFp.out W h).mono (R' := fun e w' => Below W.heap.size W w' ∧ ∃ q d, e = .returned (.tuple #[.bool true, .slice q L d, .nilIface]) ∧ FAt w' q F ∧ L ≤ d) (by rintro e w' ⟨h1, q, d, h3, h4⟩; rw [hL] at h3 h4; exact ⟨h1, q, d, h3, h4.fat, ownF_cap h4⟩))
    have HD2 := hid (fun (W : World) => (HFd.out W).mono (R' := fun e w' => Below W.heap.size W w' ∧ ∃ q d, e = .returned (.tuple #[.bool true, .slice q L d, .int .i64 0]) ∧ FAt w' q F ∧ L ≤ d) (by rintro e w' ⟨h1, q, d, h3, h4⟩; rw [hL] at h3 h4; exact ⟨h1, q, d, h3, h4.fat, ownF_cap h4⟩))
    have hLb : L ≤ 140737488355328 := by rw [← hL]; exact Nat.le_trans (HLbb.out F ho) (by decide)
    clear ho
    go_enter Tryd.func4, Tryd.ntmps4
    go_wp2_with (first | (go_at_call 20; (with_reducible refine (HP2.out _ HMx.out).mono ?_); rintro e w1 ⟨hb1, q1, d1, rfl, ho1, _⟩; have HF1 := hid ho1; have HB1 := hid hb1; have HM1 := hid (HMx.out.next hb1); clear hb1) | (go_at_call 21; (with_reducible refine (HD2.out _).mono ?_); rintro e w2 ⟨hb2, q2, d2, rfl, ho2, _⟩; have HF1b := hid (HF1.out.next hb2); have HF2 := hid ho2; have HB2 := hid (below_out HB1.out hb2); have HM2 := hid (HM1.out.next hb2); clear hb2) | (go_at_call 22; (with_reducible refine (HBp.out _ HM2.out).mono ?_); rintro e w3 ⟨rfl, hb3⟩; have HB32 := hid hb3; have HB3 := hid (below_out HB2.out hb3); have HM3 := hid (HM2.out.next hb3); clear hb3) | (go_at_call 23; (with_reducible refine (HBd.out _ HM3.out).mono ?_); rintro e w4 ⟨rfl, hb4⟩; have HB42 := hid (below_out HB32.out hb4); have HB4 := hid (below_out HB3.out hb4); have HM4 := hid (HM3.out.next hb4); have HE4 := hid (HE.out.next HB4.out); clear hb4) | (go_at_call 15; (with_reducible refine (fields_same F _ _ L _ _ HLL.out _ (HF1b.out.next HB42.out) (HF2.out.next HB42.out) hLb).mono ?_); rintro e w5 ⟨rfl, hb5⟩; have HB5 := hid (below_out HB4.out hb5); have HM5 := hid (HM4.out.next hb5); have HE5 := hid (HE4.out.next hb5); clear hb5) | (go_at_call 10; first | ((with_reducible refine (HN1.out _ HE5.out).mono ?_); rintro e w6 ⟨rfl, hb6⟩; have HB6 := hid (below_out HB5.out hb6); have HM6 := hid (HM5.out.next hb6); have HE6 := hid (HE5.out.next hb6); clear hb6 HE5) | ((with_reducible refine (HN2.out _ HE6.out).mono ?_); rintro e w7 ⟨rfl, hb7⟩; have HB7 := hid (below_out HB6.out hb7); have HM7 := hid (HM6.out.next hb7); clear hb7)) | (go_at_call 19; (with_reducible refine (HSu.out _ HM7.out).mono ?_); rintro e w8 ⟨rfl, hb8⟩; have HB8 := hid (below_out HB7.out hb8); clear hb8))
    go_ret
    exact ⟨rfl, HB8.out⟩
end Go.Proofs.YtdjjkcpnjocafaaDoor
