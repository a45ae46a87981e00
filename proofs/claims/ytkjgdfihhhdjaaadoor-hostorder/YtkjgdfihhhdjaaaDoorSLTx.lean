/- The laws HostTexts and HostFits, walked. -/
import Derived.Test.YtkjgdfihhhdjaaaDoorSWorks
namespace Go.Proofs.YtkjgdfihhhdjaaaDoor
open Go.RowKit Go.Maps

def canonN (s : B) : B × Nat := match labsH false s with
  | none => ([], 3)
  | some _ => (lowH s, 0)
def checkN (s : B) : Nat := if (patH s).isSome then 0 else 3
theorem pcanonN (s : B) (hs : s.length ≤ 9223372036854775807) (w : World) (hmx : MxAt w) : Calls Tryd.prog 8 #[.string (str s)] w fun e w' => e = .returned (.tuple #[.string (str (canonN s).1), errOf (canonN s).2]) ∧ Below w.heap.size w w' := by
  have h := pcanon_any s hs w hmx
  unfold canonN
  cases hl : labsH false s with
  | none => rw [hl] at h; exact h
  | some x => rw [hl] at h; exact h
theorem rcanonN (s : B) (hs : s.length ≤ 9223372036854775807) (w : World) : Calls Tryd.prog 9 #[.string (str s)] w fun e w' => e = .returned (.tuple #[.string (str (canonN s).1), .int .i64 ((canonN s).2 : Int)]) ∧ Below w.heap.size w w' := by
  have h := rcanon_any s hs w
  unfold canonN
  cases hl : labsH false s with
  | none => rw [hl] at h; exact h
  | some x => rw [hl] at h; exact h
theorem pcheckN (s : B) (hs : s.length ≤ 9223372036854775807) (w : World) (hmx : MxAt w) : Calls Tryd.prog 13 #[.string (str s)] w fun e w' => e = .returned (errOf (checkN s)) ∧ Below w.heap.size w w' := by
  have h := pcheck_any s hs w hmx
  unfold checkN
  cases hl : patH s with
  | none => rw [hl] at h; exact h
  | some x => rw [hl] at h; exact h
theorem rcheckN (s : B) (hs : s.length ≤ 9223372036854775807) (w : World) : Calls Tryd.prog 14 #[.string (str s)] w fun e w' => e = .returned (.int .i64 (checkN s : Int)) ∧ Below w.heap.size w w' := by
  have h := rcheck_any s hs w
  unfold checkN
  cases hl : patH s with
  | none => rw [hl] at h; exact h
  | some x => rw [hl] at h; exact h
theorem rsplitN (s : B) (hs : s.length ≤ 9223372036854775807) (w : World) : Calls Tryd.prog 11 #[.string (str s)] w fun e w' => e = .returned (.tuple #[.string (str (splitN s).1), .int .i64 (splitN s).2.1, .int .i64 ((splitN s).2.2 : Int)]) ∧ Below w.heap.size w w' := by
  have h := rsplit_any s hs w
  rw [splitAt_N] at h
  exact h
theorem splitN_le (s : B) : (splitN s).2.2 ≤ 1000 := by
  unfold splitN
  cases labsH false (s.take (colonH s)) with
  | none => exact (by decide : 3 ≤ 1000)
  | some x =>
    dsimp only
    split
    · exact Nat.zero_le _
    · split
      · exact Nat.zero_le _
      · exact (by decide : 3 ≤ 1000)
theorem canonN_le (s : B) : (canonN s).2 ≤ 1000 := by
  unfold canonN
  cases labsH false s with
  | none => exact (by decide : 3 ≤ 1000)
  | some x => exact Nat.zero_le _
theorem checkN_le (s : B) : checkN s ≤ 1000 := by
  unfold checkN
  split
  · exact Nat.zero_le _
  · decide
theorem beq_int (a : Int) : (a == a) = true := by simp
set_option maxRecDepth 20000 in
set_option maxHeartbeats 8000000 in
theorem texts_any (s : B) (hs : s.length ≤ 9223372036854775807) (w : World) (hmx : MxAt w) : Calls Tryd.prog 3 #[.string (str s)] w fun e w' => e = .returned (.bool true) ∧ Below w.heap.size w w' := by
  have HC := hid (fun (W : World) (h : MxAt W) => pcanonN s hs W h)
  have HRC := hid (fun W : World => rcanonN s hs W)
  have HS := hid (fun (W : World) (h : MxAt W) => psplit_any s hs W h)
  have HRS := hid (fun W : World => rsplitN s hs W)
  have HK := hid (fun (W : World) (h : MxAt W) => pcheckN s (by omega) W h)
  have HRK := hid (fun W : World => rcheckN s (by omega) W)
  have HW := hid (fun (W : World) (h : MxAt W) => works_any W h)
  have HN1 := hid (fun W : World => num_any _ (canonN_le s) W)
  have HN2 := hid (fun W : World => num_any _ (checkN_le s) W)
  have HN3 := hid (fun W : World => num_any _ (splitN_le s) W)
  have HM := hid hmx
  obtain ⟨S, hS⟩ : ∃ S, str s = S := ⟨_, rfl⟩
  obtain ⟨C1, hC1⟩ : ∃ S, str (canonN s).1 = S := ⟨_, rfl⟩
  obtain ⟨E1, hE1⟩ : ∃ E, errOf (canonN s).2 = E := ⟨_, rfl⟩
  obtain ⟨K1, hK1⟩ : ∃ K : Int, ((canonN s).2 : Int) = K := ⟨_, rfl⟩
  obtain ⟨E2, hE2⟩ : ∃ E, errOf (checkN s) = E := ⟨_, rfl⟩
  obtain ⟨K2, hK2⟩ : ∃ K : Int, (checkN s : Int) = K := ⟨_, rfl⟩
  obtain ⟨C3, hC3⟩ : ∃ S, str (splitN s).1 = S := ⟨_, rfl⟩
  obtain ⟨V3, hV3⟩ : ∃ V, (splitN s).2.1 = V := ⟨_, rfl⟩
  obtain ⟨E3, hE3⟩ : ∃ E, errOf (splitN s).2.2 = E := ⟨_, rfl⟩
  obtain ⟨K3, hK3⟩ : ∃ K : Int, ((splitN s).2.2 : Int) = K := ⟨_, rfl⟩
  rw [hS, hC1, hE1] at HC
  rw [hS, hC1, hK1] at HRC
  rw [hS, hC3, hV3, hE3] at HS
  rw [hS, hC3, hV3, hK3] at HRS
  rw [hS, hE2] at HK
  rw [hS, hK2] at HRK
  rw [hE1, hK1] at HN1
  rw [hE2, hK2] at HN2
  rw [hE3, hK3] at HN3
  rw [hS]
  clear hS hC1 hE1 hK1 hE2 hK2 hC3 hV3 hE3 hK3 hmx hs
  go_enter Tryd.func3, Tryd.ntmps3
  go_wp2_with (first | (go_at_call 8; (with_reducible refine (HC.out _ HM.out).mono ?_); rintro e w1 ⟨rfl, hb⟩; have HB1 := hid hb; clear hb) | (go_at_call 9; (with_reducible refine (HRC.out _).mono ?_); rintro e w2 ⟨rfl, hb⟩; have HB2 := hid (below_out HB1.out hb); clear hb HB1) | (go_at_call 10; (with_reducible refine (HS.out _ (HM.out.next HB2.out)).mono ?_); rintro e w3 ⟨rfl, hb⟩; have HB3 := hid (below_out HB2.out hb); clear hb HB2) | (go_at_call 11; (with_reducible refine (HRS.out _).mono ?_); rintro e w4 ⟨rfl, hb⟩; have HB4 := hid (below_out HB3.out hb); clear hb HB3) | (go_at_call 13; (with_reducible refine (HK.out _ (HM.out.next HB4.out)).mono ?_); rintro e w5 ⟨rfl, hb⟩; have HB5 := hid (below_out HB4.out hb); clear hb HB4) | (go_at_call 14; (with_reducible refine (HRK.out _).mono ?_); rintro e w6 ⟨rfl, hb⟩; have HB6 := hid (below_out HB5.out hb); clear hb HB5) | (go_at_call 12; first | ((with_reducible refine (HN1.out _).mono ?_); rintro e w7 ⟨rfl, rfl⟩) | ((with_reducible refine (HN2.out _).mono ?_); rintro e w7 ⟨rfl, rfl⟩) | ((with_reducible refine (HN3.out _).mono ?_); rintro e w7 ⟨rfl, rfl⟩)) | (go_at_call 15; (with_reducible refine (HW.out _ (HM.out.next HB6.out)).mono ?_); rintro e w8 ⟨rfl, hb⟩; have HB8 := hid (below_out HB6.out hb); clear hb HB6))
  go_ret
  exact ⟨rfl, HB8.out⟩
def fitsN (p h : B) : Bool × Nat := match fitsAns p h with
  | none => (false, 3)
  | some v => (v, 0)
theorem pfitsN (p h : B) (hp : p.length ≤ 9223372036854775807) (hh : h.length ≤ 9223372036854775807) (w : World) (hmx : MxAt w) : Calls Tryd.prog 16 #[.string (str p), .string (str h)] w fun e w' => e = .returned (.tuple #[.bool (fitsN p h).1, errOf (fitsN p h).2]) ∧ Below w.heap.size w w' := by
  have h := pFits_any p h hp hh w hmx
  unfold pfitsV at h
  unfold fitsN
  rename_i h0
  cases hl : fitsAns p h0 with
  | none => rw [hl] at h; exact h
  | some x => rw [hl] at h; exact h
theorem rfitsN (p h : B) (hp : p.length ≤ 9223372036854775807) (hh : h.length ≤ 9223372036854775807) (w : World) : Calls Tryd.prog 17 #[.string (str p), .string (str h)] w fun e w' => e = .returned (.tuple #[.bool (fitsN p h).1, .int .i64 ((fitsN p h).2 : Int)]) ∧ Below w.heap.size w w' := by
  have h := rFits_any p h hp hh w
  unfold fitsN
  rename_i h0
  cases hl : fitsAns p h0 with
  | none => rw [hl] at h; exact h
  | some x => rw [hl] at h; exact h
theorem rbeatsN (a b h : B) (ha : a.length ≤ 9223372036854775807) (hb : b.length ≤ 9223372036854775807) (hh : h.length ≤ 9223372036854775807) (w : World) : Calls Tryd.prog 19 #[.string (str a), .string (str b), .string (str h)] w fun e w' => e = .returned (.tuple #[.bool (beatsN a b h).1, .int .i64 ((beatsN a b h).2 : Int)]) ∧ Below w.heap.size w w' := by
  have h := rBeats_any a b h ha hb hh w
  rw [beatsV_N] at h
  exact h
theorem fitsN_le (p h : B) : (fitsN p h).2 ≤ 1000 := by
  unfold fitsN
  cases fitsAns p h with
  | none => exact (by decide : 3 ≤ 1000)
  | some v => exact Nat.zero_le _
theorem beatsN_le (a b h : B) : (beatsN a b h).2 ≤ 1000 := by
  unfold beatsN
  split
  · exact Nat.zero_le _
  · exact (by decide : 8 ≤ 1000)
  · exact (by decide : 3 ≤ 1000)
theorem beq_bool (a : Bool) : (a == a) = true := by simp
set_option maxRecDepth 20000 in
set_option maxHeartbeats 8000000 in
theorem fits_law (a b h : B) (ha : a.length ≤ 9223372036854775807) (hb : b.length ≤ 9223372036854775807) (hh : h.length ≤ 9223372036854775807) (w : World) (hmx : MxAt w) : Calls Tryd.prog 4 #[.string (str a), .string (str b), .string (str h)] w fun e w' => e = .returned (.bool true) ∧ Below w.heap.size w w' := by
  have HC := hid (fun (W : World) (h9 : MxAt W) => pfitsN a h ha hh W h9)
  have HRC := hid (fun W : World => rfitsN a h ha hh W)
  have HS := hid (fun (W : World) (h9 : MxAt W) => pBeats_any a b h ha hb hh W h9)
  have HRS := hid (fun W : World => rbeatsN a b h ha hb hh W)
  have HW := hid (fun (W : World) (h : MxAt W) => works_any W h)
  have HN1 := hid (fun W : World => num_any _ (fitsN_le a h) W)
  have HN3 := hid (fun W : World => num_any _ (beatsN_le a b h) W)
  have HM := hid hmx
  obtain ⟨S, hS⟩ : ∃ S, str a = S := ⟨_, rfl⟩
  obtain ⟨R, hR⟩ : ∃ S, str b = S := ⟨_, rfl⟩
  obtain ⟨T, hT⟩ : ∃ S, str h = S := ⟨_, rfl⟩
  obtain ⟨C1, hC1⟩ : ∃ S, (fitsN a h).1 = S := ⟨_, rfl⟩
  obtain ⟨E1, hE1⟩ : ∃ E, errOf (fitsN a h).2 = E := ⟨_, rfl⟩
  obtain ⟨K1, hK1⟩ : ∃ K : Int, ((fitsN a h).2 : Int) = K := ⟨_, rfl⟩
  obtain ⟨C3, hC3⟩ : ∃ S, (beatsN a b h).1 = S := ⟨_, rfl⟩
  obtain ⟨E3, hE3⟩ : ∃ E, errOf (beatsN a b h).2 = E := ⟨_, rfl⟩
  obtain ⟨K3, hK3⟩ : ∃ K : Int, ((beatsN a b h).2 : Int) = K := ⟨_, rfl⟩
  rw [hS, hT, hC1, hE1] at HC
  rw [hS, hT, hC1, hK1] at HRC
  rw [hS, hR, hT, hC3, hE3] at HS
  rw [hS, hR, hT, hC3, hK3] at HRS
  rw [hE1, hK1] at HN1
  rw [hE3, hK3] at HN3
  rw [hS, hR, hT]
  clear hS hR hT hC1 hE1 hK1 hC3 hE3 hK3 hmx ha hb hh
  go_enter Tryd.func4, Tryd.ntmps4
  go_wp2_with (first | (go_at_call 16; (with_reducible refine (HC.out _ HM.out).mono ?_); rintro e w1 ⟨rfl, hb⟩; have HB1 := hid hb; clear hb) | (go_at_call 17; (with_reducible refine (HRC.out _).mono ?_); rintro e w2 ⟨rfl, hb⟩; have HB2 := hid (below_out HB1.out hb); clear hb HB1) | (go_at_call 18; (with_reducible refine (HS.out _ (HM.out.next HB2.out)).mono ?_); rintro e w3 ⟨rfl, hb⟩; have HB3 := hid (below_out HB2.out hb); clear hb HB2) | (go_at_call 19; (with_reducible refine (HRS.out _).mono ?_); rintro e w4 ⟨rfl, hb⟩; have HB4 := hid (below_out HB3.out hb); clear hb HB3) | (go_at_call 12; first | ((with_reducible refine (HN1.out _).mono ?_); rintro e w7 ⟨rfl, rfl⟩) | ((with_reducible refine (HN3.out _).mono ?_); rintro e w7 ⟨rfl, rfl⟩)) | (go_at_call 15; (with_reducible refine (HW.out _ (HM.out.next HB4.out)).mono ?_); rintro e w8 ⟨rfl, hb⟩; have HB8 := hid (below_out HB4.out hb); clear hb HB4))
  go_ret
  exact ⟨rfl, HB8.out⟩
end Go.Proofs.YtkjgdfihhhdjaaaDoor
