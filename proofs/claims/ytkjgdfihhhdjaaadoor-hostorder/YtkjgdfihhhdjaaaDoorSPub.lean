/- Canon, Check, Fits and Beats of the document. -/
import Derived.Test.YtkjgdfihhhdjaaaDoorSAhead
namespace Go.Proofs.YtkjgdfihhhdjaaaDoor
open Go.RowKit

/-- The labels of a pattern, where it may be. -/
def patH (p : B) : Option (List B) := if p = [] then some [] else labsH true p
theorem patH_nil : patH [] = some [] := rfl
theorem patH_ne {p : B} (h : p ≠ []) : patH p = labsH true p := if_neg h
theorem labsH_nil (wild : Bool) : labsH wild [] = none := rfl
theorem rcanon_any (s : B) (hs : s.length ≤ 9223372036854775807) (w : World) : Calls Tryd.prog 9 #[.string (str s)] w fun e w' => (e = .returned (match labsH false s with | none => .tuple #[.string ⟨#[]⟩, .int .i64 3] | some _ => .tuple #[.string (str (lowH s)), .int .i64 0])) ∧ Below w.heap.size w w' := by
  have HL := hid (fun W : World => rlabels_any s false (by omega) W)
  have HLo := hid (fun (W : World) (h253 : s.length ≤ 253) => by have h1 := rlower_any (str s) W (by rw [str_size]; omega); rw [lowS_strH] at h1; exact h1)
  obtain ⟨S, hS⟩ : ∃ S, str s = S := ⟨_, rfl⟩
  obtain ⟨Z, hZ⟩ : ∃ Z, str (lowH s) = Z := ⟨_, rfl⟩
  rw [hS] at HL HLo ⊢
  rw [hZ] at HLo ⊢
  clear hS hZ
  unfold LabAns at HL
  cases hl : labsH false s with
  | none =>
    rw [hl] at HL
    go_enter Tryd.func9, Tryd.ntmps9
    go_wp2_with (go_at_call 31; (with_reducible refine (HL.out _).mono ?_); rintro e w1 ⟨hb, rfl⟩; have HB1 := hid hb; clear hb)
    go_ret2
    exact ⟨rfl, HB1.out⟩
  | some L =>
    rw [hl] at HL
    have h253 := (labsH_some hl).2.1
    go_enter Tryd.func9, Tryd.ntmps9
    go_wp2_with (first | (go_at_call 31; (with_reducible refine (HL.out _).mono ?_); rintro e w1 ⟨hb, q, d, rfl, ho⟩; have HB1 := hid hb; clear hb ho) | (go_at_call 32; (with_reducible refine (HLo.out _ h253).mono ?_); rintro e w2 ⟨rfl, hb2⟩; have HB2 := hid (below_out HB1.out hb2); clear hb2))
    go_ret2
    exact ⟨rfl, HB2.out⟩
theorem rcheck_any (s : B) (hs : s.length ≤ 9223372036854775807) (w : World) : Calls Tryd.prog 14 #[.string (str s)] w fun e w' => e = .returned (.int .i64 (if (patH s).isSome then 0 else 3)) ∧ Below w.heap.size w w' := by
  have HL := hid (fun W : World => rlabels_any s true (by omega) W)
  by_cases h0 : s = []
  · subst h0
    rw [labsH_nil] at HL
    rw [patH_nil]
    unfold LabAns at HL
    go_enter Tryd.func14, Tryd.ntmps14
    go_wp2_with (go_at_call 31; (with_reducible refine (HL.out _).mono ?_); rintro e w1 ⟨hb, rfl⟩; have HB1 := hid hb; clear hb)
    go_ret
    exact ⟨rfl, HB1.out⟩
  · rw [patH_ne h0]
    obtain ⟨A, hA⟩ : ∃ A, str s = A := ⟨_, rfl⟩
    have hne1 : ¬ A = (⟨#[]⟩ : ByteArray) := fun e => h0 (str_inj (by rw [hA, e]))
    have hne2 : (A.toList == (⟨#[]⟩ : ByteArray).toList) = false := ne_list hne1
    have hne3 : A.toList.isEmpty = false := ne_empty hne1
    have hne4 : (A.toList == []) = false := by have h := hne2; rw [ByteArray.toList_eq, ByteArray.toList_eq] at h; rw [ByteArray.toList_eq]; exact h
    rw [hA] at HL ⊢
    clear hA h0
    unfold LabAns at HL
    cases hl : labsH true s with
    | none =>
      rw [hl] at HL
      go_enter Tryd.func14, Tryd.ntmps14
      go_wp2_with (go_at_call 31; (with_reducible refine (HL.out _).mono ?_); rintro e w1 ⟨hb, rfl⟩; have HB1 := hid hb; clear hb)
      go_ret
      exact ⟨rfl, HB1.out⟩
    | some L =>
      rw [hl] at HL
      go_enter Tryd.func14, Tryd.ntmps14
      go_wp2_with (go_at_call 31; (with_reducible refine (HL.out _).mono ?_); rintro e w1 ⟨hb, q, d, rfl, ho⟩; have HB1 := hid hb; clear hb ho)
      go_ret
      exact ⟨rfl, HB1.out⟩
/-- What Fits answers. -/
def fitsAns (p h : B) : Option Bool := match patH p, labsH false h with
  | some x, some y => some (fitsS x y)
  | _, _ => none
end Go.Proofs.YtkjgdfihhhdjaaaDoor
