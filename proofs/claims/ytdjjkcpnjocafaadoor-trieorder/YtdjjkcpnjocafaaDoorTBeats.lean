/- Beats of the program and of the document; what must come whatever the input is. -/
import Derived.Test.YtdjjkcpnjocafaaDoorTLaw
namespace Go.Proofs.YtdjjkcpnjocafaaDoor
open Go.RowKit

theorem fits_none {pa path : B} (ha : pa.length ≤ 140737488355328) (hp : path.length ≤ 140737488355328) (h : fitsO pa path = none) (w : World) (hmx : MxAt w) : Calls Tryd.prog 20 #[.string (str pa), .string (str path)] w fun e w' => (∃ v, e = .returned (.tuple #[.bool false, v, err3])) ∧ Below w.heap.size w w' := by
  refine (fits_any pa path ha hp w hmx).mono ?_
  rw [h]
  rintro e w' ⟨hb, he⟩
  exact ⟨⟨_, he⟩, hb⟩
theorem fits_no {pa path : B} (ha : pa.length ≤ 140737488355328) (hp : path.length ≤ 140737488355328) (h : fitsO pa path = some none) (w : World) (hmx : MxAt w) : Calls Tryd.prog 20 #[.string (str pa), .string (str path)] w fun e w' => (∃ v, e = .returned (.tuple #[.bool false, v, .nilIface])) ∧ Below w.heap.size w w' := by
  refine (fits_any pa path ha hp w hmx).mono ?_
  rw [h]
  rintro e w' ⟨hb, he⟩
  exact ⟨⟨_, he⟩, hb⟩
theorem fits_yes {pa path : B} {F : List (B × B)} (ha : pa.length ≤ 140737488355328) (hp : path.length ≤ 140737488355328) (h : fitsO pa path = some (some F)) (w : World) (hmx : MxAt w) : Calls Tryd.prog 20 #[.string (str pa), .string (str path)] w fun e w' => (∃ v, e = .returned (.tuple #[.bool true, v, .nilIface])) ∧ Below w.heap.size w w' := by
  refine (fits_any pa path ha hp w hmx).mono ?_
  rw [h]
  rintro e w' ⟨hb, q, d, he, _⟩
  exact ⟨⟨_, he⟩, hb⟩
theorem rfits_none {pa path : B} (ha : pa.length ≤ 4398046511104) (hp : path.length ≤ 4294967280) (h : fitsO pa path = none) (w : World) (_ : MxAt w) : Calls Tryd.prog 21 #[.string (str pa), .string (str path)] w fun e w' => (∃ v, e = .returned (.tuple #[.bool false, v, .int .i64 3])) ∧ Below w.heap.size w w' := by
  refine (rfitsO_any pa path ha hp w).mono ?_
  rw [h]
  rintro e w' ⟨hb, he⟩
  exact ⟨⟨_, he⟩, hb⟩
theorem rfits_no {pa path : B} (ha : pa.length ≤ 4398046511104) (hp : path.length ≤ 4294967280) (h : fitsO pa path = some none) (w : World) (_ : MxAt w) : Calls Tryd.prog 21 #[.string (str pa), .string (str path)] w fun e w' => (∃ v, e = .returned (.tuple #[.bool false, v, .int .i64 0])) ∧ Below w.heap.size w w' := by
  refine (rfitsO_any pa path ha hp w).mono ?_
  rw [h]
  rintro e w' ⟨hb, he⟩
  exact ⟨⟨_, he⟩, hb⟩
theorem rfits_yes {pa path : B} {F : List (B × B)} (ha : pa.length ≤ 4398046511104) (hp : path.length ≤ 4294967280) (h : fitsO pa path = some (some F)) (w : World) (_ : MxAt w) : Calls Tryd.prog 21 #[.string (str pa), .string (str path)] w fun e w' => (∃ v, e = .returned (.tuple #[.bool true, v, .int .i64 0])) ∧ Below w.heap.size w w' := by
  refine (rfitsO_any pa path ha hp w).mono ?_
  rw [h]
  rintro e w' ⟨hb, q, d, he, _⟩
  exact ⟨⟨_, he⟩, hb⟩
theorem fitsO_check {a path : B} {o : Option (List (B × B))} (h : fitsO a path = some o) : checkP a = true := by
  unfold fitsO at h
  cases hc : checkP a with
  | true => rfl
  | false => rw [hc] at h; cases h
/-- The document's better, where both are patterns. -/
theorem rbetter_yes {pa pb : B} (ha : checkP pa = true) (hb : checkP pb = true) (w : World) (_ : MxAt w) : Calls Tryd.prog 38 #[.string (str pa), .string (str pb)] w fun e w' => e = .returned (.bool (betterT (cutT pa.tail) (cutT pb.tail))) ∧ Below w.heap.size w w' := by
  obtain ⟨ta, rfl, _, h1, _⟩ := check_parts ha
  obtain ⟨tb, rfl, _, h2, _⟩ := check_parts hb
  simp at h1 h2
  exact rbetter_any ta tb (by omega) (by omega) w
set_option maxRecDepth 20000 in
set_option maxHeartbeats 8000000 in
theorem beats_any (a b path : B) (ha : a.length ≤ 140737488355328) (hb : b.length ≤ 140737488355328) (hp : path.length ≤ 140737488355328) (w : World) (hmx : MxAt w) : Calls Tryd.prog 22 #[.string (str a), .string (str b), .string (str path)] w fun e w' => e = .returned (.tuple #[.bool (beatsO a b path).1, errOf (beatsO a b path).2]) ∧ Below w.heap.size w w' := by
  have HMx := hid hmx
  obtain ⟨SA, hSA⟩ : ∃ S, str a = S := ⟨_, rfl⟩
  obtain ⟨SB, hSB⟩ : ∃ S, str b = S := ⟨_, rfl⟩
  obtain ⟨SP, hSP⟩ : ∃ S, str path = S := ⟨_, rfl⟩
  rcases ho : fitsO a path with _ | (_ | F)
  · rcases hq : fitsO b path with _ | (_ | F2)
    · have e1 : beatsO a b path = (false, 3) := by unfold beatsO; rw [ho, hq]
      have H1 := hid (fun (W : World) (h : MxAt W) => fits_none ha hp ho W h)
      have H2 := hid (fun (W : World) (h : MxAt W) => fits_none hb hp hq W h)
      rw [e1]
      dsimp only
      rw [hSA, hSP] at H1
      rw [hSB, hSP] at H2
      rw [hSA, hSB, hSP]
      clear hSA hSB hSP ho hq e1 ha hb hp hmx
      go_enter Tryd.func22, Tryd.ntmps22
      go_wp2_with (first | (go_at_call 20; first | ((with_reducible refine (H1.out _ HMx.out).mono ?_); rintro e w1 ⟨⟨v1, rfl⟩, hb1⟩; have HB1 := hid hb1; have HM1 := hid (HMx.out.next hb1); clear hb1 H1) | ((with_reducible refine (H2.out _ HM1.out).mono ?_); rintro e w2 ⟨⟨v2, rfl⟩, hb2⟩; have HB2 := hid (below_out HB1.out hb2); have HM2 := hid (HM1.out.next hb2); clear hb2 H2)) | (go_at_call 39; (with_reducible refine (H3.out _ HM2.out).mono ?_); rintro e w3 ⟨rfl, hb3⟩; have HB3 := hid (below_out HB2.out hb3); clear hb3))
      go_ret2
      exact ⟨rfl, HB2.out⟩
    · have e1 : beatsO a b path = (false, 3) := by unfold beatsO; rw [ho, hq]
      have H1 := hid (fun (W : World) (h : MxAt W) => fits_none ha hp ho W h)
      have H2 := hid (fun (W : World) (h : MxAt W) => fits_no hb hp hq W h)
      rw [e1]
      dsimp only
      rw [hSA, hSP] at H1
      rw [hSB, hSP] at H2
      rw [hSA, hSB, hSP]
      clear hSA hSB hSP ho hq e1 ha hb hp hmx
      go_enter Tryd.func22, Tryd.ntmps22
      go_wp2_with (first | (go_at_call 20; first | ((with_reducible refine (H1.out _ HMx.out).mono ?_); rintro e w1 ⟨⟨v1, rfl⟩, hb1⟩; have HB1 := hid hb1; have HM1 := hid (HMx.out.next hb1); clear hb1 H1) | ((with_reducible refine (H2.out _ HM1.out).mono ?_); rintro e w2 ⟨⟨v2, rfl⟩, hb2⟩; have HB2 := hid (below_out HB1.out hb2); have HM2 := hid (HM1.out.next hb2); clear hb2 H2)) | (go_at_call 39; (with_reducible refine (H3.out _ HM2.out).mono ?_); rintro e w3 ⟨rfl, hb3⟩; have HB3 := hid (below_out HB2.out hb3); clear hb3))
      go_ret2
      exact ⟨rfl, HB2.out⟩
    · have e1 : beatsO a b path = (false, 3) := by unfold beatsO; rw [ho, hq]
      have H1 := hid (fun (W : World) (h : MxAt W) => fits_none ha hp ho W h)
      have H2 := hid (fun (W : World) (h : MxAt W) => fits_yes hb hp hq W h)
      rw [e1]
      dsimp only
      rw [hSA, hSP] at H1
      rw [hSB, hSP] at H2
      rw [hSA, hSB, hSP]
      clear hSA hSB hSP ho hq e1 ha hb hp hmx
      go_enter Tryd.func22, Tryd.ntmps22
      go_wp2_with (first | (go_at_call 20; first | ((with_reducible refine (H1.out _ HMx.out).mono ?_); rintro e w1 ⟨⟨v1, rfl⟩, hb1⟩; have HB1 := hid hb1; have HM1 := hid (HMx.out.next hb1); clear hb1 H1) | ((with_reducible refine (H2.out _ HM1.out).mono ?_); rintro e w2 ⟨⟨v2, rfl⟩, hb2⟩; have HB2 := hid (below_out HB1.out hb2); have HM2 := hid (HM1.out.next hb2); clear hb2 H2)) | (go_at_call 39; (with_reducible refine (H3.out _ HM2.out).mono ?_); rintro e w3 ⟨rfl, hb3⟩; have HB3 := hid (below_out HB2.out hb3); clear hb3))
      go_ret2
      exact ⟨rfl, HB2.out⟩
  · rcases hq : fitsO b path with _ | (_ | F2)
    · have e1 : beatsO a b path = (false, 3) := by unfold beatsO; rw [ho, hq]
      have H1 := hid (fun (W : World) (h : MxAt W) => fits_no ha hp ho W h)
      have H2 := hid (fun (W : World) (h : MxAt W) => fits_none hb hp hq W h)
      rw [e1]
      dsimp only
      rw [hSA, hSP] at H1
      rw [hSB, hSP] at H2
      rw [hSA, hSB, hSP]
      clear hSA hSB hSP ho hq e1 ha hb hp hmx
      go_enter Tryd.func22, Tryd.ntmps22
      go_wp2_with (first | (go_at_call 20; first | ((with_reducible refine (H1.out _ HMx.out).mono ?_); rintro e w1 ⟨⟨v1, rfl⟩, hb1⟩; have HB1 := hid hb1; have HM1 := hid (HMx.out.next hb1); clear hb1 H1) | ((with_reducible refine (H2.out _ HM1.out).mono ?_); rintro e w2 ⟨⟨v2, rfl⟩, hb2⟩; have HB2 := hid (below_out HB1.out hb2); have HM2 := hid (HM1.out.next hb2); clear hb2 H2)) | (go_at_call 39; (with_reducible refine (H3.out _ HM2.out).mono ?_); rintro e w3 ⟨rfl, hb3⟩; have HB3 := hid (below_out HB2.out hb3); clear hb3))
      go_ret2
      exact ⟨rfl, HB2.out⟩
    · have e1 : beatsO a b path = (false, 8) := by unfold beatsO; rw [ho, hq]
      have H1 := hid (fun (W : World) (h : MxAt W) => fits_no ha hp ho W h)
      have H2 := hid (fun (W : World) (h : MxAt W) => fits_no hb hp hq W h)
      rw [e1]
      dsimp only
      rw [hSA, hSP] at H1
      rw [hSB, hSP] at H2
      rw [hSA, hSB, hSP]
      clear hSA hSB hSP ho hq e1 ha hb hp hmx
      go_enter Tryd.func22, Tryd.ntmps22
      go_wp2_with (first | (go_at_call 20; first | ((with_reducible refine (H1.out _ HMx.out).mono ?_); rintro e w1 ⟨⟨v1, rfl⟩, hb1⟩; have HB1 := hid hb1; have HM1 := hid (HMx.out.next hb1); clear hb1 H1) | ((with_reducible refine (H2.out _ HM1.out).mono ?_); rintro e w2 ⟨⟨v2, rfl⟩, hb2⟩; have HB2 := hid (below_out HB1.out hb2); have HM2 := hid (HM1.out.next hb2); clear hb2 H2)) | (go_at_call 39; (with_reducible refine (H3.out _ HM2.out).mono ?_); rintro e w3 ⟨rfl, hb3⟩; have HB3 := hid (below_out HB2.out hb3); clear hb3))
      go_ret2
      exact ⟨rfl, HB2.out⟩
    · have e1 : beatsO a b path = (false, 8) := by unfold beatsO; rw [ho, hq]
      have H1 := hid (fun (W : World) (h : MxAt W) => fits_no ha hp ho W h)
      have H2 := hid (fun (W : World) (h : MxAt W) => fits_yes hb hp hq W h)
      rw [e1]
      dsimp only
      rw [hSA, hSP] at H1
      rw [hSB, hSP] at H2
      rw [hSA, hSB, hSP]
      clear hSA hSB hSP ho hq e1 ha hb hp hmx
      go_enter Tryd.func22, Tryd.ntmps22
      go_wp2_with (first | (go_at_call 20; first | ((with_reducible refine (H1.out _ HMx.out).mono ?_); rintro e w1 ⟨⟨v1, rfl⟩, hb1⟩; have HB1 := hid hb1; have HM1 := hid (HMx.out.next hb1); clear hb1 H1) | ((with_reducible refine (H2.out _ HM1.out).mono ?_); rintro e w2 ⟨⟨v2, rfl⟩, hb2⟩; have HB2 := hid (below_out HB1.out hb2); have HM2 := hid (HM1.out.next hb2); clear hb2 H2)) | (go_at_call 39; (with_reducible refine (H3.out _ HM2.out).mono ?_); rintro e w3 ⟨rfl, hb3⟩; have HB3 := hid (below_out HB2.out hb3); clear hb3))
      go_ret2
      exact ⟨rfl, HB2.out⟩
  · rcases hq : fitsO b path with _ | (_ | F2)
    · have e1 : beatsO a b path = (false, 3) := by unfold beatsO; rw [ho, hq]
      have H1 := hid (fun (W : World) (h : MxAt W) => fits_yes ha hp ho W h)
      have H2 := hid (fun (W : World) (h : MxAt W) => fits_none hb hp hq W h)
      rw [e1]
      dsimp only
      rw [hSA, hSP] at H1
      rw [hSB, hSP] at H2
      rw [hSA, hSB, hSP]
      clear hSA hSB hSP ho hq e1 ha hb hp hmx
      go_enter Tryd.func22, Tryd.ntmps22
      go_wp2_with (first | (go_at_call 20; first | ((with_reducible refine (H1.out _ HMx.out).mono ?_); rintro e w1 ⟨⟨v1, rfl⟩, hb1⟩; have HB1 := hid hb1; have HM1 := hid (HMx.out.next hb1); clear hb1 H1) | ((with_reducible refine (H2.out _ HM1.out).mono ?_); rintro e w2 ⟨⟨v2, rfl⟩, hb2⟩; have HB2 := hid (below_out HB1.out hb2); have HM2 := hid (HM1.out.next hb2); clear hb2 H2)) | (go_at_call 39; (with_reducible refine (H3.out _ HM2.out).mono ?_); rintro e w3 ⟨rfl, hb3⟩; have HB3 := hid (below_out HB2.out hb3); clear hb3))
      go_ret2
      exact ⟨rfl, HB2.out⟩
    · have e1 : beatsO a b path = (false, 8) := by unfold beatsO; rw [ho, hq]
      have H1 := hid (fun (W : World) (h : MxAt W) => fits_yes ha hp ho W h)
      have H2 := hid (fun (W : World) (h : MxAt W) => fits_no hb hp hq W h)
      rw [e1]
      dsimp only
      rw [hSA, hSP] at H1
      rw [hSB, hSP] at H2
      rw [hSA, hSB, hSP]
      clear hSA hSB hSP ho hq e1 ha hb hp hmx
      go_enter Tryd.func22, Tryd.ntmps22
      go_wp2_with (first | (go_at_call 20; first | ((with_reducible refine (H1.out _ HMx.out).mono ?_); rintro e w1 ⟨⟨v1, rfl⟩, hb1⟩; have HB1 := hid hb1; have HM1 := hid (HMx.out.next hb1); clear hb1 H1) | ((with_reducible refine (H2.out _ HM1.out).mono ?_); rintro e w2 ⟨⟨v2, rfl⟩, hb2⟩; have HB2 := hid (below_out HB1.out hb2); have HM2 := hid (HM1.out.next hb2); clear hb2 H2)) | (go_at_call 39; (with_reducible refine (H3.out _ HM2.out).mono ?_); rintro e w3 ⟨rfl, hb3⟩; have HB3 := hid (below_out HB2.out hb3); clear hb3))
      go_ret2
      exact ⟨rfl, HB2.out⟩
    · have e1 : beatsO a b path = (betterT (cutT a.tail) (cutT b.tail), 0) := by unfold beatsO; rw [ho, hq]
      have H1 := hid (fun (W : World) (h : MxAt W) => fits_yes ha hp ho W h)
      have H2 := hid (fun (W : World) (h : MxAt W) => fits_yes hb hp hq W h)
      have H3 := hid (fun (W : World) (h : MxAt W) => better_any _ _ (fitsO_check ho) (fitsO_check hq) W h)
      rw [hSA, hSB] at H3
      rw [e1]
      dsimp only
      rw [hSA, hSP] at H1
      rw [hSB, hSP] at H2
      rw [hSA, hSB, hSP]
      obtain ⟨bb, hbb⟩ : ∃ x, betterT (cutT a.tail) (cutT b.tail) = x := ⟨_, rfl⟩
      rw [hbb] at H3 ⊢
      clear hbb
      clear hSA hSB hSP ho hq e1 ha hb hp hmx
      go_enter Tryd.func22, Tryd.ntmps22
      go_wp2_with (first | (go_at_call 20; first | ((with_reducible refine (H1.out _ HMx.out).mono ?_); rintro e w1 ⟨⟨v1, rfl⟩, hb1⟩; have HB1 := hid hb1; have HM1 := hid (HMx.out.next hb1); clear hb1 H1) | ((with_reducible refine (H2.out _ HM1.out).mono ?_); rintro e w2 ⟨⟨v2, rfl⟩, hb2⟩; have HB2 := hid (below_out HB1.out hb2); have HM2 := hid (HM1.out.next hb2); clear hb2 H2)) | (go_at_call 39; (with_reducible refine (H3.out _ HM2.out).mono ?_); rintro e w3 ⟨rfl, hb3⟩; have HB3 := hid (below_out HB2.out hb3); clear hb3))
      go_ret2
      exact ⟨rfl, HB3.out⟩
set_option maxRecDepth 20000 in
set_option maxHeartbeats 8000000 in
theorem rbeats_any (a b path : B) (ha : a.length ≤ 4398046511104) (hb : b.length ≤ 4398046511104) (hp : path.length ≤ 4294967280) (w : World) (hmx : MxAt w) : Calls Tryd.prog 23 #[.string (str a), .string (str b), .string (str path)] w fun e w' => e = .returned (.tuple #[.bool (beatsO a b path).1, .int .i64 ((beatsO a b path).2 : Int)]) ∧ Below w.heap.size w w' := by
  have HMx := hid hmx
  obtain ⟨SA, hSA⟩ : ∃ S, str a = S := ⟨_, rfl⟩
  obtain ⟨SB, hSB⟩ : ∃ S, str b = S := ⟨_, rfl⟩
  obtain ⟨SP, hSP⟩ : ∃ S, str path = S := ⟨_, rfl⟩
  rcases ho : fitsO a path with _ | (_ | F)
  · rcases hq : fitsO b path with _ | (_ | F2)
    · have e1 : beatsO a b path = (false, 3) := by unfold beatsO; rw [ho, hq]
      have H1 := hid (fun (W : World) (h : MxAt W) => rfits_none ha hp ho W h)
      have H2 := hid (fun (W : World) (h : MxAt W) => rfits_none hb hp hq W h)
      rw [e1]
      dsimp only
      rw [hSA, hSP] at H1
      rw [hSB, hSP] at H2
      rw [hSA, hSB, hSP]
      clear hSA hSB hSP ho hq e1 ha hb hp hmx
      go_enter Tryd.func23, Tryd.ntmps23
      go_wp2_with (first | (go_at_call 21; first | ((with_reducible refine (H1.out _ HMx.out).mono ?_); rintro e w1 ⟨⟨v1, rfl⟩, hb1⟩; have HB1 := hid hb1; have HM1 := hid (HMx.out.next hb1); clear hb1 H1) | ((with_reducible refine (H2.out _ HM1.out).mono ?_); rintro e w2 ⟨⟨v2, rfl⟩, hb2⟩; have HB2 := hid (below_out HB1.out hb2); have HM2 := hid (HM1.out.next hb2); clear hb2 H2)) | (go_at_call 38; (with_reducible refine (H3.out _ HM2.out).mono ?_); rintro e w3 ⟨rfl, hb3⟩; have HB3 := hid (below_out HB2.out hb3); clear hb3))
      go_ret2
      exact ⟨rfl, HB2.out⟩
    · have e1 : beatsO a b path = (false, 3) := by unfold beatsO; rw [ho, hq]
      have H1 := hid (fun (W : World) (h : MxAt W) => rfits_none ha hp ho W h)
      have H2 := hid (fun (W : World) (h : MxAt W) => rfits_no hb hp hq W h)
      rw [e1]
      dsimp only
      rw [hSA, hSP] at H1
      rw [hSB, hSP] at H2
      rw [hSA, hSB, hSP]
      clear hSA hSB hSP ho hq e1 ha hb hp hmx
      go_enter Tryd.func23, Tryd.ntmps23
      go_wp2_with (first | (go_at_call 21; first | ((with_reducible refine (H1.out _ HMx.out).mono ?_); rintro e w1 ⟨⟨v1, rfl⟩, hb1⟩; have HB1 := hid hb1; have HM1 := hid (HMx.out.next hb1); clear hb1 H1) | ((with_reducible refine (H2.out _ HM1.out).mono ?_); rintro e w2 ⟨⟨v2, rfl⟩, hb2⟩; have HB2 := hid (below_out HB1.out hb2); have HM2 := hid (HM1.out.next hb2); clear hb2 H2)) | (go_at_call 38; (with_reducible refine (H3.out _ HM2.out).mono ?_); rintro e w3 ⟨rfl, hb3⟩; have HB3 := hid (below_out HB2.out hb3); clear hb3))
      go_ret2
      exact ⟨rfl, HB2.out⟩
    · have e1 : beatsO a b path = (false, 3) := by unfold beatsO; rw [ho, hq]
      have H1 := hid (fun (W : World) (h : MxAt W) => rfits_none ha hp ho W h)
      have H2 := hid (fun (W : World) (h : MxAt W) => rfits_yes hb hp hq W h)
      rw [e1]
      dsimp only
      rw [hSA, hSP] at H1
      rw [hSB, hSP] at H2
      rw [hSA, hSB, hSP]
      clear hSA hSB hSP ho hq e1 ha hb hp hmx
      go_enter Tryd.func23, Tryd.ntmps23
      go_wp2_with (first | (go_at_call 21; first | ((with_reducible refine (H1.out _ HMx.out).mono ?_); rintro e w1 ⟨⟨v1, rfl⟩, hb1⟩; have HB1 := hid hb1; have HM1 := hid (HMx.out.next hb1); clear hb1 H1) | ((with_reducible refine (H2.out _ HM1.out).mono ?_); rintro e w2 ⟨⟨v2, rfl⟩, hb2⟩; have HB2 := hid (below_out HB1.out hb2); have HM2 := hid (HM1.out.next hb2); clear hb2 H2)) | (go_at_call 38; (with_reducible refine (H3.out _ HM2.out).mono ?_); rintro e w3 ⟨rfl, hb3⟩; have HB3 := hid (below_out HB2.out hb3); clear hb3))
      go_ret2
      exact ⟨rfl, HB2.out⟩
  · rcases hq : fitsO b path with _ | (_ | F2)
    · have e1 : beatsO a b path = (false, 3) := by unfold beatsO; rw [ho, hq]
      have H1 := hid (fun (W : World) (h : MxAt W) => rfits_no ha hp ho W h)
      have H2 := hid (fun (W : World) (h : MxAt W) => rfits_none hb hp hq W h)
      rw [e1]
      dsimp only
      rw [hSA, hSP] at H1
      rw [hSB, hSP] at H2
      rw [hSA, hSB, hSP]
      clear hSA hSB hSP ho hq e1 ha hb hp hmx
      go_enter Tryd.func23, Tryd.ntmps23
      go_wp2_with (first | (go_at_call 21; first | ((with_reducible refine (H1.out _ HMx.out).mono ?_); rintro e w1 ⟨⟨v1, rfl⟩, hb1⟩; have HB1 := hid hb1; have HM1 := hid (HMx.out.next hb1); clear hb1 H1) | ((with_reducible refine (H2.out _ HM1.out).mono ?_); rintro e w2 ⟨⟨v2, rfl⟩, hb2⟩; have HB2 := hid (below_out HB1.out hb2); have HM2 := hid (HM1.out.next hb2); clear hb2 H2)) | (go_at_call 38; (with_reducible refine (H3.out _ HM2.out).mono ?_); rintro e w3 ⟨rfl, hb3⟩; have HB3 := hid (below_out HB2.out hb3); clear hb3))
      go_ret2
      exact ⟨rfl, HB2.out⟩
    · have e1 : beatsO a b path = (false, 8) := by unfold beatsO; rw [ho, hq]
      have H1 := hid (fun (W : World) (h : MxAt W) => rfits_no ha hp ho W h)
      have H2 := hid (fun (W : World) (h : MxAt W) => rfits_no hb hp hq W h)
      rw [e1]
      dsimp only
      rw [hSA, hSP] at H1
      rw [hSB, hSP] at H2
      rw [hSA, hSB, hSP]
      clear hSA hSB hSP ho hq e1 ha hb hp hmx
      go_enter Tryd.func23, Tryd.ntmps23
      go_wp2_with (first | (go_at_call 21; first | ((with_reducible refine (H1.out _ HMx.out).mono ?_); rintro e w1 ⟨⟨v1, rfl⟩, hb1⟩; have HB1 := hid hb1; have HM1 := hid (HMx.out.next hb1); clear hb1 H1) | ((with_reducible refine (H2.out _ HM1.out).mono ?_); rintro e w2 ⟨⟨v2, rfl⟩, hb2⟩; have HB2 := hid (below_out HB1.out hb2); have HM2 := hid (HM1.out.next hb2); clear hb2 H2)) | (go_at_call 38; (with_reducible refine (H3.out _ HM2.out).mono ?_); rintro e w3 ⟨rfl, hb3⟩; have HB3 := hid (below_out HB2.out hb3); clear hb3))
      go_ret2
      exact ⟨rfl, HB2.out⟩
    · have e1 : beatsO a b path = (false, 8) := by unfold beatsO; rw [ho, hq]
      have H1 := hid (fun (W : World) (h : MxAt W) => rfits_no ha hp ho W h)
      have H2 := hid (fun (W : World) (h : MxAt W) => rfits_yes hb hp hq W h)
      rw [e1]
      dsimp only
      rw [hSA, hSP] at H1
      rw [hSB, hSP] at H2
      rw [hSA, hSB, hSP]
      clear hSA hSB hSP ho hq e1 ha hb hp hmx
      go_enter Tryd.func23, Tryd.ntmps23
      go_wp2_with (first | (go_at_call 21; first | ((with_reducible refine (H1.out _ HMx.out).mono ?_); rintro e w1 ⟨⟨v1, rfl⟩, hb1⟩; have HB1 := hid hb1; have HM1 := hid (HMx.out.next hb1); clear hb1 H1) | ((with_reducible refine (H2.out _ HM1.out).mono ?_); rintro e w2 ⟨⟨v2, rfl⟩, hb2⟩; have HB2 := hid (below_out HB1.out hb2); have HM2 := hid (HM1.out.next hb2); clear hb2 H2)) | (go_at_call 38; (with_reducible refine (H3.out _ HM2.out).mono ?_); rintro e w3 ⟨rfl, hb3⟩; have HB3 := hid (below_out HB2.out hb3); clear hb3))
      go_ret2
      exact ⟨rfl, HB2.out⟩
  · rcases hq : fitsO b path with _ | (_ | F2)
    · have e1 : beatsO a b path = (false, 3) := by unfold beatsO; rw [ho, hq]
      have H1 := hid (fun (W : World) (h : MxAt W) => rfits_yes ha hp ho W h)
      have H2 := hid (fun (W : World) (h : MxAt W) => rfits_none hb hp hq W h)
      rw [e1]
      dsimp only
      rw [hSA, hSP] at H1
      rw [hSB, hSP] at H2
      rw [hSA, hSB, hSP]
      clear hSA hSB hSP ho hq e1 ha hb hp hmx
      go_enter Tryd.func23, Tryd.ntmps23
      go_wp2_with (first | (go_at_call 21; first | ((with_reducible refine (H1.out _ HMx.out).mono ?_); rintro e w1 ⟨⟨v1, rfl⟩, hb1⟩; have HB1 := hid hb1; have HM1 := hid (HMx.out.next hb1); clear hb1 H1) | ((with_reducible refine (H2.out _ HM1.out).mono ?_); rintro e w2 ⟨⟨v2, rfl⟩, hb2⟩; have HB2 := hid (below_out HB1.out hb2); have HM2 := hid (HM1.out.next hb2); clear hb2 H2)) | (go_at_call 38; (with_reducible refine (H3.out _ HM2.out).mono ?_); rintro e w3 ⟨rfl, hb3⟩; have HB3 := hid (below_out HB2.out hb3); clear hb3))
      go_ret2
      exact ⟨rfl, HB2.out⟩
    · have e1 : beatsO a b path = (false, 8) := by unfold beatsO; rw [ho, hq]
      have H1 := hid (fun (W : World) (h : MxAt W) => rfits_yes ha hp ho W h)
      have H2 := hid (fun (W : World) (h : MxAt W) => rfits_no hb hp hq W h)
      rw [e1]
      dsimp only
      rw [hSA, hSP] at H1
      rw [hSB, hSP] at H2
      rw [hSA, hSB, hSP]
      clear hSA hSB hSP ho hq e1 ha hb hp hmx
      go_enter Tryd.func23, Tryd.ntmps23
      go_wp2_with (first | (go_at_call 21; first | ((with_reducible refine (H1.out _ HMx.out).mono ?_); rintro e w1 ⟨⟨v1, rfl⟩, hb1⟩; have HB1 := hid hb1; have HM1 := hid (HMx.out.next hb1); clear hb1 H1) | ((with_reducible refine (H2.out _ HM1.out).mono ?_); rintro e w2 ⟨⟨v2, rfl⟩, hb2⟩; have HB2 := hid (below_out HB1.out hb2); have HM2 := hid (HM1.out.next hb2); clear hb2 H2)) | (go_at_call 38; (with_reducible refine (H3.out _ HM2.out).mono ?_); rintro e w3 ⟨rfl, hb3⟩; have HB3 := hid (below_out HB2.out hb3); clear hb3))
      go_ret2
      exact ⟨rfl, HB2.out⟩
    · have e1 : beatsO a b path = (betterT (cutT a.tail) (cutT b.tail), 0) := by unfold beatsO; rw [ho, hq]
      have H1 := hid (fun (W : World) (h : MxAt W) => rfits_yes ha hp ho W h)
      have H2 := hid (fun (W : World) (h : MxAt W) => rfits_yes hb hp hq W h)
      have H3 := hid (fun (W : World) (h : MxAt W) => rbetter_yes (fitsO_check ho) (fitsO_check hq) W h)
      rw [hSA, hSB] at H3
      rw [e1]
      dsimp only
      rw [hSA, hSP] at H1
      rw [hSB, hSP] at H2
      rw [hSA, hSB, hSP]
      obtain ⟨bb, hbb⟩ : ∃ x, betterT (cutT a.tail) (cutT b.tail) = x := ⟨_, rfl⟩
      rw [hbb] at H3 ⊢
      clear hbb
      clear hSA hSB hSP ho hq e1 ha hb hp hmx
      go_enter Tryd.func23, Tryd.ntmps23
      go_wp2_with (first | (go_at_call 21; first | ((with_reducible refine (H1.out _ HMx.out).mono ?_); rintro e w1 ⟨⟨v1, rfl⟩, hb1⟩; have HB1 := hid hb1; have HM1 := hid (HMx.out.next hb1); clear hb1 H1) | ((with_reducible refine (H2.out _ HM1.out).mono ?_); rintro e w2 ⟨⟨v2, rfl⟩, hb2⟩; have HB2 := hid (below_out HB1.out hb2); have HM2 := hid (HM1.out.next hb2); clear hb2 H2)) | (go_at_call 38; (with_reducible refine (H3.out _ HM2.out).mono ?_); rintro e w3 ⟨rfl, hb3⟩; have HB3 := hid (below_out HB2.out hb3); clear hb3))
      go_ret2
      exact ⟨rfl, HB3.out⟩
def sp1 : B := [47, 97, 47, 58, 105, 100]
def sp2 : B := [47, 97, 47, 98]
def sp3 : B := [47, 97, 47, 99]
theorem sure_c1 : addE [] sp1 = 0 := by decide +kernel
theorem sure_c2 : addE [(sp1, 1)] sp2 = 0 := by decide +kernel
theorem sure_b : begB 47 sp3 = true := by decide +kernel
theorem sure_f1 : fitsT (cutT sp1.tail) (cutT sp3.tail) = some [([105, 100], [99])] := by decide +kernel
theorem sure_f2 : fitsT (cutT sp2.tail) (cutT sp3.tail) = none := by decide +kernel
/-- A trie whose blocks all lie from a number on. -/
def TrB (w : World) (b t : Nat) (P : List (B × Int)) (M : Nat) : Prop := ∃ G es v, Tr w t P M G es v ∧ ∀ i, Ft G es v i → b ≤ i
theorem addB_any {w : World} {b t : Nat} {P : List (B × Int)} {M : Nat} (h : TrB w b t P M) (hb : b ≤ w.heap.size) (hmx : MxAt w) (hM : M + 64 < 1000000) (hP : P.length ≤ 1000000) (p : B) (hp : p.length ≤ 140737488355328) (id : Int) :
    Calls Tryd.prog 8 #[.pointer (some ⟨t, 0, none⟩), .string (str p), .int .i64 id] w fun e w' => e = .returned (errOf (addE P p)) ∧ TrB w' b t (addP P p id) (M + 64) ∧ Below b w w' := by
  obtain ⟨G, es, v, h1, h2⟩ := h
  refine (add_any h1 hmx hM hP p hp id).mono ?_
  rintro e w' ⟨he, G', es', v', k1, k2, k3⟩
  exact ⟨he, ⟨G', es', v', k1, fun i hi => (k3 i hi).elim (h2 i) (fun e1 => Nat.le_trans hb e1)⟩, k2.below hb h2⟩
theorem mx_below {w w' : World} {b : Nat} (h : MxAt w) (hb : Below b w w') (hl : 1 < b) : MxAt w' := by
  obtain ⟨m, h⟩ := h
  exact ⟨m, cell_same h (hb.block _ hl)⟩
set_option maxRecDepth 20000 in
set_option maxHeartbeats 8000000 in
theorem sure_any (w : World) (hmx : MxAt w) : Calls Tryd.prog 19 #[] w fun e w' => e = .returned (.bool true) ∧ Below w.heap.size w w' := by
  have hl1 : 1 < w.heap.size := by obtain ⟨m, h⟩ := hmx; exact lt_of_cell h
  have HMx := hid hmx
  have HNew := hid (new_any w)
  have HA1 := hid (fun (W : World) (h1 : TrB W w.heap.size w.heap.size [] 0) (h2 : w.heap.size ≤ W.heap.size) (h3 : MxAt W) => addB_any h1 h2 h3 (by omega) (by simp) sp1 (by decide) 1)
  have HA2 := hid (fun (W : World) (h1 : TrB W w.heap.size w.heap.size [(sp1, 1)] 64) (h2 : w.heap.size ≤ W.heap.size) (h3 : MxAt W) => addB_any h1 h2 h3 (by omega) (by simp) sp2 (by decide) 2)
  rw [sure_c1, show addP [] sp1 1 = [(sp1, 1)] from by unfold addP; rw [sure_c1]; rfl, errOf_zero] at HA1
  rw [sure_c2, show addP [(sp1, 1)] sp2 2 = [(sp1, 1), (sp2, 2)] from by unfold addP; rw [sure_c2]; rfl, errOf_zero] at HA2
  have HFd := hid (fun (W : World) (h1 : TrB W w.heap.size w.heap.size [(sp1, 1), (sp2, 2)] 128) (h3 : MxAt W) => show Calls Tryd.prog 13 #[.pointer (some ⟨w.heap.size, 0, none⟩), .string (str sp3)] W (fun e w' => Below W.heap.size W w' ∧ ∃ g o d, e = .returned (.tuple #[.int .i64 1, .slice (some ⟨g, o, none⟩) 1 d, .nilIface]) ∧ w'.cell? ⟨g, o, none⟩ = some (.string ⟨#[105, 100]⟩) ∧ w'.cell? ⟨g, o + 1, none⟩ = some (.string ⟨#[99]⟩)) from by
    obtain ⟨G, es, v, k1, _⟩ := h1
    refine (find_any k1 h3 sp3 (by decide)).mono ?_
    rintro e w' ⟨hb, ⟨h, _⟩ | ⟨_, h, _⟩ | ⟨_, p, F, q, d, hp, hf, _, he, ho⟩⟩
    · rw [sure_b] at h; cases h
    · have h4 := h (sp1, 1) (by simp)
      rw [sure_f1] at h4; cases h4
    · have h5 : p = (sp1, 1) := by
        simp at hp
        rcases hp with hp | hp
        · exact hp
        · rw [hp, sure_f2] at hf; cases hf
      subst h5
      rw [sure_f1] at hf
      injection hf with hf
      subst hf
      obtain ⟨g, o, e1, c0, c1⟩ := ho.fat 0 _ rfl
      subst e1
      exact ⟨hb, g, o, d, he, by simpa using c0, by simpa using c1⟩)
  rw [show str sp1 = ⟨#[47, 97, 47, 58, 105, 100]⟩ from rfl] at HA1
  rw [show str sp2 = ⟨#[47, 97, 47, 98]⟩ from rfl] at HA2
  rw [show str sp3 = ⟨#[47, 97, 47, 99]⟩ from rfl] at HFd
  obtain ⟨t, ht⟩ : ∃ t, w.heap.size = t := ⟨_, rfl⟩
  rw [ht] at HA1 HA2 HFd HNew hl1 ⊢
  have HTe := hid ht
  clear ht hmx
  go_enter Tryd.func19, Tryd.ntmps19
  go_wp2_with (first | (go_at_call 7; (with_reducible refine HNew.out.mono ?_); rintro e w1 ⟨rfl, h1, hb1⟩; have HB1 := hid hb1; have HT1 := hid (show TrB w1 t t [] 0 from ⟨_, _, _, h1, fun i hi => by rw [ft_new hi]; exact Nat.le_refl _⟩); have HM1 := hid (mx_below HMx.out hb1 hl1); have HZ1 := hid (show t ≤ w1.heap.size from by rw [← HTe.out]; exact hb1.size); clear h1 hb1) | (go_at_call 8; first | ((with_reducible refine (HA1.out _ HT1.out HZ1.out HM1.out).mono ?_); rintro e w2 ⟨rfl, h2, hb2⟩; have HB2 := hid (HB1.out.trans hb2); have HT2 := hid h2; have HM2 := hid (mx_below HM1.out hb2 hl1); have HZ2 := hid (Nat.le_trans HZ1.out hb2.size); clear h2 hb2) | ((with_reducible refine (HA2.out _ HT2.out HZ2.out HM2.out).mono ?_); rintro e w3 ⟨rfl, h3, hb3⟩; have HB3 := hid (HB2.out.trans hb3); have HT3 := hid h3; have HM3 := hid (mx_below HM2.out hb3 hl1); have HZ3 := hid (Nat.le_trans HZ2.out hb3.size); clear h3 hb3)) | (go_at_call 13; (with_reducible refine (HFd.out _ HT3.out HM3.out).mono ?_); rintro e w4 ⟨hb4, g4, o4, d4, rfl, c0, c1⟩; have HB4 := hid (HB3.out.trans (hb4.mono HZ3.out)); clear hb4))
  go_ret
  exact ⟨rfl, HB4.out⟩
end Go.Proofs.YtdjjkcpnjocafaaDoor
