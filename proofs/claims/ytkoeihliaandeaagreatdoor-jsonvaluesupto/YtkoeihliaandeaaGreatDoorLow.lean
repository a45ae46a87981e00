/- The other half of a pair, codes and escapes. -/
import Derived.Test.YtkoeihliaandeaaGreatDoorHex
namespace Go.Proofs.YtkoeihliaandeaaGreatDoor
open Go.RowKit

theorem seq_len : ∀ (Ss : List B) (l : B) (x : Unit) (u : B), seqSkip Ss l = .ok x u → Ss.length ≤ l.length
  | [], _, _, _, _ => Nat.zero_le _
  | S :: T, l, x, u, h => by
    simp only [seqSkip] at h
    cases hs : skip S l with
    | none => rw [hs] at h; simp at h
    | some t =>
      rw [hs] at h
      have h1 := skip_length hs
      have h2 := seq_len T t x u h
      simp
      omega
def lowBlock (w : World) (g : Nat) : Prop := w.heap[g]? = some (.cells #[.string ⟨#[92]⟩, .string ⟨#[117]⟩, .string ⟨#[100, 68]⟩, .string ⟨#[99, 100, 101, 102, 67, 68, 69, 70]⟩] 9 (0, 0))
theorem lowBlock.turn {w w' : World} {g b : Nat} (h : lowBlock w g) (t : Turn b w w') (hb : g ≠ b) : lowBlock w' g := (t.block g (lt_of_heap h) hb).trans h
set_option maxRecDepth 20000 in
set_option maxHeartbeats 4000000 in
theorem low_any {w : World} {b : Nat} {s : ByteArray} {l : B} {d : Nat} (h : Rd w b s l d) :
    Calls Tryz.prog 105 #[.pointer (some ⟨b, 0, none⟩)] w fun e w' => ToldN (lowHalf l) b s d w e w' := by
  obtain ⟨T, HT⟩ : ∃ T, Hid (seqSkip lowL l = T) := ⟨_, rfl⟩
  obtain ⟨p, hA⟩ := h.at
  have c1 := hA.c1
  have hm := hA.most
  have hle := hA.le
  have HA := hid hA
  have R0 := hid (And.intro h (Turn.refl b w))
  have HB := hid h.lt
  clear h hA
  go_enter Tryz.func105, Tryz.ntmps105
  go_wp2
  go_loopg [13] 5 (fun gk s13 wr => ∃ (i : Nat) (t : B), i ≤ 4 ∧ gk = 4 - i + 1 ∧ s13 = .int .i64 (i : Int) ∧ seqSkip (lowL.drop i) t = T ∧ Rd wr b s t d ∧ Turn b w wr ∧ lowBlock wr w.heap.size)
  case atStart =>
    refine ⟨0, l, by omega, rfl, rfl, HT.out, ?_, ?_, ?_⟩
    · exact R0.out.1.below (below_new _ _)
    · exact R0.out.2.alloc _
    · unfold lowBlock; exact heap_alloc_new w _
  case round =>
    obtain ⟨i, t, hi, rfl, rfl, h3, h4, h5, h6⟩ := hrel
    have H := hid h3
    have R1 := hid (And.intro h4 h5)
    have HG := hid h6
    have k0 : wr.cell? ⟨w.heap.size, 0, none⟩ = some (.string ⟨#[92]⟩) := by unfold lowBlock at h6; simp [World.cell?, h6]
    have k1 : wr.cell? ⟨w.heap.size, 1, none⟩ = some (.string ⟨#[117]⟩) := by unfold lowBlock at h6; simp [World.cell?, h6]
    have k2 : wr.cell? ⟨w.heap.size, 2, none⟩ = some (.string ⟨#[100, 68]⟩) := by unfold lowBlock at h6; simp [World.cell?, h6]
    have k3 : wr.cell? ⟨w.heap.size, 3, none⟩ = some (.string ⟨#[99, 100, 101, 102, 67, 68, 69, 70]⟩) := by unfold lowBlock at h6; simp [World.cell?, h6]
    clear h3 h4 h5 h6
    rcases (by omega : i = 0 ∨ i = 1 ∨ i = 2 ∨ i = 3 ∨ i = 4) with rfl | rfl | rfl | rfl | rfl
    · cases hs : skip [92] t with
      | none =>
        have HS := hid hs
        clear hs
        go_wp2_with (go_at_call 47; (with_reducible refine (skip_back R1.out.1).mono ?_); intro e w1 hq; obtain ⟨rfl, hz⟩ := Skips.no hq HS.out; have R2 := hid (And.intro hz.1 (R1.out.2.trans hz.2)); clear hz hq R1)
        go_ret2
        have hw : T = .err 3 t := by rw [← H.out]; simp only [lowL, List.drop, seqSkip]; rw [HS.out]
        unfold lowHalf
        rw [HT.out, hw]
        exact ⟨rfl, R2.out⟩
      | some u =>
        have HS := hid hs
        clear hs
        go_wp2_with (go_at_call 47; (with_reducible refine (skip_back R1.out.1).mono ?_); intro e w1 hq; obtain ⟨rfl, hz⟩ := Skips.yes hq HS.out; have R2 := hid (And.intro hz.1 (R1.out.2.trans hz.2)); have HG2 := hid (HG.out.turn hz.2 (fun x => by have := HB.out; omega)); clear hz hq R1 HG)
        go_roundg 4
        case measure => omega
        case rel =>
          refine ⟨1, u, by omega, rfl, rfl, ?_, R2.out.1, R2.out.2, HG2.out⟩
          rw [← H.out]
          simp only [lowL, List.drop, seqSkip]
          rw [HS.out]
    · cases hs : skip [117] t with
      | none =>
        have HS := hid hs
        clear hs
        go_wp2_with (go_at_call 47; (with_reducible refine (skip_uu R1.out.1).mono ?_); intro e w1 hq; obtain ⟨rfl, hz⟩ := Skips.no hq HS.out; have R2 := hid (And.intro hz.1 (R1.out.2.trans hz.2)); clear hz hq R1)
        go_ret2
        have hw : T = .err 3 t := by rw [← H.out]; simp only [lowL, List.drop, seqSkip]; rw [HS.out]
        unfold lowHalf
        rw [HT.out, hw]
        exact ⟨rfl, R2.out⟩
      | some u =>
        have HS := hid hs
        clear hs
        go_wp2_with (go_at_call 47; (with_reducible refine (skip_uu R1.out.1).mono ?_); intro e w1 hq; obtain ⟨rfl, hz⟩ := Skips.yes hq HS.out; have R2 := hid (And.intro hz.1 (R1.out.2.trans hz.2)); have HG2 := hid (HG.out.turn hz.2 (fun x => by have := HB.out; omega)); clear hz hq R1 HG)
        go_roundg 3
        case measure => omega
        case rel =>
          refine ⟨2, u, by omega, rfl, rfl, ?_, R2.out.1, R2.out.2, HG2.out⟩
          rw [← H.out]
          simp only [lowL, List.drop, seqSkip]
          rw [HS.out]
    · cases hs : skip [100, 68] t with
      | none =>
        have HS := hid hs
        clear hs
        go_wp2_with (go_at_call 47; (with_reducible refine (skip_dd R1.out.1).mono ?_); intro e w1 hq; obtain ⟨rfl, hz⟩ := Skips.no hq HS.out; have R2 := hid (And.intro hz.1 (R1.out.2.trans hz.2)); clear hz hq R1)
        go_ret2
        have hw : T = .err 3 t := by rw [← H.out]; simp only [lowL, List.drop, seqSkip]; rw [HS.out]
        unfold lowHalf
        rw [HT.out, hw]
        exact ⟨rfl, R2.out⟩
      | some u =>
        have HS := hid hs
        clear hs
        go_wp2_with (go_at_call 47; (with_reducible refine (skip_dd R1.out.1).mono ?_); intro e w1 hq; obtain ⟨rfl, hz⟩ := Skips.yes hq HS.out; have R2 := hid (And.intro hz.1 (R1.out.2.trans hz.2)); have HG2 := hid (HG.out.turn hz.2 (fun x => by have := HB.out; omega)); clear hz hq R1 HG)
        go_roundg 2
        case measure => omega
        case rel =>
          refine ⟨3, u, by omega, rfl, rfl, ?_, R2.out.1, R2.out.2, HG2.out⟩
          rw [← H.out]
          simp only [lowL, List.drop, seqSkip]
          rw [HS.out]
    · cases hs : skip [99, 100, 101, 102, 67, 68, 69, 70] t with
      | none =>
        have HS := hid hs
        clear hs
        go_wp2_with (go_at_call 47; (with_reducible refine (skip_cf R1.out.1).mono ?_); intro e w1 hq; obtain ⟨rfl, hz⟩ := Skips.no hq HS.out; have R2 := hid (And.intro hz.1 (R1.out.2.trans hz.2)); clear hz hq R1)
        go_ret2
        have hw : T = .err 3 t := by rw [← H.out]; simp only [lowL, List.drop, seqSkip]; rw [HS.out]
        unfold lowHalf
        rw [HT.out, hw]
        exact ⟨rfl, R2.out⟩
      | some u =>
        have HS := hid hs
        clear hs
        go_wp2_with (go_at_call 47; (with_reducible refine (skip_cf R1.out.1).mono ?_); intro e w1 hq; obtain ⟨rfl, hz⟩ := Skips.yes hq HS.out; have R2 := hid (And.intro hz.1 (R1.out.2.trans hz.2)); have HG2 := hid (HG.out.turn hz.2 (fun x => by have := HB.out; omega)); clear hz hq R1 HG)
        go_roundg 1
        case measure => omega
        case rel =>
          refine ⟨4, u, by omega, rfl, rfl, ?_, R2.out.1, R2.out.2, HG2.out⟩
          rw [← H.out]
          simp only [lowL, List.drop, seqSkip]
          rw [HS.out]
    · have hT : T = .ok () t := by rw [← H.out]; rfl
      have hL : 4 ≤ l.length := seq_len lowL l () t (by rw [HT.out, hT])
      have HX := hid (show s.data.toList.drop (p + 2) = l.drop 2 ∧ p + 2 ≤ s.size from ⟨by rw [← List.drop_drop, HA.out.drop], by have := HA.out.len; omega⟩)
      obtain ⟨p1, hA1⟩ := R1.out.1.at
      have d1 := hA1.c1
      have f1 := hA1.fz 1
      have HT2 := hid hT
      clear hA1 k0 k1 k2 k3 hT hL
      have R2 := hid (show Rd (wr.setCell ⟨b, 1, none⟩ (.int .i64 ((p : Int) + 2))) b s (l.drop 2) d ∧ Turn b w (wr.setCell ⟨b, 1, none⟩ (.int .i64 ((p : Int) + 2))) from ⟨R1.out.1.moved _ (by push_cast; rfl) HX.out.2 HX.out.1, R1.out.2.setCell _ _⟩)
      cases hf : four 4 0 (l.drop 2) with
      | ok n u =>
        have HF := hid hf
        clear hf
        go_wp2_with (go_at_call 102; (with_reducible refine (four_any R2.out.1).mono ?_); intro e w1 hq; obtain ⟨rfl, hz⟩ := ToldN.yes hq HF.out; have R3 := hid (And.intro hz.1 (R2.out.2.trans hz.2)); clear hz hq R2)
        go_ret2
        unfold lowHalf
        rw [HT.out, HT2.out]
        simp only []
        rw [HF.out]
        exact ⟨rfl, R3.out⟩
      | err n u =>
        have HF := hid hf
        clear hf
        go_wp2_with (go_at_call 102; (with_reducible refine (four_any R2.out.1).mono ?_); intro e w1 hq; obtain ⟨rfl, hz⟩ := ToldN.no hq HF.out; have R3 := hid (And.intro hz.1 (R2.out.2.trans hz.2)); clear hz hq R2)
        go_ret2
        unfold lowHalf
        rw [HT.out, HT2.out]
        simp only []
        rw [HF.out]
        exact ⟨rfl, R3.out⟩
end Go.Proofs.YtkoeihliaandeaaGreatDoor
