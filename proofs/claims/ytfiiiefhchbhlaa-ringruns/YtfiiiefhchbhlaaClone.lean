/- Clone of package ring. -/
import Derived.Test.YtfiiiefhchbhlaaWrite
namespace Go.Proofs.Ytfiiiefhchbhlaa
open Go.RowKit

theorem cells3 {w w1 : World} {r g S F C : Nat} {L : List Int} (h : RingAt w r g S F C L) (hb : Below w.heap.size w w1) :
    w1.cell? ⟨r, 0, none⟩ = some (.slice (some ⟨g, 0, none⟩) S S) ∧ w1.cell? ⟨r, 1, none⟩ = some (.int .i64 F) ∧ w1.cell? ⟨r, 2, none⟩ = some (.int .i64 C) :=
  ⟨(h.below hb).c0, (h.below hb).c1, (h.below hb).c2⟩
theorem fresh_at (w : World) (S F C : Nat) (h1 : F < S) (h2 : S ≤ 1048576) (h3 : C ≤ S) : Fresh w ((w.alloc (.cells (zeroRow S) 5)).alloc (.cells #[.slice (some ⟨w.heap.size, 0, none⟩) S S, .int .i64 F, .int .i64 C] 56)) (w.heap.size + 1) w.heap.size S F C (List.replicate S 0) := by
  refine ⟨((Below.refl _ _).alloc (Nat.le_refl _) _).alloc (by simp) _, by omega, Nat.le_refl _, ?_, ?_, by simp, h1, h3, h2, by omega⟩
  · have := heap_new (w.alloc (.cells (zeroRow S) 5)) (.cells #[.slice (some ⟨w.heap.size, 0, none⟩) S S, .int .i64 F, .int .i64 C] 56)
    simp only [World.size_alloc] at this
    exact this
  · rw [heap_old _ _ _ (by simp), heap_new]
    rfl
set_option maxHeartbeats 1000000 in
theorem clone_any {w : World} {r g S F C : Nat} {L : List Int} (h : RingAt w r g S F C L) :
    Calls Try.prog 13 #[.pointer (some ⟨r, 0, none⟩)] w fun e w' => ∃ r2, e = .returned (.pointer (some ⟨r2, 0, none⟩)) ∧ ∃ g2, Fresh w w' r2 g2 S F C L := by
  have hS := h.most
  have hmk := make_bytes S hS
  have c0 := h.c0
  have c1 := h.c1
  have c2 := h.c2
  have k1 := cells3 h ((Below.refl _ _).alloc (Nat.le_refl _) (.cells (zeroRow S) 5))
  have k2 := cells3 h (((Below.refl _ _).alloc (Nat.le_refl _) (.cells (zeroRow S) 5)).alloc (by simp) (.cells #[.slice (some ⟨w.heap.size, 0, none⟩) S S, .int .i64 F, .int .i64 C] 56))
  have hf := fresh_at w S F C h.first h.most h.count
  have HF := hid hf
  have HH := hid h
  have d0 := hf.ring.c0
  have HZ : Hid (r ≠ w.heap.size ∧ g ≠ w.heap.size) := ⟨Nat.ne_of_lt h.rlt, Nat.ne_of_lt h.glt⟩
  have HRG := hid (h.below hf.below)
  have HLs : Hid (splice (List.replicate S 0) 0 L = L) := by show _ = _; exact splice_all _ _ (by simp [h.len])
  have k20 := k2.1
  go_enter Try.func13, Try.ntmps13
  go_wp2
  go_region_held3 (fun w2 => w2.cell? ⟨r, 0, none⟩ = some (.slice (some ⟨g, 0, none⟩) S S) ∧ w2.cell? ⟨r, 1, none⟩ = some (.int .i64 F) ∧ w2.cell? ⟨r, 2, none⟩ = some (.int .i64 C)) (first | exact ⟨by assumption, by assumption, by assumption⟩ | exact k1 | exact k2) (fail)
  go_wp2
  go_region_held3 (fun w2 => w2.cell? ⟨r, 0, none⟩ = some (.slice (some ⟨g, 0, none⟩) S S) ∧ w2.cell? ⟨w.heap.size + 1, 0, none⟩ = some (.slice (some ⟨w.heap.size, 0, none⟩) S S)) (exact ⟨by assumption, by assumption⟩)
    ((refine step_copy_bytes rfl _ _ rfl _ _ _ _ _ _ rfl rfl w.heap.size 0 (List.replicate S 0) HF.out.ring.drew.room L (by rw [HH.out.len]; simp) (fun _ => ⟨rfl, g, 0, rfl, by have := HRG.out.src 0 L.length; simpa using this⟩) (by rw [HH.out.len]; simp) S HH.out.len ?_; intro w3 hc3; rw [HLs.out] at hc3; have hf3 := HF.out.ring.drew.drew.copied hc3 HH.out.len; have h3 := HRG.out.drew.drew.away hc3 HZ.out.1 HZ.out.2; have d03 := hf3.c0; have c03 := h3.c0))
  go_wp2
  go_ret
  exact ⟨_, rfl, w.heap.size, hc3.below HF.out.below.drew.drew (Nat.le_refl _), by omega, Nat.le_refl _, hf3⟩
theorem hclone_any {w : World} {r g S : Nat} {q : List Int} (h : Holds w r g S q) :
    Calls Try.prog 13 #[.pointer (some ⟨r, 0, none⟩)] w fun e w' => ∃ r2, e = .returned (.pointer (some ⟨r2, 0, none⟩)) ∧ ∃ g2, Below w.heap.size w w' ∧ w.heap.size ≤ r2 ∧ w.heap.size ≤ g2 ∧ Holds w' r2 g2 S q := by
  obtain ⟨F, L, h1, h2⟩ := h
  refine (clone_any h1).mono ?_
  rintro e w' ⟨r2, rfl, g2, hf⟩
  refine ⟨r2, rfl, g2, hf.below, hf.rlo, hf.glo, ?_⟩
  have := Holds.of_ring hf.ring
  rwa [h2] at this
end Go.Proofs.Ytfiiiefhchbhlaa
