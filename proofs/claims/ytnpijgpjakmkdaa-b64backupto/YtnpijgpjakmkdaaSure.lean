/- What must come whatever the input is. -/
import Derived.Test.YtnpijgpjakmkdaaDec
namespace Go.Proofs.Ytnpijgpjakmkdaa
open Go.RowKit

theorem errV_zero : errV 0 = .nilIface := rfl
theorem told_qq : bytesL (numsS { data := #[81, 81] }) = some [65] := by decide +kernel
theorem told_qq' {l : List Int} {k : Int} (h : Told (numsS { data := #[81, 81] }) l k) : l = [65] ∧ k = 0 := by
  rcases h with ⟨h, rfl⟩ | ⟨h, _⟩
  · rw [told_qq] at h
    exact ⟨by simpa using h.symm, rfl⟩
  · rw [told_qq] at h
    simp at h
theorem text_light : strOfNums (textL [108, 105, 103, 104, 116, 32, 119]) = { data := #[98, 71, 108, 110, 97, 72, 81, 103, 100, 119] } := by decide +kernel
theorem text_A : strOfNums [65] = { data := #[65] } := by decide +kernel
theorem conv22 (w : World) (C : Array Value) (n c : Nat) : (convert 22 22 (.slice (some ⟨w.heap.size, 0, none⟩) n c)).run Try.prog (w.alloc (.cells C 5)) = .ok (.slice (some ⟨w.heap.size, 0, none⟩) n c) (w.alloc (.cells C 5 (C.size, C.size + 1))) :=
  Lib.run_convert_bytes_const (P := Try.prog) w 22 5 C n c (by kernel_rfl) (by kernel_rfl)
theorem light_arg (w : World) (z : Nat × Nat) : ArgAt (w.alloc (.cells #[.int .u8 108, .int .u8 105, .int .u8 103, .int .u8 104, .int .u8 116, .int .u8 32, .int .u8 119] 5 z)) (.slice (some ⟨w.heap.size, 0, none⟩) 7 7) [108, 105, 103, 104, 116, 32, 119] := by
  refine .inr ⟨w.heap.size, 0, 7, by simp, rfl, Nat.le_refl _, by unfold maxLen; omega, ?_⟩
  intro j v hj
  have hn := heap_alloc_new w (.cells #[.int .u8 108, .int .u8 105, .int .u8 103, .int .u8 104, .int .u8 116, .int .u8 32, .int .u8 119] 5 z)
  simp only [World.cell?, hn, Nat.zero_add]
  match j, hj with
  | 0, hj => simpa using hj
  | 1, hj => simpa using hj
  | 2, hj => simpa using hj
  | 3, hj => simpa using hj
  | 4, hj => simpa using hj
  | 5, hj => simpa using hj
  | 6, hj => simpa using hj
theorem light_oct : Oct [108, 105, 103, 104, 116, 32, 119] := by
  unfold Oct
  decide
theorem mine_A {w W : World} {pa : Option Addr} {c : Nat} (h : Mine w W pa c [65]) : (convert 22 9 (.slice pa 1 c)).run Try.prog W = .ok (.string { data := #[65] }) W := by
  rw [← text_A]
  exact h.arg.conv
set_option maxRecDepth 20000 in
set_option maxHeartbeats 2000000 in
theorem sure_any (w : World) : Calls Try.prog 7 #[] w fun e w' => e = .returned (.bool true) ∧ Below w.heap.size w w' := by
  have hcv := conv22
  go_enter Try.func7, Try.ntmps7
  go_wp2_with (first
    | (go_at_call 5; (with_reducible refine (decode_any { data := #[81, 81] } _ (by decide)).mono ?_); rintro e w1 ⟨pa, c, l, k, rfl, hm1, ht1⟩; obtain ⟨rfl, rfl⟩ := told_qq' ht1; rw [errV_zero]; have M1 := hid hm1; clear hm1 ht1)
    | (go_at_call 4; (with_reducible refine (encode_any (light_arg _ _) light_oct (by decide)).mono ?_); rintro e w2 ⟨rfl, hb2⟩; rw [text_light]; have hm2 := (M1.out.next (below_new _ _)).next hb2; have hcv2 := mine_A hm2; have M2 := hid hm2; clear hm2 hb2 M1))
  go_ret
  exact ⟨rfl, M2.out.below⟩
end Go.Proofs.Ytnpijgpjakmkdaa
