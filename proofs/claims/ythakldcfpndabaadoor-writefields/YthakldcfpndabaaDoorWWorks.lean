/- What must come whatever the input is. -/
import Derived.Test.YthakldcfpndabaaDoorWLocal
namespace Go.Proofs.YthakldcfpndabaaDoor
open Go.RowKit

def workT : B := [71, 69, 84, 32, 47, 32, 72, 84, 84, 80, 47, 49, 46, 49, 13, 10, 72, 111, 115, 116, 58, 32, 97, 13, 10, 13, 10]
theorem work_head : headW (firstQ [71, 69, 84] [47] (verC 1)) [([72, 111, 115, 116], [97])] = workT := by decide +kernel
theorem work_wr : wrE (firstQ [71, 69, 84] [47] (verC 1)) [([72, 111, 115, 116], [97])] = 0 := by decide +kernel
theorem work_line : lineQ [71, 69, 84] [47] 1 = true := by decide +kernel
theorem work_bad : lineQ [71, 32, 84] [47] 0 = false := by decide +kernel
theorem work_loc : locB 404 1 = true := by decide +kernel
theorem work_body : bodyL 404 = [52, 48, 52, 32, 78, 111, 116, 32, 70, 111, 117, 110, 100, 10] := by decide +kernel
theorem work_reason : reasonB 404 = [78, 111, 116, 32, 70, 111, 117, 110, 100] := by decide +kernel
theorem fat_one (w : World) (f : B × B) : FAt (w.alloc (.cells #[.string (str f.1), .string (str f.2)] 25 (0, 0))) (some ⟨w.heap.size, 0, none⟩) [f] := by
  intro j g hj
  have hh := heap_alloc_new w (.cells #[.string (str f.1), .string (str f.2)] 25 (0, 0))
  match j, hj with
  | 0, hj =>
    simp at hj
    subst hj
    exact ⟨_, _, rfl, by simp only [World.cell?, hh]; rfl, by simp only [World.cell?, hh]; rfl⟩
  | j + 1, hj => simp at hj
set_option maxRecDepth 20000 in
set_option maxHeartbeats 8000000 in
theorem works10_any (w : World) (hE : EnvP w) : Calls Tryd.prog 17 #[] w fun e w' => e = .returned (.bool true) ∧ Below w.heap.size w w' := by
  have HE := hid hE
  have HB0 := hid (below_new w (.cells #[.string ⟨#[72, 111, 115, 116]⟩, .string ⟨#[97]⟩] 25 (0, 0)))
  have HQ := hid (wreq_yes [71, 69, 84] [47] 1 [([72, 111, 115, 116], [97])] (some ⟨w.heap.size, 0, none⟩) 1 1 rfl (w.alloc (.cells #[.string ⟨#[72, 111, 115, 116]⟩, .string ⟨#[97]⟩] 25 (0, 0))) (hE.next HB0.out) (fat_one w ([72, 111, 115, 116], [97])) (fun f hf => by simp at hf; subst hf; simp) (by decide) (by decide) (by decide) work_line work_wr)
  rw [work_head, show workT.length = 27 from rfl] at HQ
  have HLc := hid (show ∀ W : World, EnvP W → _ from fun W h => local_yes_true 404 1 W h work_loc)
  rw [work_body, work_reason] at HLc
  have HQ2 := hid (show ∀ W : World, _ from fun W => wreq_line [71, 32, 84] [47] 0 none 0 0 W (by decide) (by decide) work_bad)
  have HNm := hid (show ∀ W : World, _ from fun W => num10_any 20 W)
  rw [errOf_pos (by decide), show ((20 : Nat) : Int) = 20 from rfl] at HNm
  clear hE
  go_enter Tryd.func17, Tryd.ntmps17
  go_wp2_with (first | (go_at_call 39; (with_reducible refine HQ.out.mono ?_); rintro e w2 ⟨q2, d2, rfl, ho2, hb⟩; have HB2 := hid (below_out HB0.out hb); have HO2 := hid ho2; clear hb ho2 HQ) | (go_at_call 40; (with_reducible refine (HLc.out _ (HE.out.next HB2.out)).mono ?_); rintro e w5 ⟨p5, c5, g5, d5, rfl, hF5, hA5, hb⟩; have hb6 := below_new w5 (.cells #[.int .i64 404, .string ⟨#[78, 111, 116, 32, 70, 111, 117, 110, 100]⟩, .int .i64 1, .slice p5 3 c5] 54 (0, 0)); have HB6 := hid (below_out (below_out HB2.out hb) hb6); have HO6 := hid ((HO2.out.keep hb).keep hb6); have HA6 := hid (hA5.next hb6); have HH6 := hid (heap_alloc_new w5 (.cells #[.int .i64 404, .string ⟨#[78, 111, 116, 32, 70, 111, 117, 110, 100]⟩, .int .i64 1, .slice p5 3 c5] 54 (0, 0))); have HG6 := hid (show w5.heap.size < (w5.alloc (.cells #[.int .i64 404, .string ⟨#[78, 111, 116, 32, 70, 111, 117, 110, 100]⟩, .int .i64 1, .slice p5 3 c5] 54 (0, 0))).heap.size from by simp); clear hb hb6 hF5 hA5 HLc) | (go_at_call 39; (with_reducible refine (HQ2.out _).mono ?_); rintro e w8 ⟨rfl, hb⟩; have HB8 := hid (below_out HB6.out hb); have hcv1 : (convert 74 9 (.slice q2 27 d2)).run Tryd.prog w8 = .ok (.string ⟨#[71, 69, 84, 32, 47, 32, 72, 84, 84, 80, 47, 49, 46, 49, 13, 10, 72, 111, 115, 116, 58, 32, 97, 13, 10, 13, 10]⟩) w8 := conv_own (HO6.out.keep hb); have hcv2 : (convert 74 9 (.slice (some ⟨g5, 0, none⟩) 14 d5)).run Tryd.prog w8 = .ok (.string ⟨#[52, 48, 52, 32, 78, 111, 116, 32, 70, 111, 117, 110, 100, 10]⟩) w8 := conv_arg (c := d5) (HA6.out.next hb); have hz := (hb.block _ HG6.out).trans HH6.out; obtain ⟨y0, y1, y2, y3, yz⟩ := cells4 hz; clear hb hz yz HQ2) | (go_at_call 41; (with_reducible refine (HNm.out _).mono ?_); rintro e w9 ⟨rfl, hw9⟩; subst w9))
  go_ret
  exact ⟨rfl, HB8.out⟩
end Go.Proofs.YthakldcfpndabaaDoor
