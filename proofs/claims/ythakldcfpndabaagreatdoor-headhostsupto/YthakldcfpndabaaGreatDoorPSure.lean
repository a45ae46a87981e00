/- What must come whatever the input is. -/
import Derived.Test.YthakldcfpndabaaGreatDoorPParse
import Derived.Lib.SlBytesConst
namespace Go.Proofs.YthakldcfpndabaaGreatDoor
open Go.RowKit

def sureL : B := [71, 69, 84, 32, 47, 32, 72, 84, 84, 80, 47, 49, 46, 49, 13, 10, 72, 111, 115, 116, 58, 32, 97, 13, 10, 13, 10]
theorem sure_plain : allE (feedP (newP false 100) sureL) = 0 ∧ (feedP (newP false 100) sureL).taken = 27 ∧ (feedP (newP false 100) sureL).method = [71, 69, 84] ∧ (feedP (newP false 100) sureL).target = [47] ∧ (feedP (newP false 100) sureL).minor = 1 ∧ (feedP (newP false 100) sureL).fields.length = 1 := by decide +kernel
theorem sure_arg (w : World) (fr : Nat × Nat) : ArgAt (w.alloc (.cells #[.int .u8 71, .int .u8 69, .int .u8 84, .int .u8 32, .int .u8 47, .int .u8 32, .int .u8 72, .int .u8 84, .int .u8 84, .int .u8 80, .int .u8 47, .int .u8 49, .int .u8 46, .int .u8 49, .int .u8 13, .int .u8 10, .int .u8 72, .int .u8 111, .int .u8 115, .int .u8 116, .int .u8 58, .int .u8 32, .int .u8 97, .int .u8 13, .int .u8 10, .int .u8 13, .int .u8 10] 5 fr)) (some ⟨w.heap.size, 0, none⟩) sureL := by
  intro i y hi
  refine ⟨w.heap.size, 0, rfl, ?_⟩
  have e : (#[.int .u8 71, .int .u8 69, .int .u8 84, .int .u8 32, .int .u8 47, .int .u8 32, .int .u8 72, .int .u8 84, .int .u8 84, .int .u8 80, .int .u8 47, .int .u8 49, .int .u8 46, .int .u8 49, .int .u8 13, .int .u8 10, .int .u8 72, .int .u8 111, .int .u8 115, .int .u8 116, .int .u8 58, .int .u8 32, .int .u8 97, .int .u8 13, .int .u8 10, .int .u8 13, .int .u8 10] : Array Value) = (Lib.byteCells sureL).toArray := rfl
  have h1 := heap_alloc_new w (.cells #[.int .u8 71, .int .u8 69, .int .u8 84, .int .u8 32, .int .u8 47, .int .u8 32, .int .u8 72, .int .u8 84, .int .u8 84, .int .u8 80, .int .u8 47, .int .u8 49, .int .u8 46, .int .u8 49, .int .u8 13, .int .u8 10, .int .u8 72, .int .u8 111, .int .u8 115, .int .u8 116, .int .u8 58, .int .u8 32, .int .u8 97, .int .u8 13, .int .u8 10, .int .u8 13, .int .u8 10] 5 fr)
  rw [Nat.zero_add]
  simp only [World.cell?, h1]
  rw [e]
  simp [Lib.byteCells, hi]
set_option maxRecDepth 20000 in
set_option maxHeartbeats 8000000 in
theorem sure_any (w : World) : Calls Tryz.prog 9 #[] w fun e w' => e = .returned (.bool true) ∧ Below w.heap.size w w' := by
  obtain ⟨s0, s1, s2, s3, s4, s5⟩ := sure_plain
  have hconv := Lib.run_convert_bytes_const (P := Tryz.prog) w 51 5 #[.int .u8 71, .int .u8 69, .int .u8 84, .int .u8 32, .int .u8 47, .int .u8 32, .int .u8 72, .int .u8 84, .int .u8 84, .int .u8 80, .int .u8 47, .int .u8 49, .int .u8 46, .int .u8 49, .int .u8 13, .int .u8 10, .int .u8 72, .int .u8 111, .int .u8 115, .int .u8 116, .int .u8 58, .int .u8 32, .int .u8 97, .int .u8 13, .int .u8 10, .int .u8 13, .int .u8 10] 27 27 Tryz.underlying51 Tryz.underlying5
  obtain ⟨W0, hW0⟩ : ∃ W0, W0 = w.alloc (.cells #[.int .u8 71, .int .u8 69, .int .u8 84, .int .u8 32, .int .u8 47, .int .u8 32, .int .u8 72, .int .u8 84, .int .u8 84, .int .u8 80, .int .u8 47, .int .u8 49, .int .u8 46, .int .u8 49, .int .u8 13, .int .u8 10, .int .u8 72, .int .u8 111, .int .u8 115, .int .u8 116, .int .u8 58, .int .u8 32, .int .u8 97, .int .u8 13, .int .u8 10, .int .u8 13, .int .u8 10] 5 (27, 28)) := ⟨_, rfl⟩
  have HC := hid (parse_req_ok sureL (some ⟨w.heap.size, 0, none⟩) 27 27 100 W0 rfl (by rw [hW0]; exact sure_arg w _) (by omega) (by omega) s0)
  have HB0 := hid (show Below w.heap.size w W0 from by rw [hW0]; exact below_new w _)
  rw [errOf_zero, s1, show ((27 : Nat) : Int) = 27 from rfl] at HC
  unfold reqC at HC
  rw [s2, s3, s4] at HC
  obtain ⟨fs, hfs⟩ : ∃ fs, (feedP (newP false 100) sureL).fields = fs := ⟨_, rfl⟩
  rw [hfs] at HC s5
  have HF := hid s5
  simp only [List.size_toArray, List.length_cons, List.length_nil] at hconv
  rw [show (0 + 1 + 1 + 1 + 1 + 1 + 1 + 1 + 1 + 1 + 1 + 1 + 1 + 1 + 1 + 1 + 1 + 1 + 1 + 1 + 1 + 1 + 1 + 1 + 1 + 1 + 1 + 1 : Nat) = 27 from rfl, ← hW0] at hconv
  clear s0 s1 s2 s3 s4 s5 hfs hW0
  go_enter Tryz.func9, Tryz.ntmps9
  go_wp2_with (go_at_call 20; (with_reducible refine HC.out.mono ?_); rintro e w1 ⟨v, rfl, hv, hb⟩; have HB := hid (HB0.out.trans (hb.mono HB0.out.size)); obtain ⟨q1, q2, q3, rfl⟩ := own_slice3 hv; obtain rfl : q2 = 1 := (by rw [← sliceF_len hv]; exact HF.out); clear hv hb)
  go_ret
  exact ⟨rfl, HB.out.trans ((below_new _ _).mono HB.out.size)⟩
end Go.Proofs.YthakldcfpndabaaGreatDoor
