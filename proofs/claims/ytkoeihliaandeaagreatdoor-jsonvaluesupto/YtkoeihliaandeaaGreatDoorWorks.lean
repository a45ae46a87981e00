/- The head of the statements: num, works. -/
import Derived.Test.YtkoeihliaandeaaGreatDoorPrint
namespace Go.Proofs.YtkoeihliaandeaaGreatDoor
open Go.RowKit

def workV : JV := .mk 6 false [] 0 false [.mk 5 false [] 0 false [.mk 3 false [49] 1 true [] [], .mk 3 false [45, 48, 46, 53, 101, 51] 0 false [] []] []] [[97]]
theorem work1 : parse [32, 123, 34, 97, 34, 58, 91, 49, 44, 45, 48, 46, 53, 101, 51, 93, 125, 32] = (workV, 18, 0) := by kernel_rfl
theorem work2 : parse [123, 34, 97, 34, 58, 49, 44, 34, 92, 117, 48, 48, 54, 49, 34, 58, 50, 125] = (.zero, 7, 6) := by kernel_rfl
theorem work3 : printS workV = ([123, 34, 97, 34, 58, 91, 49, 44, 45, 48, 46, 53, 101, 51, 93, 125], 0) := by kernel_rfl
theorem work4 : Fits workV := by
  simp [workV, Fits, FitsL, maxI]
theorem work5 : (printV workV).length ≤ 4611686018427387904 := by
  rw [show printV workV = [123, 34, 97, 34, 58, 91, 49, 44, 45, 48, 46, 53, 101, 51, 93, 125] from by kernel_rfl]
  decide
set_option maxRecDepth 20000 in
set_option maxHeartbeats 4000000 in
theorem num_none (w : World) : Calls Tryz.prog 7 #[.nilIface] w fun e w' => e = .returned (.int .i64 0) ∧ w' = w := by
  go_enter Tryz.func7, Tryz.ntmps7
  go_wp2
  go_ret
  exact ⟨rfl, rfl⟩
theorem assertE (v : Value) (w : World) : (Instr.typeAssert (.iface 43 v) 27 43 true).run Tryz.prog w = .ok (.tuple #[v, .bool true]) w := by kernel_rfl
set_option maxRecDepth 20000 in
set_option maxHeartbeats 4000000 in
theorem num_some (k : Nat) (w : World) : Calls Tryz.prog 7 #[.iface 43 (.int .i64 (k : Int))] w fun e w' => e = .returned (.int .i64 (k : Int)) ∧ w' = w := by
  have ha := assertE (.int .i64 (k : Int))
  go_enter Tryz.func7, Tryz.ntmps7
  go_wp2
  go_ret
  exact ⟨rfl, rfl⟩
theorem errnum_any (k : Nat) (w : World) : Calls Tryz.prog 7 #[errOf k] w fun e w' => e = .returned (.int .i64 (k : Int)) ∧ w' = w := by
  by_cases h : k = 0
  · subst h
    exact num_none w
  · rw [errOf_pos h]
    exact num_some k w
set_option maxRecDepth 20000 in
set_option maxHeartbeats 4000000 in
theorem works_any (w : World) (hE : Env w) : Calls Tryz.prog 9 #[] w fun e w' => e = .returned (.bool true) ∧ Below w.heap.size w w' := by
  have HE := hid hE
  have HB0 := hid (Below.refl w.heap.size w)
  clear hE
  go_enter Tryz.func9, Tryz.ntmps9
  go_wp2_with (first
    | (go_at_call 5; have hcall := parse_any (w := w) ⟨#[32, 123, 34, 97, 34, 58, 91, 49, 44, 45, 48, 46, 53, 101, 51, 93, 125, 32]⟩ (by decide) (HE.out.below HB0.out); rw [show parse (⟨#[32, 123, 34, 97, 34, 58, 91, 49, 44, 45, 48, 46, 53, 101, 51, 93, 125, 32]⟩ : ByteArray).data.toList = (workV, 18, 0) from work1] at hcall; (with_reducible refine hcall.mono ?_); clear hcall; rintro e w1 ⟨cs, rfl, z1, z2⟩; obtain ⟨a1, a2, a3, a4, a5, a6, a7, a8, a9, a10, a11, rfl⟩ := z1.form; have ZV := hid ((ValOn.of z1).below (below_new _ (C7 a1 a2 a3 a4 a5 a6 a7 a8 a9 a10 a11))); have HB1 := hid (z2.trans ((below_new w1 (C7 a1 a2 a3 a4 a5 a6 a7 a8 a9 a10 a11)).mono z2.size)); have HX := hid (heap_alloc_new w1 (C7 a1 a2 a3 a4 a5 a6 a7 a8 a9 a10 a11)); simp only [show errOf 0 = Value.nilIface from rfl]; clear z1 z2 HB0)
    | (go_at_call 5; have hcall := parse_any (w := w1.alloc (C7 a1 a2 a3 a4 a5 a6 a7 a8 a9 a10 a11)) ⟨#[123, 34, 97, 34, 58, 49, 44, 34, 92, 117, 48, 48, 54, 49, 34, 58, 50, 125]⟩ (by decide) (HE.out.below HB1.out); rw [show parse (⟨#[123, 34, 97, 34, 58, 49, 44, 34, 92, 117, 48, 48, 54, 49, 34, 58, 50, 125]⟩ : ByteArray).data.toList = (.zero, 7, 6) from work2] at hcall; (with_reducible refine hcall.mono ?_); clear hcall; rintro e w2 ⟨cs, rfl, z1, z2⟩; obtain ⟨b1, b2, b3, b4, b5, b6, b7, b8, b9, b10, b11, rfl⟩ := z1.form; have ZV2 := hid ((ZV.out.below z2).below (below_new _ (C7 b1 b2 b3 b4 b5 b6 b7 b8 b9 b10 b11))); have HB2 := hid (HB1.out.trans ((z2.mono HB1.out.size).trans ((below_new w2 (C7 b1 b2 b3 b4 b5 b6 b7 b8 b9 b10 b11)).mono (Nat.le_trans HB1.out.size z2.size)))); have HX2 := hid (((below_new w2 (C7 b1 b2 b3 b4 b5 b6 b7 b8 b9 b10 b11)).block w1.heap.size (Nat.lt_of_lt_of_le (lt_of_heap HX.out) z2.size)).trans ((z2.block w1.heap.size (lt_of_heap HX.out)).trans HX.out)); obtain ⟨x0, x1, x2, x3, x4, x5, x6, _⟩ := seven HX2.out; simp only [show errOf 6 = .iface 43 (.int .i64 6) from rfl]; clear z1 z2 HB1)
    | (go_at_call 11; have hcall := print_any workV _ _ (HE.out.below HB2.out) work4 ZV2.out (fun _ => work5); rw [work3] at hcall; (with_reducible refine hcall.mono ?_); clear hcall; rintro e w3 ⟨rfl, hb⟩; simp only [show errOf 0 = Value.nilIface from rfl]; have HB3 := hid (HB2.out.trans (hb.mono HB2.out.size)); clear hb HB2)
    | (go_at_call 7; refine (num_some 6 _).mono ?_; rintro e w4 ⟨rfl, rfl⟩))
  go_ret
  exact ⟨rfl, HB3.out⟩
end Go.Proofs.YtkoeihliaandeaaGreatDoor
