/- The document's text of a sum. -/
import Derived.Test.YtojcaoieodogdaaDoorText
import Derived.Test.YtojcaoieodogdaaDoorOrder
import Derived.Test.YtojcaoieodogdaaDoorSure
namespace Go.Proofs.YtojcaoieodogdaaDoor
open Go.RowKit

theorem ext_hex (d : Nat) (h : d < 16) : ({ data := #[48, 49, 50, 51, 52, 53, 54, 55, 56, 57, 97, 98, 99, 100, 101, 102] } : ByteArray).extract d (d + 1) = strOfNums [hexd d] := by
  have all : ∀ d : Fin 16, ({ data := #[48, 49, 50, 51, 52, 53, 54, 55, 56, 57, 97, 98, 99, 100, 101, 102] } : ByteArray).extract d.1 (d.1 + 1) = strOfNums [hexd d.1] := by decide
  exact all ⟨d, h⟩
theorem ext_hexI (x : Int) (h0 : 0 ≤ x) (h : x < 16) : ({ data := #[48, 49, 50, 51, 52, 53, 54, 55, 56, 57, 97, 98, 99, 100, 101, 102] } : ByteArray).extract x.toNat (x + 1).toNat = strOfNums [hexd x] := by
  obtain ⟨d, rfl⟩ : ∃ d : Nat, x = d := ⟨x.toNat, by omega⟩
  rw [show ((d : Int) + 1).toNat = d + 1 by omega, Int.toNat_natCast]
  exact ext_hex d (by omega)
theorem strOfNums_app (a b : List Int) : strOfNums a ++ strOfNums b = strOfNums (a ++ b) := by
  apply ByteArray.ext
  simp [strOfNums]
theorem take_two (s : List Int) (k : Nat) (h : k < 32) (c : Int) (hc : s[k]?.getD 0 = c) : (textB s).take (2 * k) ++ [hexd (c / 16)] ++ [hexd (c % 16)] = (textB s).take (2 * (k + 1)) := by
  subst hc
  have h1 := textB_even s k h
  have h2 := textB_odd s k h
  have hl := textB_len s
  rw [show 2 * (k + 1) = 2 * k + 1 + 1 by omega, List.take_succ_eq_append_getElem (by omega), List.take_succ_eq_append_getElem (by omega)]
  rw [List.getElem?_eq_getElem (by omega)] at h1 h2
  simp only [Option.getD_some] at h1 h2
  rw [h1, h2]
set_option maxRecDepth 20000 in
set_option maxHeartbeats 2000000 in
theorem refText_any (s : List Int) (h : s.length = 32) (hs : ∀ x ∈ s, 0 ≤ x ∧ x < 256) (w : World) :
    Calls Tryd.prog 12 #[.agg (bsv s)] w fun e w' => e = .returned (.string (strOfNums (textB s))) ∧ Below w.heap.size w w' := by
  have HS := hid hs
  clear hs
  go_enter Tryd.func12, Tryd.ntmps12
  go_wp2
  go_loopw [3, 4] (fun v i W => ∃ (k : Nat) (T : ByteArray), k ≤ 32 ∧ v = .string T ∧ i = .int .i64 k ∧ T.size ≤ 64 ∧ Hid (T = strOfNums ((textB s).take (2 * k))) ∧ Hid (Below w.heap.size w W ∧ RowAt W w.heap.size (bsv s) 24)) (fun _ i _ => 32 - (intOf i).toNat)
  case atStart => exact ⟨0, _, Nat.zero_le _, rfl, rfl, by decide, rfl, ⟨below_new _ _, row_new _ _ _⟩⟩
  case round =>
    obtain ⟨k, T, hk, rfl, rfl, hT, HT, HP⟩ := hrel
    obtain ⟨V, hV⟩ : ∃ V, V = wr := ⟨_, rfl⟩
    rw [← hV] at HP ⊢
    clear hV
    by_cases hlt : k < 32
    · have hlt' : (k : Int) < 32 := by omega
      obtain ⟨x, hx⟩ : ∃ x, s[k]?.getD 0 = x := ⟨_, rfl⟩
      have hb : 0 ≤ x ∧ x < 256 := by
        rw [← hx, List.getElem?_eq_getElem (by omega)]
        exact HS.out _ (List.getElem_mem _)
      obtain ⟨n, rfl⟩ : ∃ n : Nat, x = n := ⟨x.toNat, by omega⟩
      have HX := hid hx
      have hn : n < 256 := by omega
      have hn' : (n : Int) < 256 := by omega
      have hC : V.cell? ⟨w.heap.size, k, none⟩ = some (.int .u8 n) := by rw [HP.out.2.cell k, bsv_get (by omega), HX.out]
      have HC := hid hC
      have w1 : IntKind.u8.wrap ((n : Int) / 16 + 1) = (n : Int) / 16 + 1 := by rw [IntKind.wrap_u8']; omega
      have w2 : IntKind.u8.wrap ((n : Int) % 16 + 1) = (n : Int) % 16 + 1 := by rw [IntKind.wrap_u8']; omega
      have x1 := ext_hexI ((n : Int) / 16) (by omega) (by omega)
      have x2 := ext_hexI ((n : Int) % 16) (by omega) (by omega)
      have a2 : bits .and .u8 (n : Int) 15 = (n : Int) % 16 := u8_and15 _ (by omega) (by omega)
      have y0 : (n : Int) / 16 ≤ 15 := by omega
      have y1 : (n : Int) % 16 ≤ 15 := by omega
      clear hC hb hx
      go_wp2_with fail
      refine wp_region_noPanic ?_
      refine any_begin 24 (by kernel_rfl) (by kernel_rfl) ?_
      refine late_begin (fun U => U.cell? ⟨w.heap.size, k, none⟩ = some (.int .u8 n)) (fun _ => false) HC.out (fun hS => ?_)
      refine late_take (i := 0) (some 9) rfl rfl (by kernel_rfl) (by kernel_rfl) (by kernel_rfl) (by kernel_rfl) (by kernel_rfl) (fun _ _ _ h => h) (by rfl) (v := ?v0r) ?hy0r hS ?rest0r
      case hy0r => intro w0 hSw; (try dsimp only at hSw); go_simp; try with_reducible rfl
      simp only [Act.put, List.setIfInBounds_toArray, List.set_cons_zero, List.set_cons_succ]
      refine late_take (i := 1) (some 10) rfl rfl (by kernel_rfl) (by kernel_rfl) (by kernel_rfl) (by kernel_rfl) (by kernel_rfl) (fun _ _ _ h => h) (by rfl) (v := ?v1r) ?hy1r hS ?rest1r
      case hy1r => intro w0 hSw; (try dsimp only at hSw); go_simp; try with_reducible rfl
      simp only [Act.put, List.setIfInBounds_toArray, List.set_cons_zero, List.set_cons_succ]
      refine late_take (i := 2) (some 11) rfl rfl (by kernel_rfl) (by kernel_rfl) (by kernel_rfl) (by kernel_rfl) (by kernel_rfl) (fun _ _ _ h => h) (by rfl) (v := ?v2r) ?hy2r hS ?rest2r
      case hy2r => intro w0 hSw; (try dsimp only at hSw); go_simp; try with_reducible rfl
      simp only [Act.put, List.setIfInBounds_toArray, List.set_cons_zero, List.set_cons_succ]
      refine late_take (i := 3) (some 12) rfl rfl (by kernel_rfl) (by kernel_rfl) (by kernel_rfl) (by kernel_rfl) (by kernel_rfl) (fun _ _ _ h => h) (by rfl) (v := ?v3r) ?hy3r hS ?rest3r
      case hy3r => intro w0 hSw; (try dsimp only at hSw); go_simp; try with_reducible rfl
      simp only [Act.put, List.setIfInBounds_toArray, List.set_cons_zero, List.set_cons_succ]
      refine late_take (i := 4) (some 13) rfl rfl (by kernel_rfl) (by kernel_rfl) (by kernel_rfl) (by kernel_rfl) (by kernel_rfl) (fun _ _ _ h => h) (by rfl) (v := ?v4r) ?hy4r hS ?rest4r
      case hy4r => intro w0 hSw; (try dsimp only at hSw); go_simp; try with_reducible rfl
      simp only [Act.put, List.setIfInBounds_toArray, List.set_cons_zero, List.set_cons_succ]
      refine late_take (i := 5) (some 14) rfl rfl (by kernel_rfl) (by kernel_rfl) (by kernel_rfl) (by kernel_rfl) (by kernel_rfl) (fun _ _ _ h => h) (by rfl) (v := ?v5r) ?hy5r hS ?rest5r
      case hy5r => intro w0 hSw; (try dsimp only at hSw); go_simp; try with_reducible rfl
      simp only [Act.put, List.setIfInBounds_toArray, List.set_cons_zero, List.set_cons_succ]
      refine late_take (i := 6) (some 15) rfl rfl (by kernel_rfl) (by kernel_rfl) (by kernel_rfl) (by kernel_rfl) (by kernel_rfl) (fun _ _ _ h => h) (by rfl) (v := ?v6r) ?hy6r hS ?rest6r
      case hy6r => intro w0 hSw; (try dsimp only at hSw); go_simp; try with_reducible rfl
      simp only [Act.put, List.setIfInBounds_toArray, List.set_cons_zero, List.set_cons_succ]
      refine late_take (i := 7) (some 16) rfl rfl (by kernel_rfl) (by kernel_rfl) (by kernel_rfl) (by kernel_rfl) (by kernel_rfl) (fun _ _ _ h => h) (by rfl) (v := ?v7r) ?hy7r hS ?rest7r
      case hy7r => intro w0 hSw; (try dsimp only at hSw); go_simp; try with_reducible rfl
      simp only [Act.put, List.setIfInBounds_toArray, List.set_cons_zero, List.set_cons_succ]
      refine late_take (i := 8) (some 17) rfl rfl (by kernel_rfl) (by kernel_rfl) (by kernel_rfl) (by kernel_rfl) (by kernel_rfl) (fun _ _ _ h => h) (by rfl) (v := ?v8r) ?hy8r hS ?rest8r
      case hy8r => intro w0 hSw; (try dsimp only at hSw); go_simp; try with_reducible rfl
      simp only [Act.put, List.setIfInBounds_toArray, List.set_cons_zero, List.set_cons_succ]
      refine late_take (i := 9) (some 18) rfl rfl (by kernel_rfl) (by kernel_rfl) (by kernel_rfl) (by kernel_rfl) (by kernel_rfl) (fun _ _ _ h => h) (by rfl) (v := ?v9r) ?hy9r hS ?rest9r
      case hy9r => intro w0 hSw; (try dsimp only at hSw); go_simp; try with_reducible rfl
      simp only [Act.put, List.setIfInBounds_toArray, List.set_cons_zero, List.set_cons_succ]
      refine late_take (i := 10) (some 19) rfl rfl (by kernel_rfl) (by kernel_rfl) (by kernel_rfl) (by kernel_rfl) (by kernel_rfl) (fun _ _ _ h => h) (by rfl) (v := .string (strOfNums [hexd ((n : Int) / 16)])) ?hy10r hS ?rest10r
      case hy10r => intro w0 hSw; (try dsimp only at hSw); go_simp; rw [if_pos (by omega), if_pos (by omega)]
      simp only [Act.put, List.setIfInBounds_toArray, List.set_cons_zero, List.set_cons_succ]
      refine late_take (i := 11) (some 20) rfl rfl (by kernel_rfl) (by kernel_rfl) (by kernel_rfl) (by kernel_rfl) (by kernel_rfl) (fun _ _ _ h => h) (by rfl) (v := .string (T ++ strOfNums [hexd ((n : Int) / 16)])) ?hy11r hS ?rest11r
      case hy11r => intro w0 hSw; (try dsimp only at hSw); go_simp; simp only [strOfNums_size, List.length_cons, List.length_nil]; omega
      simp only [Act.put, List.setIfInBounds_toArray, List.set_cons_zero, List.set_cons_succ]
      refine late_take (i := 12) (some 21) rfl rfl (by kernel_rfl) (by kernel_rfl) (by kernel_rfl) (by kernel_rfl) (by kernel_rfl) (fun _ _ _ h => h) (by rfl) (v := ?v12r) ?hy12r hS ?rest12r
      case hy12r => intro w0 hSw; (try dsimp only at hSw); go_simp; try with_reducible rfl
      simp only [Act.put, List.setIfInBounds_toArray, List.set_cons_zero, List.set_cons_succ]
      refine late_take (i := 13) (some 22) rfl rfl (by kernel_rfl) (by kernel_rfl) (by kernel_rfl) (by kernel_rfl) (by kernel_rfl) (fun _ _ _ h => h) (by rfl) (v := ?v13r) ?hy13r hS ?rest13r
      case hy13r => intro w0 hSw; (try dsimp only at hSw); go_simp; try with_reducible rfl
      simp only [Act.put, List.setIfInBounds_toArray, List.set_cons_zero, List.set_cons_succ]
      refine late_take (i := 14) (some 23) rfl rfl (by kernel_rfl) (by kernel_rfl) (by kernel_rfl) (by kernel_rfl) (by kernel_rfl) (fun _ _ _ h => h) (by rfl) (v := ?v14r) ?hy14r hS ?rest14r
      case hy14r => intro w0 hSw; (try dsimp only at hSw); go_simp; try with_reducible rfl
      simp only [Act.put, List.setIfInBounds_toArray, List.set_cons_zero, List.set_cons_succ]
      refine late_take (i := 15) (some 24) rfl rfl (by kernel_rfl) (by kernel_rfl) (by kernel_rfl) (by kernel_rfl) (by kernel_rfl) (fun _ _ _ h => h) (by rfl) (v := ?v15r) ?hy15r hS ?rest15r
      case hy15r => intro w0 hSw; (try dsimp only at hSw); go_simp; try with_reducible rfl
      simp only [Act.put, List.setIfInBounds_toArray, List.set_cons_zero, List.set_cons_succ]
      refine late_take (i := 16) (some 25) rfl rfl (by kernel_rfl) (by kernel_rfl) (by kernel_rfl) (by kernel_rfl) (by kernel_rfl) (fun _ _ _ h => h) (by rfl) (v := ?v16r) ?hy16r hS ?rest16r
      case hy16r => intro w0 hSw; (try dsimp only at hSw); go_simp; try with_reducible rfl
      simp only [Act.put, List.setIfInBounds_toArray, List.set_cons_zero, List.set_cons_succ]
      refine late_take (i := 17) (some 26) rfl rfl (by kernel_rfl) (by kernel_rfl) (by kernel_rfl) (by kernel_rfl) (by kernel_rfl) (fun _ _ _ h => h) (by rfl) (v := ?v17r) ?hy17r hS ?rest17r
      case hy17r => intro w0 hSw; (try dsimp only at hSw); go_simp; try with_reducible rfl
      simp only [Act.put, List.setIfInBounds_toArray, List.set_cons_zero, List.set_cons_succ]
      refine late_take (i := 18) (some 27) rfl rfl (by kernel_rfl) (by kernel_rfl) (by kernel_rfl) (by kernel_rfl) (by kernel_rfl) (fun _ _ _ h => h) (by rfl) (v := ?v18r) ?hy18r hS ?rest18r
      case hy18r => intro w0 hSw; (try dsimp only at hSw); go_simp; try with_reducible rfl
      simp only [Act.put, List.setIfInBounds_toArray, List.set_cons_zero, List.set_cons_succ]
      refine late_take (i := 19) (some 28) rfl rfl (by kernel_rfl) (by kernel_rfl) (by kernel_rfl) (by kernel_rfl) (by kernel_rfl) (fun _ _ _ h => h) (by rfl) (v := ?v19r) ?hy19r hS ?rest19r
      case hy19r => intro w0 hSw; (try dsimp only at hSw); go_simp; try with_reducible rfl
      simp only [Act.put, List.setIfInBounds_toArray, List.set_cons_zero, List.set_cons_succ]
      refine late_take (i := 20) (some 29) rfl rfl (by kernel_rfl) (by kernel_rfl) (by kernel_rfl) (by kernel_rfl) (by kernel_rfl) (fun _ _ _ h => h) (by rfl) (v := ?v20r) ?hy20r hS ?rest20r
      case hy20r => intro w0 hSw; (try dsimp only at hSw); go_simp; try with_reducible rfl
      simp only [Act.put, List.setIfInBounds_toArray, List.set_cons_zero, List.set_cons_succ]
      refine late_take (i := 21) (some 30) rfl rfl (by kernel_rfl) (by kernel_rfl) (by kernel_rfl) (by kernel_rfl) (by kernel_rfl) (fun _ _ _ h => h) (by rfl) (v := .string (strOfNums [hexd ((n : Int) % 16)])) ?hy21r hS ?rest21r
      case hy21r => intro w0 hSw; (try dsimp only at hSw); go_simp; rw [if_pos (by omega), if_pos (by omega)]
      simp only [Act.put, List.setIfInBounds_toArray, List.set_cons_zero, List.set_cons_succ]
      refine late_take (i := 22) (some 31) rfl rfl (by kernel_rfl) (by kernel_rfl) (by kernel_rfl) (by kernel_rfl) (by kernel_rfl) (fun _ _ _ h => h) (by rfl) (v := .string (T ++ strOfNums [hexd ((n : Int) / 16)] ++ strOfNums [hexd ((n : Int) % 16)])) ?hy22r hS ?rest22r
      case hy22r => intro w0 hSw; (try dsimp only at hSw); go_simp; simp only [strOfNums_size, List.length_cons, List.length_nil]; omega
      simp only [Act.put, List.setIfInBounds_toArray, List.set_cons_zero, List.set_cons_succ]
      refine late_take (i := 23) (some 3) rfl rfl (by kernel_rfl) (by kernel_rfl) (by kernel_rfl) (by kernel_rfl) (by kernel_rfl) (fun _ _ _ h => h) (by rfl) (v := ?v23r) ?hy23r hS ?rest23r
      case hy23r => intro w0 hSw; (try dsimp only at hSw); go_simp; try with_reducible rfl
      simp only [Act.put, List.setIfInBounds_toArray, List.set_cons_zero, List.set_cons_succ]
      refine late_done (by kernel_rfl) ?_ _
      refine NoPanic.normal ?_
      go_wp2
      go_roundw
      case rel =>
        have e : T ++ strOfNums [hexd ((n : Int) / 16)] ++ strOfNums [hexd ((n : Int) % 16)] = strOfNums ((textB s).take (2 * (k + 1))) := by
          rw [HT.out, strOfNums_app, strOfNums_app, ← take_two s k hlt n HX.out]
        refine ⟨k + 1, _, by omega, rfl, by go_num, ?_, e, ⟨HP.out.1.drew, HP.out.2⟩⟩
        rw [e, strOfNums_size, List.length_take, textB_len]
        omega
      case measure => simp [intOf]; omega
    · have hlt' : ¬ (k : Int) < 32 := by omega
      obtain rfl : k = 32 := by omega
      go_wp2
      go_ret
      refine ⟨?_, HP.out.1⟩
      have e := HT.out
      rw [List.take_of_length_le (by rw [textB_len]; omega)] at e
      subst e
      rfl
end Go.Proofs.YtojcaoieodogdaaDoor
