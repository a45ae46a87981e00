/- The program's heads of requests and responses, written. -/
import Derived.Test.YtnlmjlfoeodleaaGreatDoorWWritten
import Derived.Test.YtnlmjlfoeodleaaGreatDoorHAnsw
namespace Go.Proofs.YtnlmjlfoeodleaaGreatDoor
open Go.RowKit

def lineQ (m t : B) (k : Int) : Bool := isTok (str m) && tarB t && minB k
def lineP (s : Int) (r : B) (k : Int) : Bool := staB s && allB 2 r && minB k
def reqE (m t : B) (k : Int) (fs : List (B × B)) : Nat := if lineQ m t k = true then wrE (firstQ m t (verC k)) fs else 20
def respE (s : Int) (r : B) (k : Int) (fs : List (B × B)) : Nat := if lineP s r k = true then wrE (firstP (verC k) (told 10 s.toNat) r) fs else 20
theorem minB_or {k : Int} (h : minB k = true) : k = 0 ∨ k = 1 := of_decide_eq_true h
theorem told_ver {k : Int} (h : minB k = true) : ∃ K : Nat, k = (K : Int) ∧ K < 2 ∧ told 10 K = [verC k] := by
  rcases minB_or h with rfl | rfl
  · exact ⟨0, rfl, by omega, by decide +kernel⟩
  · exact ⟨1, rfl, by omega, by decide +kernel⟩
theorem told_three : ∀ n : Fin 900, (told 10 (n.1 + 100)).length = 3 := by decide +kernel
theorem told_len3 {n : Nat} (h1 : 100 ≤ n) (h2 : n ≤ 999) : (told 10 n).length = 3 := by
  have := told_three ⟨n - 100, by omega⟩
  rwa [show n - 100 + 100 = n from by omega] at this
theorem lineQ_parts {m t : B} {k : Int} (h : lineQ m t k = true) : isTok (str m) = true ∧ tarB t = true ∧ minB k = true := by
  unfold lineQ at h
  simp only [Bool.and_eq_true] at h
  exact ⟨h.1.1, h.1.2, h.2⟩
theorem lineP_parts {s : Int} {r : B} {k : Int} (h : lineP s r k = true) : (∃ n : Nat, s = (n : Int) ∧ 100 ≤ n ∧ n ≤ 999) ∧ allB 2 r = true ∧ minB k = true := by
  unfold lineP at h
  simp only [Bool.and_eq_true] at h
  have := of_decide_eq_true h.1.1
  exact ⟨⟨s.toNat, by omega, by omega, by omega⟩, h.1.2, h.2⟩
set_option maxRecDepth 20000 in
set_option maxHeartbeats 8000000 in
theorem wreq_line (m t : B) (k : Int) (p : Option Addr) (n c : Nat) (w : World) (hm : m.length ≤ 140737488355328) (ht : t.length ≤ 140737488355328) (hl : lineQ m t k = false) : Calls Tryz.prog 45 #[.agg #[.string (str m), .string (str t), .int .i64 k, .slice p n c]] w fun e w' => e = .returned (.tuple #[.slice none 0 0, .iface 72 (.int .i64 20)]) ∧ Below w.heap.size w w' := by
  obtain ⟨W0, hW0⟩ : ∃ W0, W0 = w.alloc (.cells #[.string (str m), .string (str t), .int .i64 k, .slice p n c] 54 (0, 0)) := ⟨_, rfl⟩
  have HB0 := hid (show Below w.heap.size w W0 ∧ W0.heap[w.heap.size]? = some (.cells #[.string (str m), .string (str t), .int .i64 k, .slice p n c] 54 (0, 0)) from by rw [hW0]; exact ⟨below_new w _, heap_alloc_new w _⟩)
  have HC1 := hid (show ∀ w : World, _ from fun w => istoken_any (str m) w (by rw [str_size]; unfold maxLen; omega))
  have HC2 := hid (show ∀ w : World, _ from fun w => istarget_any t ht w)
  have HC3 := hid (show ∀ w : World, _ from fun w => isminor_any k w)
  unfold lineQ at hl
  obtain ⟨b1, hb1⟩ : ∃ b, isTok (str m) = b := ⟨_, rfl⟩
  obtain ⟨b2, hb2⟩ : ∃ b, tarB t = b := ⟨_, rfl⟩
  obtain ⟨b3, hb3⟩ : ∃ b, minB k = b := ⟨_, rfl⟩
  rw [hb1] at HC1 hl
  rw [hb2] at HC2 hl
  rw [hb3] at HC3 hl
  obtain ⟨M, hM⟩ : ∃ M, str m = M := ⟨_, rfl⟩
  obtain ⟨T, hT⟩ : ∃ T, str t = T := ⟨_, rfl⟩
  rw [hM] at HC1 HB0 hW0
  rw [hT] at HC2 HB0 hW0
  rw [hM, hT]
  clear hM hT
  have HW0 := hid hW0
  clear hb1 hb2 hb3 hW0
  cases b1 with
  | false =>
    clear hl
    go_enter Tryz.func45, Tryz.ntmps45
    go_wp2_with (go_at_call 83; (with_reducible refine (HC1.out _).mono ?_); rintro e w1 ⟨rfl, hw1⟩; subst w1)
    go_ret2
    exact ⟨rfl, by rw [← HW0.out]; exact HB0.out.1⟩
  | true =>
    cases b2 with
    | false =>
      clear hl
      go_enter Tryz.func45, Tryz.ntmps45
      go_wp2_with (first | (go_at_call 83; (with_reducible refine (HC1.out _).mono ?_); rintro e w1 ⟨rfl, hw1⟩; subst w1) | (go_at_call 84; (with_reducible refine (HC2.out _).mono ?_); rintro e w1 ⟨rfl, hw1⟩; subst w1))
      go_ret2
      exact ⟨rfl, by rw [← HW0.out]; exact HB0.out.1⟩
    | true =>
      cases b3 with
      | true => cases hl
      | false =>
        clear hl
        go_enter Tryz.func45, Tryz.ntmps45
        go_wp2_with (first | (go_at_call 83; (with_reducible refine (HC1.out _).mono ?_); rintro e w1 ⟨rfl, hw1⟩; subst w1) | (go_at_call 84; (with_reducible refine (HC2.out _).mono ?_); rintro e w1 ⟨rfl, hw1⟩; subst w1) | (go_at_call 85; (with_reducible refine (HC3.out _).mono ?_); rintro e w1 ⟨rfl, hw1⟩; subst w1))
        go_ret2
        exact ⟨rfl, by rw [← HW0.out]; exact HB0.out.1⟩
set_option maxRecDepth 20000 in
set_option maxHeartbeats 8000000 in
theorem wreq_no (m t : B) (k : Int) (fs : List (B × B)) (p : Option Addr) (n c : Nat) (hn : fs.length = n) (w : World) (hE : EnvP w) (hF : FAt w p fs) (hsz : ∀ f ∈ fs, f.1.length ≤ 140737488355328 ∧ f.2.length ≤ 140737488355328) (hnn : n ≤ 140737488355328) (hm : m.length ≤ 140737488355328) (ht : t.length ≤ 140737488355328) (hl : lineQ m t k = true) (hz : wrE (firstQ m t (verC k)) fs ≠ 0) : Calls Tryz.prog 45 #[.agg #[.string (str m), .string (str t), .int .i64 k, .slice p n c]] w fun e w' => e = .returned (.tuple #[.slice none 0 0, errOf (wrE (firstQ m t (verC k)) fs)]) ∧ Below w.heap.size w w' := by
  obtain ⟨W0, hW0⟩ : ∃ W0, W0 = w.alloc (.cells #[.string (str m), .string (str t), .int .i64 k, .slice p n c] 54 (0, 0)) := ⟨_, rfl⟩
  have HB0 := hid (show Below w.heap.size w W0 ∧ W0.heap[w.heap.size]? = some (.cells #[.string (str m), .string (str t), .int .i64 k, .slice p n c] 54 (0, 0)) from by rw [hW0]; exact ⟨below_new w _, heap_alloc_new w _⟩)
  have HC1 := hid (show ∀ w : World, _ from fun w => istoken_any (str m) w (by rw [str_size]; unfold maxLen; omega))
  have HC2 := hid (show ∀ w : World, _ from fun w => istarget_any t ht w)
  have HC3 := hid (show ∀ w : World, _ from fun w => isminor_any k w)
  have hp := lineQ_parts hl
  obtain ⟨K, hK, hK2, hKt⟩ := told_ver hp.2.2
  have HTx := hid (show ∀ W : World, EnvP W → _ from fun W h => text_any K (by omega) W h)
  rw [hKt, ← hK] at HTx
  rw [hp.1] at HC1
  rw [hp.2.1] at HC2
  rw [hp.2.2] at HC3
  have HFst := hid (show ((((str m ++ ⟨#[32]⟩) ++ str t) ++ ⟨#[32]⟩) ++ ⟨#[72, 84, 84, 80, 47, 49, 46]⟩) ++ str [verC k] = str (firstQ m t (verC k)) from by
    rw [show (⟨#[32]⟩ : ByteArray) = str [32] from rfl, show (⟨#[72, 84, 84, 80, 47, 49, 46]⟩ : ByteArray) = str [72, 84, 84, 80, 47, 49, 46] from rfl, str_app, str_app, str_app, str_app, str_app]
    exact congrArg str (by unfold firstQ; simp))
  have hfl : (firstQ m t (verC k)).length ≤ 562949953421312 := by unfold firstQ; simp; omega
  have HWr := hid (show ∀ W : World, Below w.heap.size w W → _ from fun W hb => wrote_no (firstQ m t (verC k)) fs p n c hn W (hF.next hb) hsz hnn hfl hz)
  have HEv := hid (errOf_pos hz)
  rw [HEv.out] at HWr
  rw [HEv.out]
  obtain ⟨EE, hEE⟩ : ∃ EE, wrE (firstQ m t (verC k)) fs = EE := ⟨_, rfl⟩
  rw [hEE] at HWr
  rw [hEE]
  clear hEE HEv
  have hsm : (str m).size ≤ 140737488355328 := by rw [str_size]; exact hm
  have hst : (str t).size ≤ 140737488355328 := by rw [str_size]; exact ht
  obtain ⟨M, hM⟩ : ∃ M, str m = M := ⟨_, rfl⟩
  obtain ⟨T, hT⟩ : ∃ T, str t = T := ⟨_, rfl⟩
  obtain ⟨X, hX⟩ : ∃ X, str [verC k] = X := ⟨_, rfl⟩
  obtain ⟨Y, hY⟩ : ∃ Y, str (firstQ m t (verC k)) = Y := ⟨_, rfl⟩
  have hsx : X.size = 1 := by rw [← hX]; rfl
  rw [hX] at HTx HFst
  rw [hY] at HWr HFst
  rw [hM] at hsm HC1 HB0 HFst hW0
  rw [hT] at hst HC2 HB0 HFst hW0
  rw [hM, hT]
  have HW0 := hid hW0
  have HE := hid hE
  clear hF hsz hn hM hT hX hY hW0 hp hl hnn hm ht hz hfl hE hK hKt hK2
  go_enter Tryz.func45, Tryz.ntmps45
  go_wp2_with (first | (go_at_call 83; (with_reducible refine (HC1.out _).mono ?_); rintro e w1 ⟨rfl, hw1⟩; subst w1) | (go_at_call 84; (with_reducible refine (HC2.out _).mono ?_); rintro e w1 ⟨rfl, hw1⟩; subst w1) | (go_at_call 85; (with_reducible refine (HC3.out _).mono ?_); rintro e w1 ⟨rfl, hw1⟩; subst w1))
  rw [← HW0.out]
  obtain ⟨W3, hW3⟩ : ∃ W3, W3 = W0.drew := ⟨_, rfl⟩
  have HB4 := hid (show Below w.heap.size w W3 ∧ W3.heap[w.heap.size]? = some (.cells #[.string M, .string T, .int .i64 k, .slice p n c] 54 (0, 0)) from by rw [hW3]; exact ⟨HB0.out.1.drew, HB0.out.2⟩)
  have hS0 := cells4 HB4.out.2
  have hcat1 : (M ++ (⟨#[32]⟩ : ByteArray)).size = M.size + 1 := by rw [ByteArray.size_append]; rfl
  have hcat2 : ((M ++ (⟨#[32]⟩ : ByteArray)) ++ T).size = M.size + 1 + T.size := by rw [ByteArray.size_append, hcat1]
  have hcat3 : (((M ++ (⟨#[32]⟩ : ByteArray)) ++ T) ++ (⟨#[32]⟩ : ByteArray)).size = M.size + 1 + T.size + 1 := by rw [ByteArray.size_append, hcat2]; rfl
  have hcat4 : ((((M ++ (⟨#[32]⟩ : ByteArray)) ++ T) ++ (⟨#[32]⟩ : ByteArray)) ++ (⟨#[72, 84, 84, 80, 47, 49, 46]⟩ : ByteArray)).size = M.size + 1 + T.size + 8 := by rw [ByteArray.size_append, hcat3]; rfl
  refine wp_region_noPanic ?_
  refine any_begin 19 (by kernel_rfl) (by kernel_rfl) ?_
  rw [← hW3]
  clear hW3
  refine late_begin (fun U => Cells4 U w.heap.size (.string M) (.string T) (.int .i64 k) (.slice p n c)) (fun _ => false) hS0 (fun hS => ?_)
  refine late_take (i := 0) (some 21) rfl rfl (by kernel_rfl) (by kernel_rfl) (by kernel_rfl) (by kernel_rfl) (by kernel_rfl) (fun _ _ _ h => h) (by rfl) (v := ?v0wreqno) ?hy0wreqno hS ?rest0wreqno
  case hy0wreqno => intro w0 hSw; obtain ⟨a0, a1, a2, a3, _⟩ := hSw; go_simp; try with_reducible rfl
  simp only [Act.put, List.setIfInBounds_toArray, List.set_cons_zero, List.set_cons_succ]
  refine late_take (i := 1) (some 22) rfl rfl (by kernel_rfl) (by kernel_rfl) (by kernel_rfl) (by kernel_rfl) (by kernel_rfl) (fun _ _ _ h => h) (by rfl) (v := ?v1wreqno) ?hy1wreqno hS ?rest1wreqno
  case hy1wreqno => intro w0 hSw; obtain ⟨a0, a1, a2, a3, _⟩ := hSw; go_simp; try with_reducible rfl
  simp only [Act.put, List.setIfInBounds_toArray, List.set_cons_zero, List.set_cons_succ]
  refine late_take (i := 2) (some 23) rfl rfl (by kernel_rfl) (by kernel_rfl) (by kernel_rfl) (by kernel_rfl) (by kernel_rfl) (fun _ _ _ h => h) (by rfl) (v := ?v2wreqno) ?hy2wreqno hS ?rest2wreqno
  case hy2wreqno => intro w0 hSw; obtain ⟨a0, a1, a2, a3, _⟩ := hSw; go_simp; first | (rw [if_neg (by omega)]) | (with_reducible rfl)
  simp only [Act.put, List.setIfInBounds_toArray, List.set_cons_zero, List.set_cons_succ]
  refine late_take (i := 3) (some 24) rfl rfl (by kernel_rfl) (by kernel_rfl) (by kernel_rfl) (by kernel_rfl) (by kernel_rfl) (fun _ _ _ h => h) (by rfl) (v := ?v3wreqno) ?hy3wreqno hS ?rest3wreqno
  case hy3wreqno => intro w0 hSw; obtain ⟨a0, a1, a2, a3, _⟩ := hSw; go_simp; try with_reducible rfl
  simp only [Act.put, List.setIfInBounds_toArray, List.set_cons_zero, List.set_cons_succ]
  refine late_take (i := 4) (some 25) rfl rfl (by kernel_rfl) (by kernel_rfl) (by kernel_rfl) (by kernel_rfl) (by kernel_rfl) (fun _ _ _ h => h) (by rfl) (v := ?v4wreqno) ?hy4wreqno hS ?rest4wreqno
  case hy4wreqno => intro w0 hSw; obtain ⟨a0, a1, a2, a3, _⟩ := hSw; go_simp; try with_reducible rfl
  simp only [Act.put, List.setIfInBounds_toArray, List.set_cons_zero, List.set_cons_succ]
  refine late_take (i := 5) (some 26) rfl rfl (by kernel_rfl) (by kernel_rfl) (by kernel_rfl) (by kernel_rfl) (by kernel_rfl) (fun _ _ _ h => h) (by rfl) (v := ?v5wreqno) ?hy5wreqno hS ?rest5wreqno
  case hy5wreqno => intro w0 hSw; obtain ⟨a0, a1, a2, a3, _⟩ := hSw; go_simp; first | (rw [if_neg (by omega)]) | (with_reducible rfl)
  simp only [Act.put, List.setIfInBounds_toArray, List.set_cons_zero, List.set_cons_succ]
  refine late_take (i := 6) (some 27) rfl rfl (by kernel_rfl) (by kernel_rfl) (by kernel_rfl) (by kernel_rfl) (by kernel_rfl) (fun _ _ _ h => h) (by rfl) (v := ?v6wreqno) ?hy6wreqno hS ?rest6wreqno
  case hy6wreqno => intro w0 hSw; obtain ⟨a0, a1, a2, a3, _⟩ := hSw; go_simp; first | (rw [if_neg (by omega)]) | (with_reducible rfl)
  simp only [Act.put, List.setIfInBounds_toArray, List.set_cons_zero, List.set_cons_succ]
  refine late_take (i := 7) (some 28) rfl rfl (by kernel_rfl) (by kernel_rfl) (by kernel_rfl) (by kernel_rfl) (by kernel_rfl) (fun _ _ _ h => h) (by rfl) (v := ?v7wreqno) ?hy7wreqno hS ?rest7wreqno
  case hy7wreqno => intro w0 hSw; obtain ⟨a0, a1, a2, a3, _⟩ := hSw; go_simp; first | (rw [if_neg (by omega)]) | (with_reducible rfl)
  simp only [Act.put, List.setIfInBounds_toArray, List.set_cons_zero, List.set_cons_succ]
  refine late_take (i := 8) (some 29) rfl rfl (by kernel_rfl) (by kernel_rfl) (by kernel_rfl) (by kernel_rfl) (by kernel_rfl) (fun _ _ _ h => h) (by rfl) (v := ?v8wreqno) ?hy8wreqno hS ?rest8wreqno
  case hy8wreqno => intro w0 hSw; obtain ⟨a0, a1, a2, a3, _⟩ := hSw; go_simp; try with_reducible rfl
  simp only [Act.put, List.setIfInBounds_toArray, List.set_cons_zero, List.set_cons_succ]
  refine late_take (i := 9) (some 30) rfl rfl (by kernel_rfl) (by kernel_rfl) (by kernel_rfl) (by kernel_rfl) (by kernel_rfl) (fun _ _ _ h => h) (by rfl) (v := ?v9wreqno) ?hy9wreqno hS ?rest9wreqno
  case hy9wreqno => intro w0 hSw; obtain ⟨a0, a1, a2, a3, _⟩ := hSw; go_simp; try with_reducible rfl
  simp only [Act.put, List.setIfInBounds_toArray, List.set_cons_zero, List.set_cons_succ]
  refine late_take (i := 12) (some 33) rfl rfl (by kernel_rfl) (by kernel_rfl) (by kernel_rfl) (by kernel_rfl) (by kernel_rfl) (fun _ _ _ h => h) (by rfl) (v := ?v12wreqno) ?hy12wreqno hS ?rest12wreqno
  case hy12wreqno => intro w0 hSw; obtain ⟨a0, a1, a2, a3, _⟩ := hSw; go_simp; try with_reducible rfl
  simp only [Act.put, List.setIfInBounds_toArray, List.set_cons_zero, List.set_cons_succ]
  refine late_take (i := 13) (some 34) rfl rfl (by kernel_rfl) (by kernel_rfl) (by kernel_rfl) (by kernel_rfl) (by kernel_rfl) (fun _ _ _ h => h) (by rfl) (v := ?v13wreqno) ?hy13wreqno hS ?rest13wreqno
  case hy13wreqno => intro w0 hSw; obtain ⟨a0, a1, a2, a3, _⟩ := hSw; go_simp; try with_reducible rfl
  simp only [Act.put, List.setIfInBounds_toArray, List.set_cons_zero, List.set_cons_succ]
  refine wpAnyD_one (i := 10) (by kernel_rfl) rfl (fun K hK => ?_)
  go_simp
  go_at_call 43
  refine (HTx.out _ (HE.out.next HB4.out.1)).mono ?_
  rintro e w5 ⟨rfl, hb⟩
  have HB5 := hid (show Below w.heap.size w w5 ∧ w5.heap[w.heap.size]? = some (.cells #[.string M, .string T, .int .i64 k, .slice p n c] 54 (0, 0)) from ⟨HB4.out.1.trans (hb.mono HB4.out.1.size), (hb.block _ (lt_of_heap HB4.out.2)).trans HB4.out.2⟩)
  have hS5 := cells4 HB5.out.2
  refine hK _ _ ⟨fun _ => hS5, ?_⟩
  clear hK K hS hb hS0
  refine late_take (i := 11) (some 32) rfl rfl (by kernel_rfl) (by kernel_rfl) (by kernel_rfl) (by kernel_rfl) (by kernel_rfl) (fun _ _ _ h => h) (by rfl) (v := ?v11wreqno) ?hy11wreqno hS5 ?rest11wreqno
  case hy11wreqno => intro w0 hSw; obtain ⟨a0, a1, a2, a3, _⟩ := hSw; go_simp; first | (rw [if_neg (by omega)]) | (with_reducible rfl)
  simp only [Act.put, List.setIfInBounds_toArray, List.set_cons_zero, List.set_cons_succ]
  refine wpAnyD_one (i := 14) (by kernel_rfl) rfl (fun K hK => ?_)
  go_simp
  rw [HFst.out]
  go_at_call 86
  refine (HWr.out _ HB5.out.1).mono ?_
  rintro e w6 ⟨rfl, hb⟩
  have HB6 := hid (show Below w.heap.size w w6 ∧ w6.heap[w.heap.size]? = some (.cells #[.string M, .string T, .int .i64 k, .slice p n c] 54 (0, 0)) from ⟨HB5.out.1.trans (hb.mono HB5.out.1.size), (hb.block _ (lt_of_heap HB5.out.2)).trans HB5.out.2⟩)
  have hS6 := cells4 HB6.out.2
  refine hK _ _ ⟨fun _ => hS6, ?_⟩
  clear hK K hS5 hb
  refine late_take (i := 15) (some 36) rfl rfl (by kernel_rfl) (by kernel_rfl) (by kernel_rfl) (by kernel_rfl) (by kernel_rfl) (fun _ _ _ h => h) (by rfl) (v := ?v15wreqno) ?hy15wreqno hS6 ?rest15wreqno
  case hy15wreqno => intro w0 hSw; obtain ⟨a0, a1, a2, a3, _⟩ := hSw; go_simp; try with_reducible rfl
  simp only [Act.put, List.setIfInBounds_toArray, List.set_cons_zero, List.set_cons_succ]
  refine late_take (i := 16) (some 37) rfl rfl (by kernel_rfl) (by kernel_rfl) (by kernel_rfl) (by kernel_rfl) (by kernel_rfl) (fun _ _ _ h => h) (by rfl) (v := ?v16wreqno) ?hy16wreqno hS6 ?rest16wreqno
  case hy16wreqno => intro w0 hSw; obtain ⟨a0, a1, a2, a3, _⟩ := hSw; go_simp; try with_reducible rfl
  simp only [Act.put, List.setIfInBounds_toArray, List.set_cons_zero, List.set_cons_succ]
  refine late_take (i := 17) (some 2) rfl rfl (by kernel_rfl) (by kernel_rfl) (by kernel_rfl) (by kernel_rfl) (by kernel_rfl) (fun _ _ _ h => h) (by rfl) (v := ?v17wreqno) ?hy17wreqno hS6 ?rest17wreqno
  case hy17wreqno => intro w0 hSw; obtain ⟨a0, a1, a2, a3, _⟩ := hSw; go_simp; try with_reducible rfl
  simp only [Act.put, List.setIfInBounds_toArray, List.set_cons_zero, List.set_cons_succ]
  refine late_take (i := 18) (some 3) rfl rfl (by kernel_rfl) (by kernel_rfl) (by kernel_rfl) (by kernel_rfl) (by kernel_rfl) (fun _ _ _ h => h) (by rfl) (v := ?v18wreqno) ?hy18wreqno hS6 ?rest18wreqno
  case hy18wreqno => intro w0 hSw; obtain ⟨a0, a1, a2, a3, _⟩ := hSw; go_simp; try with_reducible rfl
  simp only [Act.put, List.setIfInBounds_toArray, List.set_cons_zero, List.set_cons_succ]
  refine late_done (by kernel_rfl) ?_ _
  refine NoPanic.normal ?_
  go_wp2
  go_ret2
  exact ⟨rfl, HB6.out.1⟩
set_option maxRecDepth 20000 in
set_option maxHeartbeats 8000000 in
theorem wreq_yes (m t : B) (k : Int) (fs : List (B × B)) (p : Option Addr) (n c : Nat) (hn : fs.length = n) (w : World) (hE : EnvP w) (hF : FAt w p fs) (hsz : ∀ f ∈ fs, f.1.length ≤ 140737488355328 ∧ f.2.length ≤ 140737488355328) (hnn : n ≤ 140737488355328) (hm : m.length ≤ 140737488355328) (ht : t.length ≤ 140737488355328) (hl : lineQ m t k = true) (hz : wrE (firstQ m t (verC k)) fs = 0) : Calls Tryz.prog 45 #[.agg #[.string (str m), .string (str t), .int .i64 k, .slice p n c]] w fun e w' => ∃ q d, e = .returned (.tuple #[.slice q (headW (firstQ m t (verC k)) fs).length d, .nilIface]) ∧ Own w' w.heap.size (.slice q (headW (firstQ m t (verC k)) fs).length d) (headW (firstQ m t (verC k)) fs) ∧ Below w.heap.size w w' := by
  obtain ⟨W0, hW0⟩ : ∃ W0, W0 = w.alloc (.cells #[.string (str m), .string (str t), .int .i64 k, .slice p n c] 54 (0, 0)) := ⟨_, rfl⟩
  have HB0 := hid (show Below w.heap.size w W0 ∧ W0.heap[w.heap.size]? = some (.cells #[.string (str m), .string (str t), .int .i64 k, .slice p n c] 54 (0, 0)) from by rw [hW0]; exact ⟨below_new w _, heap_alloc_new w _⟩)
  have HC1 := hid (show ∀ w : World, _ from fun w => istoken_any (str m) w (by rw [str_size]; unfold maxLen; omega))
  have HC2 := hid (show ∀ w : World, _ from fun w => istarget_any t ht w)
  have HC3 := hid (show ∀ w : World, _ from fun w => isminor_any k w)
  have hp := lineQ_parts hl
  obtain ⟨K, hK, hK2, hKt⟩ := told_ver hp.2.2
  have HTx := hid (show ∀ W : World, EnvP W → _ from fun W h => text_any K (by omega) W h)
  rw [hKt, ← hK] at HTx
  rw [hp.1] at HC1
  rw [hp.2.1] at HC2
  rw [hp.2.2] at HC3
  have HFst := hid (show ((((str m ++ ⟨#[32]⟩) ++ str t) ++ ⟨#[32]⟩) ++ ⟨#[72, 84, 84, 80, 47, 49, 46]⟩) ++ str [verC k] = str (firstQ m t (verC k)) from by
    rw [show (⟨#[32]⟩ : ByteArray) = str [32] from rfl, show (⟨#[72, 84, 84, 80, 47, 49, 46]⟩ : ByteArray) = str [72, 84, 84, 80, 47, 49, 46] from rfl, str_app, str_app, str_app, str_app, str_app]
    exact congrArg str (by unfold firstQ; simp))
  have hfl : (firstQ m t (verC k)).length ≤ 562949953421312 := by unfold firstQ; simp; omega
  have HWr := hid (show ∀ W : World, Below w.heap.size w W → _ from fun W hb => wrote_yes (firstQ m t (verC k)) fs p n c hn W (hF.next hb) hsz hnn hfl hz)
  obtain ⟨H, hH⟩ : ∃ H, headW (firstQ m t (verC k)) fs = H := ⟨_, rfl⟩
  rw [hH] at HWr
  rw [hH]
  obtain ⟨LH, hLH⟩ : ∃ LH, H.length = LH := ⟨_, rfl⟩
  rw [hLH] at HWr
  rw [hLH]
  clear hH hLH
  have hsm : (str m).size ≤ 140737488355328 := by rw [str_size]; exact hm
  have hst : (str t).size ≤ 140737488355328 := by rw [str_size]; exact ht
  obtain ⟨M, hM⟩ : ∃ M, str m = M := ⟨_, rfl⟩
  obtain ⟨T, hT⟩ : ∃ T, str t = T := ⟨_, rfl⟩
  obtain ⟨X, hX⟩ : ∃ X, str [verC k] = X := ⟨_, rfl⟩
  obtain ⟨Y, hY⟩ : ∃ Y, str (firstQ m t (verC k)) = Y := ⟨_, rfl⟩
  have hsx : X.size = 1 := by rw [← hX]; rfl
  rw [hX] at HTx HFst
  rw [hY] at HWr HFst
  rw [hM] at hsm HC1 HB0 HFst hW0
  rw [hT] at hst HC2 HB0 HFst hW0
  rw [hM, hT]
  have HW0 := hid hW0
  have HE := hid hE
  clear hF hsz hn hM hT hX hY hW0 hp hl hnn hm ht hz hfl hE hK hKt hK2
  go_enter Tryz.func45, Tryz.ntmps45
  go_wp2_with (first | (go_at_call 83; (with_reducible refine (HC1.out _).mono ?_); rintro e w1 ⟨rfl, hw1⟩; subst w1) | (go_at_call 84; (with_reducible refine (HC2.out _).mono ?_); rintro e w1 ⟨rfl, hw1⟩; subst w1) | (go_at_call 85; (with_reducible refine (HC3.out _).mono ?_); rintro e w1 ⟨rfl, hw1⟩; subst w1))
  rw [← HW0.out]
  obtain ⟨W3, hW3⟩ : ∃ W3, W3 = W0.drew := ⟨_, rfl⟩
  have HB4 := hid (show Below w.heap.size w W3 ∧ W3.heap[w.heap.size]? = some (.cells #[.string M, .string T, .int .i64 k, .slice p n c] 54 (0, 0)) from by rw [hW3]; exact ⟨HB0.out.1.drew, HB0.out.2⟩)
  have hS0 := cells4 HB4.out.2
  have hcat1 : (M ++ (⟨#[32]⟩ : ByteArray)).size = M.size + 1 := by rw [ByteArray.size_append]; rfl
  have hcat2 : ((M ++ (⟨#[32]⟩ : ByteArray)) ++ T).size = M.size + 1 + T.size := by rw [ByteArray.size_append, hcat1]
  have hcat3 : (((M ++ (⟨#[32]⟩ : ByteArray)) ++ T) ++ (⟨#[32]⟩ : ByteArray)).size = M.size + 1 + T.size + 1 := by rw [ByteArray.size_append, hcat2]; rfl
  have hcat4 : ((((M ++ (⟨#[32]⟩ : ByteArray)) ++ T) ++ (⟨#[32]⟩ : ByteArray)) ++ (⟨#[72, 84, 84, 80, 47, 49, 46]⟩ : ByteArray)).size = M.size + 1 + T.size + 8 := by rw [ByteArray.size_append, hcat3]; rfl
  refine wp_region_noPanic ?_
  refine any_begin 19 (by kernel_rfl) (by kernel_rfl) ?_
  rw [← hW3]
  clear hW3
  refine late_begin (fun U => Cells4 U w.heap.size (.string M) (.string T) (.int .i64 k) (.slice p n c)) (fun _ => false) hS0 (fun hS => ?_)
  refine late_take (i := 0) (some 21) rfl rfl (by kernel_rfl) (by kernel_rfl) (by kernel_rfl) (by kernel_rfl) (by kernel_rfl) (fun _ _ _ h => h) (by rfl) (v := ?v0wreqyes) ?hy0wreqyes hS ?rest0wreqyes
  case hy0wreqyes => intro w0 hSw; obtain ⟨a0, a1, a2, a3, _⟩ := hSw; go_simp; try with_reducible rfl
  simp only [Act.put, List.setIfInBounds_toArray, List.set_cons_zero, List.set_cons_succ]
  refine late_take (i := 1) (some 22) rfl rfl (by kernel_rfl) (by kernel_rfl) (by kernel_rfl) (by kernel_rfl) (by kernel_rfl) (fun _ _ _ h => h) (by rfl) (v := ?v1wreqyes) ?hy1wreqyes hS ?rest1wreqyes
  case hy1wreqyes => intro w0 hSw; obtain ⟨a0, a1, a2, a3, _⟩ := hSw; go_simp; try with_reducible rfl
  simp only [Act.put, List.setIfInBounds_toArray, List.set_cons_zero, List.set_cons_succ]
  refine late_take (i := 2) (some 23) rfl rfl (by kernel_rfl) (by kernel_rfl) (by kernel_rfl) (by kernel_rfl) (by kernel_rfl) (fun _ _ _ h => h) (by rfl) (v := ?v2wreqyes) ?hy2wreqyes hS ?rest2wreqyes
  case hy2wreqyes => intro w0 hSw; obtain ⟨a0, a1, a2, a3, _⟩ := hSw; go_simp; first | (rw [if_neg (by omega)]) | (with_reducible rfl)
  simp only [Act.put, List.setIfInBounds_toArray, List.set_cons_zero, List.set_cons_succ]
  refine late_take (i := 3) (some 24) rfl rfl (by kernel_rfl) (by kernel_rfl) (by kernel_rfl) (by kernel_rfl) (by kernel_rfl) (fun _ _ _ h => h) (by rfl) (v := ?v3wreqyes) ?hy3wreqyes hS ?rest3wreqyes
  case hy3wreqyes => intro w0 hSw; obtain ⟨a0, a1, a2, a3, _⟩ := hSw; go_simp; try with_reducible rfl
  simp only [Act.put, List.setIfInBounds_toArray, List.set_cons_zero, List.set_cons_succ]
  refine late_take (i := 4) (some 25) rfl rfl (by kernel_rfl) (by kernel_rfl) (by kernel_rfl) (by kernel_rfl) (by kernel_rfl) (fun _ _ _ h => h) (by rfl) (v := ?v4wreqyes) ?hy4wreqyes hS ?rest4wreqyes
  case hy4wreqyes => intro w0 hSw; obtain ⟨a0, a1, a2, a3, _⟩ := hSw; go_simp; try with_reducible rfl
  simp only [Act.put, List.setIfInBounds_toArray, List.set_cons_zero, List.set_cons_succ]
  refine late_take (i := 5) (some 26) rfl rfl (by kernel_rfl) (by kernel_rfl) (by kernel_rfl) (by kernel_rfl) (by kernel_rfl) (fun _ _ _ h => h) (by rfl) (v := ?v5wreqyes) ?hy5wreqyes hS ?rest5wreqyes
  case hy5wreqyes => intro w0 hSw; obtain ⟨a0, a1, a2, a3, _⟩ := hSw; go_simp; first | (rw [if_neg (by omega)]) | (with_reducible rfl)
  simp only [Act.put, List.setIfInBounds_toArray, List.set_cons_zero, List.set_cons_succ]
  refine late_take (i := 6) (some 27) rfl rfl (by kernel_rfl) (by kernel_rfl) (by kernel_rfl) (by kernel_rfl) (by kernel_rfl) (fun _ _ _ h => h) (by rfl) (v := ?v6wreqyes) ?hy6wreqyes hS ?rest6wreqyes
  case hy6wreqyes => intro w0 hSw; obtain ⟨a0, a1, a2, a3, _⟩ := hSw; go_simp; first | (rw [if_neg (by omega)]) | (with_reducible rfl)
  simp only [Act.put, List.setIfInBounds_toArray, List.set_cons_zero, List.set_cons_succ]
  refine late_take (i := 7) (some 28) rfl rfl (by kernel_rfl) (by kernel_rfl) (by kernel_rfl) (by kernel_rfl) (by kernel_rfl) (fun _ _ _ h => h) (by rfl) (v := ?v7wreqyes) ?hy7wreqyes hS ?rest7wreqyes
  case hy7wreqyes => intro w0 hSw; obtain ⟨a0, a1, a2, a3, _⟩ := hSw; go_simp; first | (rw [if_neg (by omega)]) | (with_reducible rfl)
  simp only [Act.put, List.setIfInBounds_toArray, List.set_cons_zero, List.set_cons_succ]
  refine late_take (i := 8) (some 29) rfl rfl (by kernel_rfl) (by kernel_rfl) (by kernel_rfl) (by kernel_rfl) (by kernel_rfl) (fun _ _ _ h => h) (by rfl) (v := ?v8wreqyes) ?hy8wreqyes hS ?rest8wreqyes
  case hy8wreqyes => intro w0 hSw; obtain ⟨a0, a1, a2, a3, _⟩ := hSw; go_simp; try with_reducible rfl
  simp only [Act.put, List.setIfInBounds_toArray, List.set_cons_zero, List.set_cons_succ]
  refine late_take (i := 9) (some 30) rfl rfl (by kernel_rfl) (by kernel_rfl) (by kernel_rfl) (by kernel_rfl) (by kernel_rfl) (fun _ _ _ h => h) (by rfl) (v := ?v9wreqyes) ?hy9wreqyes hS ?rest9wreqyes
  case hy9wreqyes => intro w0 hSw; obtain ⟨a0, a1, a2, a3, _⟩ := hSw; go_simp; try with_reducible rfl
  simp only [Act.put, List.setIfInBounds_toArray, List.set_cons_zero, List.set_cons_succ]
  refine late_take (i := 12) (some 33) rfl rfl (by kernel_rfl) (by kernel_rfl) (by kernel_rfl) (by kernel_rfl) (by kernel_rfl) (fun _ _ _ h => h) (by rfl) (v := ?v12wreqyes) ?hy12wreqyes hS ?rest12wreqyes
  case hy12wreqyes => intro w0 hSw; obtain ⟨a0, a1, a2, a3, _⟩ := hSw; go_simp; try with_reducible rfl
  simp only [Act.put, List.setIfInBounds_toArray, List.set_cons_zero, List.set_cons_succ]
  refine late_take (i := 13) (some 34) rfl rfl (by kernel_rfl) (by kernel_rfl) (by kernel_rfl) (by kernel_rfl) (by kernel_rfl) (fun _ _ _ h => h) (by rfl) (v := ?v13wreqyes) ?hy13wreqyes hS ?rest13wreqyes
  case hy13wreqyes => intro w0 hSw; obtain ⟨a0, a1, a2, a3, _⟩ := hSw; go_simp; try with_reducible rfl
  simp only [Act.put, List.setIfInBounds_toArray, List.set_cons_zero, List.set_cons_succ]
  refine wpAnyD_one (i := 10) (by kernel_rfl) rfl (fun K hK => ?_)
  go_simp
  go_at_call 43
  refine (HTx.out _ (HE.out.next HB4.out.1)).mono ?_
  rintro e w5 ⟨rfl, hb⟩
  have HB5 := hid (show Below w.heap.size w w5 ∧ w5.heap[w.heap.size]? = some (.cells #[.string M, .string T, .int .i64 k, .slice p n c] 54 (0, 0)) from ⟨HB4.out.1.trans (hb.mono HB4.out.1.size), (hb.block _ (lt_of_heap HB4.out.2)).trans HB4.out.2⟩)
  have hS5 := cells4 HB5.out.2
  refine hK _ _ ⟨fun _ => hS5, ?_⟩
  clear hK K hS hb hS0
  refine late_take (i := 11) (some 32) rfl rfl (by kernel_rfl) (by kernel_rfl) (by kernel_rfl) (by kernel_rfl) (by kernel_rfl) (fun _ _ _ h => h) (by rfl) (v := ?v11wreqyes) ?hy11wreqyes hS5 ?rest11wreqyes
  case hy11wreqyes => intro w0 hSw; obtain ⟨a0, a1, a2, a3, _⟩ := hSw; go_simp; first | (rw [if_neg (by omega)]) | (with_reducible rfl)
  simp only [Act.put, List.setIfInBounds_toArray, List.set_cons_zero, List.set_cons_succ]
  refine wpAnyD_one (i := 14) (by kernel_rfl) rfl (fun K hK => ?_)
  go_simp
  rw [HFst.out]
  go_at_call 86
  refine (HWr.out _ HB5.out.1).mono ?_
  rintro e w6 ⟨q, d, rfl, ho, hb⟩
  have HO6 := hid (show Own w6 w.heap.size (.slice q LH d) _ from own_lower ho HB5.out.1.size)
  have HB6 := hid (show Below w.heap.size w w6 ∧ w6.heap[w.heap.size]? = some (.cells #[.string M, .string T, .int .i64 k, .slice p n c] 54 (0, 0)) from ⟨HB5.out.1.trans (hb.mono HB5.out.1.size), (hb.block _ (lt_of_heap HB5.out.2)).trans HB5.out.2⟩)
  have hS6 := cells4 HB6.out.2
  refine hK _ _ ⟨fun _ => hS6, ?_⟩
  clear hK K hS5 hb ho
  refine late_take (i := 15) (some 36) rfl rfl (by kernel_rfl) (by kernel_rfl) (by kernel_rfl) (by kernel_rfl) (by kernel_rfl) (fun _ _ _ h => h) (by rfl) (v := ?v15wreqyes) ?hy15wreqyes hS6 ?rest15wreqyes
  case hy15wreqyes => intro w0 hSw; obtain ⟨a0, a1, a2, a3, _⟩ := hSw; go_simp; try with_reducible rfl
  simp only [Act.put, List.setIfInBounds_toArray, List.set_cons_zero, List.set_cons_succ]
  refine late_take (i := 16) (some 37) rfl rfl (by kernel_rfl) (by kernel_rfl) (by kernel_rfl) (by kernel_rfl) (by kernel_rfl) (fun _ _ _ h => h) (by rfl) (v := ?v16wreqyes) ?hy16wreqyes hS6 ?rest16wreqyes
  case hy16wreqyes => intro w0 hSw; obtain ⟨a0, a1, a2, a3, _⟩ := hSw; go_simp; try with_reducible rfl
  simp only [Act.put, List.setIfInBounds_toArray, List.set_cons_zero, List.set_cons_succ]
  refine late_take (i := 17) (some 2) rfl rfl (by kernel_rfl) (by kernel_rfl) (by kernel_rfl) (by kernel_rfl) (by kernel_rfl) (fun _ _ _ h => h) (by rfl) (v := ?v17wreqyes) ?hy17wreqyes hS6 ?rest17wreqyes
  case hy17wreqyes => intro w0 hSw; obtain ⟨a0, a1, a2, a3, _⟩ := hSw; go_simp; try with_reducible rfl
  simp only [Act.put, List.setIfInBounds_toArray, List.set_cons_zero, List.set_cons_succ]
  refine late_take (i := 18) (some 3) rfl rfl (by kernel_rfl) (by kernel_rfl) (by kernel_rfl) (by kernel_rfl) (by kernel_rfl) (fun _ _ _ h => h) (by rfl) (v := ?v18wreqyes) ?hy18wreqyes hS6 ?rest18wreqyes
  case hy18wreqyes => intro w0 hSw; obtain ⟨a0, a1, a2, a3, _⟩ := hSw; go_simp; try with_reducible rfl
  simp only [Act.put, List.setIfInBounds_toArray, List.set_cons_zero, List.set_cons_succ]
  refine late_done (by kernel_rfl) ?_ _
  refine NoPanic.normal ?_
  go_wp2
  go_ret2
  exact ⟨q, d, rfl, HO6.out, HB6.out.1⟩
set_option maxRecDepth 20000 in
set_option maxHeartbeats 8000000 in
theorem wresp_line (s : Int) (r : B) (k : Int) (p : Option Addr) (n c : Nat) (w : World) (hr : r.length ≤ 140737488355328) (hl : lineP s r k = false) : Calls Tryz.prog 59 #[.agg #[.int .i64 s, .string (str r), .int .i64 k, .slice p n c]] w fun e w' => e = .returned (.tuple #[.slice none 0 0, .iface 72 (.int .i64 20)]) ∧ Below w.heap.size w w' := by
  obtain ⟨W0, hW0⟩ : ∃ W0, W0 = w.alloc (.cells #[.int .i64 s, .string (str r), .int .i64 k, .slice p n c] 62 (0, 0)) := ⟨_, rfl⟩
  have HB0 := hid (show Below w.heap.size w W0 ∧ W0.heap[w.heap.size]? = some (.cells #[.int .i64 s, .string (str r), .int .i64 k, .slice p n c] 62 (0, 0)) from by rw [hW0]; exact ⟨below_new w _, heap_alloc_new w _⟩)
  have HC1 := hid (show ∀ w : World, _ from fun w => isstatus_any s w)
  have HC2 := hid (show ∀ w : World, _ from fun w => made_val r hr w)
  have HC3 := hid (show ∀ w : World, _ from fun w => isminor_any k w)
  unfold lineP at hl
  obtain ⟨b1, hb1⟩ : ∃ b, staB s = b := ⟨_, rfl⟩
  obtain ⟨b2, hb2⟩ : ∃ b, allB 2 r = b := ⟨_, rfl⟩
  obtain ⟨b3, hb3⟩ : ∃ b, minB k = b := ⟨_, rfl⟩
  rw [hb1] at HC1 hl
  rw [hb2] at HC2 hl
  rw [hb3] at HC3 hl
  obtain ⟨T, hT⟩ : ∃ T, str r = T := ⟨_, rfl⟩
  rw [hT] at HC2 HB0 hW0
  rw [hT]
  clear hT
  have HW0 := hid hW0
  clear hb1 hb2 hb3 hW0
  cases b1 with
  | false =>
    clear hl
    go_enter Tryz.func59, Tryz.ntmps59
    go_wp2_with (go_at_call 99; (with_reducible refine (HC1.out _).mono ?_); rintro e w1 ⟨rfl, hw1⟩; subst w1)
    go_ret2
    exact ⟨rfl, by rw [← HW0.out]; exact HB0.out.1⟩
  | true =>
    cases b2 with
    | false =>
      clear hl
      go_enter Tryz.func59, Tryz.ntmps59
      go_wp2_with (first | (go_at_call 99; (with_reducible refine (HC1.out _).mono ?_); rintro e w1 ⟨rfl, hw1⟩; subst w1) | (go_at_call 100; (with_reducible refine (HC2.out _).mono ?_); rintro e w1 ⟨rfl, hw1⟩; subst w1))
      go_ret2
      exact ⟨rfl, by rw [← HW0.out]; exact HB0.out.1⟩
    | true =>
      cases b3 with
      | true => cases hl
      | false =>
        clear hl
        go_enter Tryz.func59, Tryz.ntmps59
        go_wp2_with (first | (go_at_call 99; (with_reducible refine (HC1.out _).mono ?_); rintro e w1 ⟨rfl, hw1⟩; subst w1) | (go_at_call 100; (with_reducible refine (HC2.out _).mono ?_); rintro e w1 ⟨rfl, hw1⟩; subst w1) | (go_at_call 85; (with_reducible refine (HC3.out _).mono ?_); rintro e w1 ⟨rfl, hw1⟩; subst w1))
        go_ret2
        exact ⟨rfl, by rw [← HW0.out]; exact HB0.out.1⟩
set_option maxRecDepth 20000 in
set_option maxHeartbeats 8000000 in
theorem wresp_no (s : Int) (r : B) (k : Int) (fs : List (B × B)) (p : Option Addr) (n c : Nat) (hn : fs.length = n) (w : World) (hE : EnvP w) (hF : FAt w p fs) (hsz : ∀ f ∈ fs, f.1.length ≤ 140737488355328 ∧ f.2.length ≤ 140737488355328) (hnn : n ≤ 140737488355328) (hr : r.length ≤ 140737488355328) (hl : lineP s r k = true) (hz : wrE (firstP (verC k) (told 10 s.toNat) r) fs ≠ 0) : Calls Tryz.prog 59 #[.agg #[.int .i64 s, .string (str r), .int .i64 k, .slice p n c]] w fun e w' => e = .returned (.tuple #[.slice none 0 0, errOf (wrE (firstP (verC k) (told 10 s.toNat) r) fs)]) ∧ Below w.heap.size w w' := by
  obtain ⟨W0, hW0⟩ : ∃ W0, W0 = w.alloc (.cells #[.int .i64 s, .string (str r), .int .i64 k, .slice p n c] 62 (0, 0)) := ⟨_, rfl⟩
  have HB0 := hid (show Below w.heap.size w W0 ∧ W0.heap[w.heap.size]? = some (.cells #[.int .i64 s, .string (str r), .int .i64 k, .slice p n c] 62 (0, 0)) from by rw [hW0]; exact ⟨below_new w _, heap_alloc_new w _⟩)
  have HC1 := hid (show ∀ w : World, _ from fun w => isstatus_any s w)
  have HC2 := hid (show ∀ w : World, _ from fun w => made_val r hr w)
  have HC3 := hid (show ∀ w : World, _ from fun w => isminor_any k w)
  have hp := lineP_parts hl
  obtain ⟨K, hK, hK2, hKt⟩ := told_ver hp.2.2
  have HTx := hid (show ∀ W : World, EnvP W → _ from fun W h => text_any K (by omega) W h)
  rw [hKt, ← hK] at HTx
  obtain ⟨st, hst, hs1, hs2⟩ := hp.1
  have hst2 : told 10 s.toNat = told 10 st := by rw [hst]; rfl
  have HTs := hid (show ∀ W : World, EnvP W → _ from fun W h => text_any st (by omega) W h)
  rw [← hst2, ← hst] at HTs
  have hs3 : (told 10 s.toNat).length = 3 := by rw [hst2]; exact told_len3 hs1 hs2
  rw [show staB s = true from by rw [hst]; exact decide_eq_true ⟨by omega, by omega⟩] at HC1
  rw [hp.2.1] at HC2
  rw [hp.2.2] at HC3
  have HFst := hid (show (((((⟨#[72, 84, 84, 80, 47, 49, 46]⟩ : ByteArray) ++ str [verC k]) ++ ⟨#[32]⟩) ++ str (told 10 s.toNat)) ++ ⟨#[32]⟩) ++ str r = str (firstP (verC k) (told 10 s.toNat) r) from by
    rw [show (⟨#[32]⟩ : ByteArray) = str [32] from rfl, show (⟨#[72, 84, 84, 80, 47, 49, 46]⟩ : ByteArray) = str [72, 84, 84, 80, 47, 49, 46] from rfl, str_app, str_app, str_app, str_app, str_app]
    exact congrArg str (by unfold firstP; simp))
  have hfl : (firstP (verC k) (told 10 s.toNat) r).length ≤ 562949953421312 := by unfold firstP; simp; omega
  have HWr := hid (show ∀ W : World, Below w.heap.size w W → _ from fun W hb => wrote_no (firstP (verC k) (told 10 s.toNat) r) fs p n c hn W (hF.next hb) hsz hnn hfl hz)
  have HEv := hid (errOf_pos hz)
  rw [HEv.out] at HWr
  rw [HEv.out]
  obtain ⟨EE, hEE⟩ : ∃ EE, wrE (firstP (verC k) (told 10 s.toNat) r) fs = EE := ⟨_, rfl⟩
  rw [hEE] at HWr
  rw [hEE]
  clear hEE HEv
  have hsr : (str r).size ≤ 140737488355328 := by rw [str_size]; exact hr
  have hsd : (str (told 10 s.toNat)).size = 3 := by rw [str_size]; exact hs3
  obtain ⟨T, hT⟩ : ∃ T, str r = T := ⟨_, rfl⟩
  obtain ⟨D, hD⟩ : ∃ D, str (told 10 s.toNat) = D := ⟨_, rfl⟩
  obtain ⟨X, hX⟩ : ∃ X, str [verC k] = X := ⟨_, rfl⟩
  obtain ⟨Y, hY⟩ : ∃ Y, str (firstP (verC k) (told 10 s.toNat) r) = Y := ⟨_, rfl⟩
  have hsx : X.size = 1 := by rw [← hX]; rfl
  rw [hX] at HTx HFst
  rw [hY] at HWr HFst
  rw [hT] at hsr HC2 HB0 HFst hW0
  rw [hD] at hsd HTs HFst
  rw [hT]
  have HW0 := hid hW0
  have HE := hid hE
  clear hF hsz hn hT hD hX hY hW0 hp hl hnn hr hz hfl hE hK hKt hK2 hst hst2 hs1 hs2 hs3
  go_enter Tryz.func59, Tryz.ntmps59
  go_wp2_with (first | (go_at_call 99; (with_reducible refine (HC1.out _).mono ?_); rintro e w1 ⟨rfl, hw1⟩; subst w1) | (go_at_call 100; (with_reducible refine (HC2.out _).mono ?_); rintro e w1 ⟨rfl, hw1⟩; subst w1) | (go_at_call 85; (with_reducible refine (HC3.out _).mono ?_); rintro e w1 ⟨rfl, hw1⟩; subst w1))
  rw [← HW0.out]
  obtain ⟨W3, hW3⟩ : ∃ W3, W3 = W0.drew := ⟨_, rfl⟩
  have HB4 := hid (show Below w.heap.size w W3 ∧ W3.heap[w.heap.size]? = some (.cells #[.int .i64 s, .string T, .int .i64 k, .slice p n c] 62 (0, 0)) from by rw [hW3]; exact ⟨HB0.out.1.drew, HB0.out.2⟩)
  have hS0 := cells4 HB4.out.2
  have hcat1 : ((⟨#[72, 84, 84, 80, 47, 49, 46]⟩ : ByteArray) ++ X).size = 8 := by rw [ByteArray.size_append, hsx]; rfl
  have hcat2 : (((⟨#[72, 84, 84, 80, 47, 49, 46]⟩ : ByteArray) ++ X) ++ (⟨#[32]⟩ : ByteArray)).size = 9 := by rw [ByteArray.size_append, hcat1]; rfl
  have hcat3 : ((((⟨#[72, 84, 84, 80, 47, 49, 46]⟩ : ByteArray) ++ X) ++ (⟨#[32]⟩ : ByteArray)) ++ D).size = 12 := by rw [ByteArray.size_append, hcat2, hsd]
  have hcat4 : (((((⟨#[72, 84, 84, 80, 47, 49, 46]⟩ : ByteArray) ++ X) ++ (⟨#[32]⟩ : ByteArray)) ++ D) ++ (⟨#[32]⟩ : ByteArray)).size = 13 := by rw [ByteArray.size_append, hcat3]; rfl
  refine wp_region_noPanic ?_
  refine any_begin 20 (by kernel_rfl) (by kernel_rfl) ?_
  rw [← hW3]
  clear hW3
  refine late_begin (fun U => Cells4 U w.heap.size (.int .i64 s) (.string T) (.int .i64 k) (.slice p n c)) (fun _ => false) hS0 (fun hS => ?_)
  refine late_take (i := 0) (some 21) rfl rfl (by kernel_rfl) (by kernel_rfl) (by kernel_rfl) (by kernel_rfl) (by kernel_rfl) (fun _ _ _ h => h) (by rfl) (v := ?v0wrespno) ?hy0wrespno hS ?rest0wrespno
  case hy0wrespno => intro w0 hSw; obtain ⟨a0, a1, a2, a3, _⟩ := hSw; go_simp; try with_reducible rfl
  simp only [Act.put, List.setIfInBounds_toArray, List.set_cons_zero, List.set_cons_succ]
  refine late_take (i := 1) (some 22) rfl rfl (by kernel_rfl) (by kernel_rfl) (by kernel_rfl) (by kernel_rfl) (by kernel_rfl) (fun _ _ _ h => h) (by rfl) (v := ?v1wrespno) ?hy1wrespno hS ?rest1wrespno
  case hy1wrespno => intro w0 hSw; obtain ⟨a0, a1, a2, a3, _⟩ := hSw; go_simp; try with_reducible rfl
  simp only [Act.put, List.setIfInBounds_toArray, List.set_cons_zero, List.set_cons_succ]
  refine late_take (i := 5) (some 26) rfl rfl (by kernel_rfl) (by kernel_rfl) (by kernel_rfl) (by kernel_rfl) (by kernel_rfl) (fun _ _ _ h => h) (by rfl) (v := ?v5wrespno) ?hy5wrespno hS ?rest5wrespno
  case hy5wrespno => intro w0 hSw; obtain ⟨a0, a1, a2, a3, _⟩ := hSw; go_simp; try with_reducible rfl
  simp only [Act.put, List.setIfInBounds_toArray, List.set_cons_zero, List.set_cons_succ]
  refine late_take (i := 6) (some 27) rfl rfl (by kernel_rfl) (by kernel_rfl) (by kernel_rfl) (by kernel_rfl) (by kernel_rfl) (fun _ _ _ h => h) (by rfl) (v := ?v6wrespno) ?hy6wrespno hS ?rest6wrespno
  case hy6wrespno => intro w0 hSw; obtain ⟨a0, a1, a2, a3, _⟩ := hSw; go_simp; try with_reducible rfl
  simp only [Act.put, List.setIfInBounds_toArray, List.set_cons_zero, List.set_cons_succ]
  refine late_take (i := 10) (some 31) rfl rfl (by kernel_rfl) (by kernel_rfl) (by kernel_rfl) (by kernel_rfl) (by kernel_rfl) (fun _ _ _ h => h) (by rfl) (v := ?v10wrespno) ?hy10wrespno hS ?rest10wrespno
  case hy10wrespno => intro w0 hSw; obtain ⟨a0, a1, a2, a3, _⟩ := hSw; go_simp; try with_reducible rfl
  simp only [Act.put, List.setIfInBounds_toArray, List.set_cons_zero, List.set_cons_succ]
  refine late_take (i := 11) (some 32) rfl rfl (by kernel_rfl) (by kernel_rfl) (by kernel_rfl) (by kernel_rfl) (by kernel_rfl) (fun _ _ _ h => h) (by rfl) (v := ?v11wrespno) ?hy11wrespno hS ?rest11wrespno
  case hy11wrespno => intro w0 hSw; obtain ⟨a0, a1, a2, a3, _⟩ := hSw; go_simp; try with_reducible rfl
  simp only [Act.put, List.setIfInBounds_toArray, List.set_cons_zero, List.set_cons_succ]
  refine late_take (i := 13) (some 34) rfl rfl (by kernel_rfl) (by kernel_rfl) (by kernel_rfl) (by kernel_rfl) (by kernel_rfl) (fun _ _ _ h => h) (by rfl) (v := ?v13wrespno) ?hy13wrespno hS ?rest13wrespno
  case hy13wrespno => intro w0 hSw; obtain ⟨a0, a1, a2, a3, _⟩ := hSw; go_simp; try with_reducible rfl
  simp only [Act.put, List.setIfInBounds_toArray, List.set_cons_zero, List.set_cons_succ]
  refine late_take (i := 14) (some 35) rfl rfl (by kernel_rfl) (by kernel_rfl) (by kernel_rfl) (by kernel_rfl) (by kernel_rfl) (fun _ _ _ h => h) (by rfl) (v := ?v14wrespno) ?hy14wrespno hS ?rest14wrespno
  case hy14wrespno => intro w0 hSw; obtain ⟨a0, a1, a2, a3, _⟩ := hSw; go_simp; try with_reducible rfl
  simp only [Act.put, List.setIfInBounds_toArray, List.set_cons_zero, List.set_cons_succ]
  refine wpAnyD_one (i := 2) (by kernel_rfl) rfl (fun K hK => ?_)
  go_simp
  go_at_call 43
  refine (HTx.out _ (HE.out.next HB4.out.1)).mono ?_
  rintro e w5 ⟨rfl, hb⟩
  have HB5 := hid (show Below w.heap.size w w5 ∧ w5.heap[w.heap.size]? = some (.cells #[.int .i64 s, .string T, .int .i64 k, .slice p n c] 62 (0, 0)) from ⟨HB4.out.1.trans (hb.mono HB4.out.1.size), (hb.block _ (lt_of_heap HB4.out.2)).trans HB4.out.2⟩)
  have hS5 := cells4 HB5.out.2
  refine hK _ _ ⟨fun _ => hS5, ?_⟩
  clear hK K hS hb hS0
  refine late_take (i := 3) (some 24) rfl rfl (by kernel_rfl) (by kernel_rfl) (by kernel_rfl) (by kernel_rfl) (by kernel_rfl) (fun _ _ _ h => h) (by rfl) (v := ?v3wrespno) ?hy3wrespno hS5 ?rest3wrespno
  case hy3wrespno => intro w0 hSw; obtain ⟨a0, a1, a2, a3, _⟩ := hSw; go_simp; first | (rw [if_neg (by omega)]) | (with_reducible rfl)
  simp only [Act.put, List.setIfInBounds_toArray, List.set_cons_zero, List.set_cons_succ]
  refine late_take (i := 4) (some 25) rfl rfl (by kernel_rfl) (by kernel_rfl) (by kernel_rfl) (by kernel_rfl) (by kernel_rfl) (fun _ _ _ h => h) (by rfl) (v := ?v4wrespno) ?hy4wrespno hS5 ?rest4wrespno
  case hy4wrespno => intro w0 hSw; obtain ⟨a0, a1, a2, a3, _⟩ := hSw; go_simp; first | (rw [if_neg (by omega)]) | (with_reducible rfl)
  simp only [Act.put, List.setIfInBounds_toArray, List.set_cons_zero, List.set_cons_succ]
  refine wpAnyD_one (i := 7) (by kernel_rfl) rfl (fun K hK => ?_)
  go_simp
  go_at_call 43
  refine (HTs.out _ (HE.out.next HB5.out.1)).mono ?_
  rintro e w7 ⟨rfl, hb⟩
  have HB7 := hid (show Below w.heap.size w w7 ∧ w7.heap[w.heap.size]? = some (.cells #[.int .i64 s, .string T, .int .i64 k, .slice p n c] 62 (0, 0)) from ⟨HB5.out.1.trans (hb.mono HB5.out.1.size), (hb.block _ (lt_of_heap HB5.out.2)).trans HB5.out.2⟩)
  have hS7 := cells4 HB7.out.2
  refine hK _ _ ⟨fun _ => hS7, ?_⟩
  clear hK K hS5 hb
  refine late_take (i := 8) (some 29) rfl rfl (by kernel_rfl) (by kernel_rfl) (by kernel_rfl) (by kernel_rfl) (by kernel_rfl) (fun _ _ _ h => h) (by rfl) (v := ?v8wrespno) ?hy8wrespno hS7 ?rest8wrespno
  case hy8wrespno => intro w0 hSw; obtain ⟨a0, a1, a2, a3, _⟩ := hSw; go_simp; first | (rw [if_neg (by omega)]) | (with_reducible rfl)
  simp only [Act.put, List.setIfInBounds_toArray, List.set_cons_zero, List.set_cons_succ]
  refine late_take (i := 9) (some 30) rfl rfl (by kernel_rfl) (by kernel_rfl) (by kernel_rfl) (by kernel_rfl) (by kernel_rfl) (fun _ _ _ h => h) (by rfl) (v := ?v9wrespno) ?hy9wrespno hS7 ?rest9wrespno
  case hy9wrespno => intro w0 hSw; obtain ⟨a0, a1, a2, a3, _⟩ := hSw; go_simp; first | (rw [if_neg (by omega)]) | (with_reducible rfl)
  simp only [Act.put, List.setIfInBounds_toArray, List.set_cons_zero, List.set_cons_succ]
  refine late_take (i := 12) (some 33) rfl rfl (by kernel_rfl) (by kernel_rfl) (by kernel_rfl) (by kernel_rfl) (by kernel_rfl) (fun _ _ _ h => h) (by rfl) (v := ?v12wrespno) ?hy12wrespno hS7 ?rest12wrespno
  case hy12wrespno => intro w0 hSw; obtain ⟨a0, a1, a2, a3, _⟩ := hSw; go_simp; first | (rw [if_neg (by omega)]) | (with_reducible rfl)
  simp only [Act.put, List.setIfInBounds_toArray, List.set_cons_zero, List.set_cons_succ]
  refine wpAnyD_one (i := 15) (by kernel_rfl) rfl (fun K hK => ?_)
  go_simp
  rw [HFst.out]
  go_at_call 86
  refine (HWr.out _ HB7.out.1).mono ?_
  rintro e w6 ⟨rfl, hb⟩
  have HB6 := hid (show Below w.heap.size w w6 ∧ w6.heap[w.heap.size]? = some (.cells #[.int .i64 s, .string T, .int .i64 k, .slice p n c] 62 (0, 0)) from ⟨HB7.out.1.trans (hb.mono HB7.out.1.size), (hb.block _ (lt_of_heap HB7.out.2)).trans HB7.out.2⟩)
  have hS6 := cells4 HB6.out.2
  refine hK _ _ ⟨fun _ => hS6, ?_⟩
  clear hK K hS7 hb
  refine late_take (i := 16) (some 37) rfl rfl (by kernel_rfl) (by kernel_rfl) (by kernel_rfl) (by kernel_rfl) (by kernel_rfl) (fun _ _ _ h => h) (by rfl) (v := ?v16wrespno) ?hy16wrespno hS6 ?rest16wrespno
  case hy16wrespno => intro w0 hSw; obtain ⟨a0, a1, a2, a3, _⟩ := hSw; go_simp; try with_reducible rfl
  simp only [Act.put, List.setIfInBounds_toArray, List.set_cons_zero, List.set_cons_succ]
  refine late_take (i := 17) (some 38) rfl rfl (by kernel_rfl) (by kernel_rfl) (by kernel_rfl) (by kernel_rfl) (by kernel_rfl) (fun _ _ _ h => h) (by rfl) (v := ?v17wrespno) ?hy17wrespno hS6 ?rest17wrespno
  case hy17wrespno => intro w0 hSw; obtain ⟨a0, a1, a2, a3, _⟩ := hSw; go_simp; try with_reducible rfl
  simp only [Act.put, List.setIfInBounds_toArray, List.set_cons_zero, List.set_cons_succ]
  refine late_take (i := 18) (some 2) rfl rfl (by kernel_rfl) (by kernel_rfl) (by kernel_rfl) (by kernel_rfl) (by kernel_rfl) (fun _ _ _ h => h) (by rfl) (v := ?v18wrespno) ?hy18wrespno hS6 ?rest18wrespno
  case hy18wrespno => intro w0 hSw; obtain ⟨a0, a1, a2, a3, _⟩ := hSw; go_simp; try with_reducible rfl
  simp only [Act.put, List.setIfInBounds_toArray, List.set_cons_zero, List.set_cons_succ]
  refine late_take (i := 19) (some 3) rfl rfl (by kernel_rfl) (by kernel_rfl) (by kernel_rfl) (by kernel_rfl) (by kernel_rfl) (fun _ _ _ h => h) (by rfl) (v := ?v19wrespno) ?hy19wrespno hS6 ?rest19wrespno
  case hy19wrespno => intro w0 hSw; obtain ⟨a0, a1, a2, a3, _⟩ := hSw; go_simp; try with_reducible rfl
  simp only [Act.put, List.setIfInBounds_toArray, List.set_cons_zero, List.set_cons_succ]
  refine late_done (by kernel_rfl) ?_ _
  refine NoPanic.normal ?_
  go_wp2
  go_ret2
  exact ⟨rfl, HB6.out.1⟩
set_option maxRecDepth 20000 in
set_option maxHeartbeats 8000000 in
theorem wresp_yes (s : Int) (r : B) (k : Int) (fs : List (B × B)) (p : Option Addr) (n c : Nat) (hn : fs.length = n) (w : World) (hE : EnvP w) (hF : FAt w p fs) (hsz : ∀ f ∈ fs, f.1.length ≤ 140737488355328 ∧ f.2.length ≤ 140737488355328) (hnn : n ≤ 140737488355328) (hr : r.length ≤ 140737488355328) (hl : lineP s r k = true) (hz : wrE (firstP (verC k) (told 10 s.toNat) r) fs = 0) : Calls Tryz.prog 59 #[.agg #[.int .i64 s, .string (str r), .int .i64 k, .slice p n c]] w fun e w' => ∃ q d, e = .returned (.tuple #[.slice q (headW (firstP (verC k) (told 10 s.toNat) r) fs).length d, .nilIface]) ∧ Own w' w.heap.size (.slice q (headW (firstP (verC k) (told 10 s.toNat) r) fs).length d) (headW (firstP (verC k) (told 10 s.toNat) r) fs) ∧ Below w.heap.size w w' := by
  obtain ⟨W0, hW0⟩ : ∃ W0, W0 = w.alloc (.cells #[.int .i64 s, .string (str r), .int .i64 k, .slice p n c] 62 (0, 0)) := ⟨_, rfl⟩
  have HB0 := hid (show Below w.heap.size w W0 ∧ W0.heap[w.heap.size]? = some (.cells #[.int .i64 s, .string (str r), .int .i64 k, .slice p n c] 62 (0, 0)) from by rw [hW0]; exact ⟨below_new w _, heap_alloc_new w _⟩)
  have HC1 := hid (show ∀ w : World, _ from fun w => isstatus_any s w)
  have HC2 := hid (show ∀ w : World, _ from fun w => made_val r hr w)
  have HC3 := hid (show ∀ w : World, _ from fun w => isminor_any k w)
  have hp := lineP_parts hl
  obtain ⟨K, hK, hK2, hKt⟩ := told_ver hp.2.2
  have HTx := hid (show ∀ W : World, EnvP W → _ from fun W h => text_any K (by omega) W h)
  rw [hKt, ← hK] at HTx
  obtain ⟨st, hst, hs1, hs2⟩ := hp.1
  have hst2 : told 10 s.toNat = told 10 st := by rw [hst]; rfl
  have HTs := hid (show ∀ W : World, EnvP W → _ from fun W h => text_any st (by omega) W h)
  rw [← hst2, ← hst] at HTs
  have hs3 : (told 10 s.toNat).length = 3 := by rw [hst2]; exact told_len3 hs1 hs2
  rw [show staB s = true from by rw [hst]; exact decide_eq_true ⟨by omega, by omega⟩] at HC1
  rw [hp.2.1] at HC2
  rw [hp.2.2] at HC3
  have HFst := hid (show (((((⟨#[72, 84, 84, 80, 47, 49, 46]⟩ : ByteArray) ++ str [verC k]) ++ ⟨#[32]⟩) ++ str (told 10 s.toNat)) ++ ⟨#[32]⟩) ++ str r = str (firstP (verC k) (told 10 s.toNat) r) from by
    rw [show (⟨#[32]⟩ : ByteArray) = str [32] from rfl, show (⟨#[72, 84, 84, 80, 47, 49, 46]⟩ : ByteArray) = str [72, 84, 84, 80, 47, 49, 46] from rfl, str_app, str_app, str_app, str_app, str_app]
    exact congrArg str (by unfold firstP; simp))
  have hfl : (firstP (verC k) (told 10 s.toNat) r).length ≤ 562949953421312 := by unfold firstP; simp; omega
  have HWr := hid (show ∀ W : World, Below w.heap.size w W → _ from fun W hb => wrote_yes (firstP (verC k) (told 10 s.toNat) r) fs p n c hn W (hF.next hb) hsz hnn hfl hz)
  obtain ⟨H, hH⟩ : ∃ H, headW (firstP (verC k) (told 10 s.toNat) r) fs = H := ⟨_, rfl⟩
  rw [hH] at HWr
  rw [hH]
  obtain ⟨LH, hLH⟩ : ∃ LH, H.length = LH := ⟨_, rfl⟩
  rw [hLH] at HWr
  rw [hLH]
  clear hH hLH
  have hsr : (str r).size ≤ 140737488355328 := by rw [str_size]; exact hr
  have hsd : (str (told 10 s.toNat)).size = 3 := by rw [str_size]; exact hs3
  obtain ⟨T, hT⟩ : ∃ T, str r = T := ⟨_, rfl⟩
  obtain ⟨D, hD⟩ : ∃ D, str (told 10 s.toNat) = D := ⟨_, rfl⟩
  obtain ⟨X, hX⟩ : ∃ X, str [verC k] = X := ⟨_, rfl⟩
  obtain ⟨Y, hY⟩ : ∃ Y, str (firstP (verC k) (told 10 s.toNat) r) = Y := ⟨_, rfl⟩
  have hsx : X.size = 1 := by rw [← hX]; rfl
  rw [hX] at HTx HFst
  rw [hY] at HWr HFst
  rw [hT] at hsr HC2 HB0 HFst hW0
  rw [hD] at hsd HTs HFst
  rw [hT]
  have HW0 := hid hW0
  have HE := hid hE
  clear hF hsz hn hT hD hX hY hW0 hp hl hnn hr hz hfl hE hK hKt hK2 hst hst2 hs1 hs2 hs3
  go_enter Tryz.func59, Tryz.ntmps59
  go_wp2_with (first | (go_at_call 99; (with_reducible refine (HC1.out _).mono ?_); rintro e w1 ⟨rfl, hw1⟩; subst w1) | (go_at_call 100; (with_reducible refine (HC2.out _).mono ?_); rintro e w1 ⟨rfl, hw1⟩; subst w1) | (go_at_call 85; (with_reducible refine (HC3.out _).mono ?_); rintro e w1 ⟨rfl, hw1⟩; subst w1))
  rw [← HW0.out]
  obtain ⟨W3, hW3⟩ : ∃ W3, W3 = W0.drew := ⟨_, rfl⟩
  have HB4 := hid (show Below w.heap.size w W3 ∧ W3.heap[w.heap.size]? = some (.cells #[.int .i64 s, .string T, .int .i64 k, .slice p n c] 62 (0, 0)) from by rw [hW3]; exact ⟨HB0.out.1.drew, HB0.out.2⟩)
  have hS0 := cells4 HB4.out.2
  have hcat1 : ((⟨#[72, 84, 84, 80, 47, 49, 46]⟩ : ByteArray) ++ X).size = 8 := by rw [ByteArray.size_append, hsx]; rfl
  have hcat2 : (((⟨#[72, 84, 84, 80, 47, 49, 46]⟩ : ByteArray) ++ X) ++ (⟨#[32]⟩ : ByteArray)).size = 9 := by rw [ByteArray.size_append, hcat1]; rfl
  have hcat3 : ((((⟨#[72, 84, 84, 80, 47, 49, 46]⟩ : ByteArray) ++ X) ++ (⟨#[32]⟩ : ByteArray)) ++ D).size = 12 := by rw [ByteArray.size_append, hcat2, hsd]
  have hcat4 : (((((⟨#[72, 84, 84, 80, 47, 49, 46]⟩ : ByteArray) ++ X) ++ (⟨#[32]⟩ : ByteArray)) ++ D) ++ (⟨#[32]⟩ : ByteArray)).size = 13 := by rw [ByteArray.size_append, hcat3]; rfl
  refine wp_region_noPanic ?_
  refine any_begin 20 (by kernel_rfl) (by kernel_rfl) ?_
  rw [← hW3]
  clear hW3
  refine late_begin (fun U => Cells4 U w.heap.size (.int .i64 s) (.string T) (.int .i64 k) (.slice p n c)) (fun _ => false) hS0 (fun hS => ?_)
  refine late_take (i := 0) (some 21) rfl rfl (by kernel_rfl) (by kernel_rfl) (by kernel_rfl) (by kernel_rfl) (by kernel_rfl) (fun _ _ _ h => h) (by rfl) (v := ?v0wrespyes) ?hy0wrespyes hS ?rest0wrespyes
  case hy0wrespyes => intro w0 hSw; obtain ⟨a0, a1, a2, a3, _⟩ := hSw; go_simp; try with_reducible rfl
  simp only [Act.put, List.setIfInBounds_toArray, List.set_cons_zero, List.set_cons_succ]
  refine late_take (i := 1) (some 22) rfl rfl (by kernel_rfl) (by kernel_rfl) (by kernel_rfl) (by kernel_rfl) (by kernel_rfl) (fun _ _ _ h => h) (by rfl) (v := ?v1wrespyes) ?hy1wrespyes hS ?rest1wrespyes
  case hy1wrespyes => intro w0 hSw; obtain ⟨a0, a1, a2, a3, _⟩ := hSw; go_simp; try with_reducible rfl
  simp only [Act.put, List.setIfInBounds_toArray, List.set_cons_zero, List.set_cons_succ]
  refine late_take (i := 5) (some 26) rfl rfl (by kernel_rfl) (by kernel_rfl) (by kernel_rfl) (by kernel_rfl) (by kernel_rfl) (fun _ _ _ h => h) (by rfl) (v := ?v5wrespyes) ?hy5wrespyes hS ?rest5wrespyes
  case hy5wrespyes => intro w0 hSw; obtain ⟨a0, a1, a2, a3, _⟩ := hSw; go_simp; try with_reducible rfl
  simp only [Act.put, List.setIfInBounds_toArray, List.set_cons_zero, List.set_cons_succ]
  refine late_take (i := 6) (some 27) rfl rfl (by kernel_rfl) (by kernel_rfl) (by kernel_rfl) (by kernel_rfl) (by kernel_rfl) (fun _ _ _ h => h) (by rfl) (v := ?v6wrespyes) ?hy6wrespyes hS ?rest6wrespyes
  case hy6wrespyes => intro w0 hSw; obtain ⟨a0, a1, a2, a3, _⟩ := hSw; go_simp; try with_reducible rfl
  simp only [Act.put, List.setIfInBounds_toArray, List.set_cons_zero, List.set_cons_succ]
  refine late_take (i := 10) (some 31) rfl rfl (by kernel_rfl) (by kernel_rfl) (by kernel_rfl) (by kernel_rfl) (by kernel_rfl) (fun _ _ _ h => h) (by rfl) (v := ?v10wrespyes) ?hy10wrespyes hS ?rest10wrespyes
  case hy10wrespyes => intro w0 hSw; obtain ⟨a0, a1, a2, a3, _⟩ := hSw; go_simp; try with_reducible rfl
  simp only [Act.put, List.setIfInBounds_toArray, List.set_cons_zero, List.set_cons_succ]
  refine late_take (i := 11) (some 32) rfl rfl (by kernel_rfl) (by kernel_rfl) (by kernel_rfl) (by kernel_rfl) (by kernel_rfl) (fun _ _ _ h => h) (by rfl) (v := ?v11wrespyes) ?hy11wrespyes hS ?rest11wrespyes
  case hy11wrespyes => intro w0 hSw; obtain ⟨a0, a1, a2, a3, _⟩ := hSw; go_simp; try with_reducible rfl
  simp only [Act.put, List.setIfInBounds_toArray, List.set_cons_zero, List.set_cons_succ]
  refine late_take (i := 13) (some 34) rfl rfl (by kernel_rfl) (by kernel_rfl) (by kernel_rfl) (by kernel_rfl) (by kernel_rfl) (fun _ _ _ h => h) (by rfl) (v := ?v13wrespyes) ?hy13wrespyes hS ?rest13wrespyes
  case hy13wrespyes => intro w0 hSw; obtain ⟨a0, a1, a2, a3, _⟩ := hSw; go_simp; try with_reducible rfl
  simp only [Act.put, List.setIfInBounds_toArray, List.set_cons_zero, List.set_cons_succ]
  refine late_take (i := 14) (some 35) rfl rfl (by kernel_rfl) (by kernel_rfl) (by kernel_rfl) (by kernel_rfl) (by kernel_rfl) (fun _ _ _ h => h) (by rfl) (v := ?v14wrespyes) ?hy14wrespyes hS ?rest14wrespyes
  case hy14wrespyes => intro w0 hSw; obtain ⟨a0, a1, a2, a3, _⟩ := hSw; go_simp; try with_reducible rfl
  simp only [Act.put, List.setIfInBounds_toArray, List.set_cons_zero, List.set_cons_succ]
  refine wpAnyD_one (i := 2) (by kernel_rfl) rfl (fun K hK => ?_)
  go_simp
  go_at_call 43
  refine (HTx.out _ (HE.out.next HB4.out.1)).mono ?_
  rintro e w5 ⟨rfl, hb⟩
  have HB5 := hid (show Below w.heap.size w w5 ∧ w5.heap[w.heap.size]? = some (.cells #[.int .i64 s, .string T, .int .i64 k, .slice p n c] 62 (0, 0)) from ⟨HB4.out.1.trans (hb.mono HB4.out.1.size), (hb.block _ (lt_of_heap HB4.out.2)).trans HB4.out.2⟩)
  have hS5 := cells4 HB5.out.2
  refine hK _ _ ⟨fun _ => hS5, ?_⟩
  clear hK K hS hb hS0
  refine late_take (i := 3) (some 24) rfl rfl (by kernel_rfl) (by kernel_rfl) (by kernel_rfl) (by kernel_rfl) (by kernel_rfl) (fun _ _ _ h => h) (by rfl) (v := ?v3wrespyes) ?hy3wrespyes hS5 ?rest3wrespyes
  case hy3wrespyes => intro w0 hSw; obtain ⟨a0, a1, a2, a3, _⟩ := hSw; go_simp; first | (rw [if_neg (by omega)]) | (with_reducible rfl)
  simp only [Act.put, List.setIfInBounds_toArray, List.set_cons_zero, List.set_cons_succ]
  refine late_take (i := 4) (some 25) rfl rfl (by kernel_rfl) (by kernel_rfl) (by kernel_rfl) (by kernel_rfl) (by kernel_rfl) (fun _ _ _ h => h) (by rfl) (v := ?v4wrespyes) ?hy4wrespyes hS5 ?rest4wrespyes
  case hy4wrespyes => intro w0 hSw; obtain ⟨a0, a1, a2, a3, _⟩ := hSw; go_simp; first | (rw [if_neg (by omega)]) | (with_reducible rfl)
  simp only [Act.put, List.setIfInBounds_toArray, List.set_cons_zero, List.set_cons_succ]
  refine wpAnyD_one (i := 7) (by kernel_rfl) rfl (fun K hK => ?_)
  go_simp
  go_at_call 43
  refine (HTs.out _ (HE.out.next HB5.out.1)).mono ?_
  rintro e w7 ⟨rfl, hb⟩
  have HB7 := hid (show Below w.heap.size w w7 ∧ w7.heap[w.heap.size]? = some (.cells #[.int .i64 s, .string T, .int .i64 k, .slice p n c] 62 (0, 0)) from ⟨HB5.out.1.trans (hb.mono HB5.out.1.size), (hb.block _ (lt_of_heap HB5.out.2)).trans HB5.out.2⟩)
  have hS7 := cells4 HB7.out.2
  refine hK _ _ ⟨fun _ => hS7, ?_⟩
  clear hK K hS5 hb
  refine late_take (i := 8) (some 29) rfl rfl (by kernel_rfl) (by kernel_rfl) (by kernel_rfl) (by kernel_rfl) (by kernel_rfl) (fun _ _ _ h => h) (by rfl) (v := ?v8wrespyes) ?hy8wrespyes hS7 ?rest8wrespyes
  case hy8wrespyes => intro w0 hSw; obtain ⟨a0, a1, a2, a3, _⟩ := hSw; go_simp; first | (rw [if_neg (by omega)]) | (with_reducible rfl)
  simp only [Act.put, List.setIfInBounds_toArray, List.set_cons_zero, List.set_cons_succ]
  refine late_take (i := 9) (some 30) rfl rfl (by kernel_rfl) (by kernel_rfl) (by kernel_rfl) (by kernel_rfl) (by kernel_rfl) (fun _ _ _ h => h) (by rfl) (v := ?v9wrespyes) ?hy9wrespyes hS7 ?rest9wrespyes
  case hy9wrespyes => intro w0 hSw; obtain ⟨a0, a1, a2, a3, _⟩ := hSw; go_simp; first | (rw [if_neg (by omega)]) | (with_reducible rfl)
  simp only [Act.put, List.setIfInBounds_toArray, List.set_cons_zero, List.set_cons_succ]
  refine late_take (i := 12) (some 33) rfl rfl (by kernel_rfl) (by kernel_rfl) (by kernel_rfl) (by kernel_rfl) (by kernel_rfl) (fun _ _ _ h => h) (by rfl) (v := ?v12wrespyes) ?hy12wrespyes hS7 ?rest12wrespyes
  case hy12wrespyes => intro w0 hSw; obtain ⟨a0, a1, a2, a3, _⟩ := hSw; go_simp; first | (rw [if_neg (by omega)]) | (with_reducible rfl)
  simp only [Act.put, List.setIfInBounds_toArray, List.set_cons_zero, List.set_cons_succ]
  refine wpAnyD_one (i := 15) (by kernel_rfl) rfl (fun K hK => ?_)
  go_simp
  rw [HFst.out]
  go_at_call 86
  refine (HWr.out _ HB7.out.1).mono ?_
  rintro e w6 ⟨q, d, rfl, ho, hb⟩
  have HO6 := hid (show Own w6 w.heap.size (.slice q LH d) _ from own_lower ho HB7.out.1.size)
  have HB6 := hid (show Below w.heap.size w w6 ∧ w6.heap[w.heap.size]? = some (.cells #[.int .i64 s, .string T, .int .i64 k, .slice p n c] 62 (0, 0)) from ⟨HB7.out.1.trans (hb.mono HB7.out.1.size), (hb.block _ (lt_of_heap HB7.out.2)).trans HB7.out.2⟩)
  have hS6 := cells4 HB6.out.2
  refine hK _ _ ⟨fun _ => hS6, ?_⟩
  clear hK K hS7 hb ho
  refine late_take (i := 16) (some 37) rfl rfl (by kernel_rfl) (by kernel_rfl) (by kernel_rfl) (by kernel_rfl) (by kernel_rfl) (fun _ _ _ h => h) (by rfl) (v := ?v16wrespyes) ?hy16wrespyes hS6 ?rest16wrespyes
  case hy16wrespyes => intro w0 hSw; obtain ⟨a0, a1, a2, a3, _⟩ := hSw; go_simp; try with_reducible rfl
  simp only [Act.put, List.setIfInBounds_toArray, List.set_cons_zero, List.set_cons_succ]
  refine late_take (i := 17) (some 38) rfl rfl (by kernel_rfl) (by kernel_rfl) (by kernel_rfl) (by kernel_rfl) (by kernel_rfl) (fun _ _ _ h => h) (by rfl) (v := ?v17wrespyes) ?hy17wrespyes hS6 ?rest17wrespyes
  case hy17wrespyes => intro w0 hSw; obtain ⟨a0, a1, a2, a3, _⟩ := hSw; go_simp; try with_reducible rfl
  simp only [Act.put, List.setIfInBounds_toArray, List.set_cons_zero, List.set_cons_succ]
  refine late_take (i := 18) (some 2) rfl rfl (by kernel_rfl) (by kernel_rfl) (by kernel_rfl) (by kernel_rfl) (by kernel_rfl) (fun _ _ _ h => h) (by rfl) (v := ?v18wrespyes) ?hy18wrespyes hS6 ?rest18wrespyes
  case hy18wrespyes => intro w0 hSw; obtain ⟨a0, a1, a2, a3, _⟩ := hSw; go_simp; try with_reducible rfl
  simp only [Act.put, List.setIfInBounds_toArray, List.set_cons_zero, List.set_cons_succ]
  refine late_take (i := 19) (some 3) rfl rfl (by kernel_rfl) (by kernel_rfl) (by kernel_rfl) (by kernel_rfl) (by kernel_rfl) (fun _ _ _ h => h) (by rfl) (v := ?v19wrespyes) ?hy19wrespyes hS6 ?rest19wrespyes
  case hy19wrespyes => intro w0 hSw; obtain ⟨a0, a1, a2, a3, _⟩ := hSw; go_simp; try with_reducible rfl
  simp only [Act.put, List.setIfInBounds_toArray, List.set_cons_zero, List.set_cons_succ]
  refine late_done (by kernel_rfl) ?_ _
  refine NoPanic.normal ?_
  go_wp2
  go_ret2
  exact ⟨q, d, rfl, HO6.out, HB6.out.1⟩
end Go.Proofs.YtnlmjlfoeodleaaGreatDoor
