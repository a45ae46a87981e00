/- The document's own: a request's head as a text. -/
import Derived.Test.YtmcglcdpcblckabDoorHWrite
import Derived.Test.YtmcglcdpcblckabDoorPReq
namespace Go.Proofs.YtmcglcdpcblckabDoor
open Go.RowKit

def okQ (m t : B) (k : Int) (fs : List (B × B)) : Bool := isTok (str m) && decide (t ≠ []) && allB 1 t && decide (0 ≤ k) && decide (k ≤ 1) && fineB fs
theorem empty_eq {t : B} (h : t = []) : str t = ⟨#[]⟩ := by rw [h]
theorem str_nil_ne {t : B} (h : t ≠ []) : ((str t).toList == []) = false ∧ (str t).toList.isEmpty = false ∧ ¬ (str t).toList = [] := by
  have e : (str t).toList = t := by rw [ByteArray.toList_eq]
  rw [e]
  refine ⟨by simpa using h, by simpa using h, h⟩
set_option maxRecDepth 20000 in
set_option maxHeartbeats 8000000 in
theorem written_no (m t : B) (k : Int) (fs : List (B × B)) (p : Option Addr) (n c : Nat) (hn : fs.length = n) (w : World) (hF : FAt w p fs) (hsz : ∀ f ∈ fs, f.1.length ≤ 1048576 ∧ f.2.length ≤ 1048576) (hnn : n ≤ 1048576) (hm : m.length ≤ 1048576) (ht : t.length ≤ 1048576) (hno : okQ m t k fs = false) : Calls Tryd.prog 5 #[.agg #[.string (str m), .string (str t), .int .i64 k, .slice p n c]] w fun e w' => e = .returned (.tuple #[.slice none 0 0, .bool false]) ∧ Below w.heap.size w w' := by
  obtain ⟨W0, hW0⟩ : ∃ W0, W0 = w.alloc (.cells #[.string (str m), .string (str t), .int .i64 k, .slice p n c] 24 (0, 0)) := ⟨_, rfl⟩
  have HW0 := hid hW0
  have HB0 := hid (show Below w.heap.size w W0 ∧ W0.heap[w.heap.size]? = some (.cells #[.string (str m), .string (str t), .int .i64 k, .slice p n c] 24 (0, 0)) from by rw [hW0]; exact ⟨below_new w _, heap_alloc_new w _⟩)
  have HTk := hid (show ∀ w : World, _ from fun w => ristoken_any (str m) w (by rw [str_size]; unfold maxLen; omega))
  have HAl := hid (show ∀ w : World, _ from fun w => all_any1 t (by omega) w)
  have HFi := hid (fine_any fs p n c hn W0 (hF.next HB0.out.1) hsz (by omega))
  rw [hW0] at HFi
  unfold okQ at hno
  obtain ⟨M, hM⟩ : ∃ M, str m = M := ⟨_, rfl⟩
  obtain ⟨T, hT⟩ : ∃ T, str t = T := ⟨_, rfl⟩
  have HTe := hid (show t ≠ [] → ((T.toList == []) = false ∧ T.toList.isEmpty = false ∧ ¬ T.toList = []) from fun h => by rw [← hT]; exact str_nil_ne h)
  have HT0 := hid (show t = [] → T = ⟨#[]⟩ from fun h => by rw [← hT]; exact empty_eq h)
  rw [hM] at hno HTk HFi HB0
  rw [hT] at HAl HFi HB0
  rw [hM, hT]
  have HBz := hid (below_new w (.cells #[.string M, .string T, .int .i64 k, .slice p n c] 24 (0, 0)))
  clear hF hsz hn hM hT hW0 HW0
  cases htk : isTok M with
  | false =>
    rw [htk] at HTk
    clear hno
    go_enter Tryd.func5, Tryd.ntmps5
    go_wp2_with (go_at_call 9; (with_reducible refine (HTk.out _).mono ?_); rintro e w1 ⟨rfl, hw1⟩; subst w1)
    go_ret2
    exact ⟨rfl, HBz.out⟩
  | true =>
    rw [htk] at HTk hno
    by_cases h0 : t = []
    · obtain rfl := HT0.out h0
      clear hno
      go_enter Tryd.func5, Tryd.ntmps5
      go_wp2_with (go_at_call 9; (with_reducible refine (HTk.out _).mono ?_); rintro e w1 ⟨rfl, hw1⟩; subst w1)
      go_ret2
      exact ⟨rfl, HBz.out⟩
    · obtain ⟨e1, e2, e3⟩ := HTe.out h0
      cases hal : allB 1 t with
      | false =>
        rw [hal] at HAl
        clear hno
        go_enter Tryd.func5, Tryd.ntmps5
        go_wp2_with (first | (go_at_call 9; (with_reducible refine (HTk.out _).mono ?_); rintro e w1 ⟨rfl, hw1⟩; subst w1) | (go_at_call 10; (with_reducible refine (HAl.out _).mono ?_); rintro e w2 ⟨rfl, hw2⟩; subst w2))
        go_ret2
        exact ⟨rfl, HBz.out⟩
      | true =>
        rw [hal] at HAl hno
        rw [decide_eq_true h0] at hno
        by_cases hk0 : k < 0
        · clear hno
          go_enter Tryd.func5, Tryd.ntmps5
          go_wp2_with (first | (go_at_call 9; (with_reducible refine (HTk.out _).mono ?_); rintro e w1 ⟨rfl, hw1⟩; subst w1) | (go_at_call 10; (with_reducible refine (HAl.out _).mono ?_); rintro e w2 ⟨rfl, hw2⟩; subst w2))
          go_ret2
          exact ⟨rfl, HBz.out⟩
        · by_cases hk1 : 1 < k
          · clear hno
            go_enter Tryd.func5, Tryd.ntmps5
            go_wp2_with (first | (go_at_call 9; (with_reducible refine (HTk.out _).mono ?_); rintro e w1 ⟨rfl, hw1⟩; subst w1) | (go_at_call 10; (with_reducible refine (HAl.out _).mono ?_); rintro e w2 ⟨rfl, hw2⟩; subst w2))
            go_ret2
            exact ⟨rfl, HBz.out⟩
          · have hfi : fineB fs = false := by
              rw [decide_eq_true (show 0 ≤ k by omega), decide_eq_true (show k ≤ 1 by omega)] at hno
              simpa using hno
            rw [hfi] at HFi
            clear hno
            go_enter Tryd.func5, Tryd.ntmps5
            go_wp2_with (first | (go_at_call 9; (with_reducible refine (HTk.out _).mono ?_); rintro e w1 ⟨rfl, hw1⟩; subst w1) | (go_at_call 10; (with_reducible refine (HAl.out _).mono ?_); rintro e w2 ⟨rfl, hw2⟩; subst w2) | (go_at_call 11; (with_reducible refine HFi.out.mono ?_); rintro e w3 ⟨rfl, hb⟩; have HB3 := hid hb; clear hb))
            go_ret2
            exact ⟨rfl, HBz.out.trans (HB3.out.mono HBz.out.size)⟩
theorem own_lower {w : World} {b b' : Nat} {v : Value} {acc : B} (h : Own w b v acc) (hb : b' ≤ b) : Own w b' v acc := by
  refine ⟨h.1, ?_⟩
  rcases h.2 with h1 | ⟨g, cap, cur, h1, h2, h3⟩
  · exact .inl h1
  · exact .inr ⟨g, cap, cur, h1, Nat.le_trans hb h2, h3⟩
set_option maxRecDepth 20000 in
set_option maxHeartbeats 8000000 in
theorem written_yes0 (m t : B) (k : Int) (fs : List (B × B)) (p : Option Addr) (n c : Nat) (hn : fs.length = n) (w : World) (hF : FAt w p fs) (hsz : ∀ f ∈ fs, f.1.length ≤ 1048576 ∧ f.2.length ≤ 1048576) (hnn : n ≤ 1048576) (hm : m.length ≤ 1048576) (ht : t.length ≤ 1048576) (hk : k = 0) (hok : okQ m t k fs = true) : Calls Tryd.prog 5 #[.agg #[.string (str m), .string (str t), .int .i64 k, .slice p n c]] w fun e w' => ∃ q x d, e = .returned (.tuple #[.slice q x d, .bool (decide (x ≤ 65536))]) ∧ x = (headW (firstQ m t 48) fs).length ∧ Own w' w.heap.size (.slice q x d) (headW (firstQ m t 48) fs) ∧ Below w.heap.size w w' := by
  subst hk
  obtain ⟨W0, hW0⟩ : ∃ W0, W0 = w.alloc (.cells #[.string (str m), .string (str t), .int .i64 0, .slice p n c] 24 (0, 0)) := ⟨_, rfl⟩
  have HW0 := hid hW0
  have HB0 := hid (show Below w.heap.size w W0 ∧ W0.heap[w.heap.size]? = some (.cells #[.string (str m), .string (str t), .int .i64 0, .slice p n c] 24 (0, 0)) from by rw [hW0]; exact ⟨below_new w _, heap_alloc_new w _⟩)
  have HTk := hid (show ∀ w : World, _ from fun w => ristoken_any (str m) w (by rw [str_size]; unfold maxLen; omega))
  have HAl := hid (show ∀ w : World, _ from fun w => all_any1 t (by omega) w)
  have HFi := hid (fine_any fs p n c hn W0 (hF.next HB0.out.1) hsz (by omega))
  rw [hW0] at HFi
  have hparts : isTok (str m) = true ∧ t ≠ [] ∧ allB 1 t = true ∧ fineB fs = true := by
    unfold okQ at hok
    simp only [Bool.and_eq_true, decide_eq_true_eq] at hok
    exact ⟨hok.1.1.1.1.1, hok.1.1.1.1.2, hok.1.1.1.2, hok.2⟩
  have h64 : n ≤ 64 := by
    have := hparts.2.2.2
    unfold fineB at this
    simp only [Bool.and_eq_true, decide_eq_true_eq] at this
    omega
  rw [hparts.1] at HTk
  rw [hparts.2.2.1] at HAl
  rw [hparts.2.2.2] at HFi
  obtain ⟨e1, e2, e3⟩ := str_nil_ne hparts.2.1
  have HFst := hid (show (((str m ++ ⟨#[32]⟩) ++ str t) ++ ⟨#[32, 72, 84, 84, 80, 47, 49, 46]⟩) ++ str [48] = str (firstQ m t 48) from by
    rw [show (⟨#[32]⟩ : ByteArray) = str [32] from rfl, show (⟨#[32, 72, 84, 84, 80, 47, 49, 46]⟩ : ByteArray) = str [32, 72, 84, 84, 80, 47, 49, 46] from rfl, str_app, str_app, str_app, str_app]
    exact congrArg str (by unfold firstQ; simp))
  have HTx := hid (show ∀ w : World, _ from fun w => rtext_any 0 w (by omega))
  rw [show told 10 0 = [48] from by decide +kernel, show ((0 : Nat) : Int) = 0 from rfl] at HTx
  have HHd := hid (show ∀ W : World, Below w.heap.size w W → _ from fun W hb => rhead_any (firstQ m t 48) fs p n c hn W (hF.next hb) hsz h64 (by unfold firstQ; simp; omega))
  have hsm : (str m).size ≤ 1048576 := by rw [str_size]; exact hm
  have hst : (str t).size ≤ 1048576 := by rw [str_size]; exact ht
  obtain ⟨M, hM⟩ : ∃ M, str m = M := ⟨_, rfl⟩
  obtain ⟨T, hT⟩ : ∃ T, str t = T := ⟨_, rfl⟩
  obtain ⟨X, hX⟩ : ∃ X, str [48] = X := ⟨_, rfl⟩
  obtain ⟨Y, hY⟩ : ∃ Y, str (firstQ m t 48) = Y := ⟨_, rfl⟩
  have hsx : X.size = 1 := by rw [← hX]; rfl
  rw [hM] at hsm HTk HFi HB0 HFst
  rw [hT] at hst e1 e2 e3 HAl HFi HB0 HFst
  rw [hX] at HTx HFst
  rw [hY] at HHd HFst
  rw [hM, hT]
  rw [hM, hT] at hW0
  have HW1 := hid hW0
  clear hF hsz hn hM hT hX hY HW0 hparts hok hnn hm ht
  go_enter Tryd.func5, Tryd.ntmps5
  go_wp2_with (first | (go_at_call 9; (with_reducible refine (HTk.out _).mono ?_); rintro e w1 ⟨rfl, hw1⟩; subst w1) | (go_at_call 10; (with_reducible refine (HAl.out _).mono ?_); rintro e w2 ⟨rfl, hw2⟩; subst w2) | (go_at_call 11; (with_reducible refine HFi.out.mono ?_); rintro e w3 ⟨rfl, hb⟩; rw [← HW1.out] at hb; have HB3 := hid (show Below w.heap.size w w3 ∧ w3.heap[w.heap.size]? = some (.cells #[.string M, .string T, .int .i64 0, .slice p n c] 24 (0, 0)) from ⟨HB0.out.1.trans (hb.mono HB0.out.1.size), (hb.block _ (lt_of_heap HB0.out.2)).trans HB0.out.2⟩); clear hb))
  obtain ⟨W3, hW3⟩ : ∃ W3, W3 = w3.drew := ⟨_, rfl⟩
  have HB4 := hid (show Below w.heap.size w W3 ∧ W3.heap[w.heap.size]? = some (.cells #[.string M, .string T, .int .i64 0, .slice p n c] 24 (0, 0)) from by rw [hW3]; exact ⟨HB3.out.1.drew, HB3.out.2⟩)
  have hS0 := cells4 HB4.out.2
  have hcat1 : (M ++ (⟨#[32]⟩ : ByteArray)).size = M.size + 1 := by rw [ByteArray.size_append]; rfl
  have hcat2 : ((M ++ (⟨#[32]⟩ : ByteArray)) ++ T).size = M.size + 1 + T.size := by rw [ByteArray.size_append, hcat1]
  have hcat3 : (((M ++ (⟨#[32]⟩ : ByteArray)) ++ T) ++ (⟨#[32, 72, 84, 84, 80, 47, 49, 46]⟩ : ByteArray)).size = M.size + 1 + T.size + 8 := by rw [ByteArray.size_append, hcat2]; rfl
  refine wp_region_noPanic ?_
  refine any_begin 18 (by kernel_rfl) (by kernel_rfl) ?_
  rw [← hW3]
  clear hW3
  refine late_begin (fun U => Cells4 U w.heap.size (.string M) (.string T) (.int .i64 0) (.slice p n c)) (fun _ => false) hS0 (fun hS => ?_)
  refine late_take (i := 0) (some 35) rfl rfl (by kernel_rfl) (by kernel_rfl) (by kernel_rfl) (by kernel_rfl) (by kernel_rfl) (fun _ _ _ h => h) (by rfl) (v := ?v0y0) ?hy0y0 hS ?rest0y0
  case hy0y0 => intro w0 hSw; obtain ⟨a0, a1, a2, a3, _⟩ := hSw; go_simp; try with_reducible rfl
  simp only [Act.put, List.setIfInBounds_toArray, List.set_cons_zero, List.set_cons_succ]
  refine late_take (i := 1) (some 36) rfl rfl (by kernel_rfl) (by kernel_rfl) (by kernel_rfl) (by kernel_rfl) (by kernel_rfl) (fun _ _ _ h => h) (by rfl) (v := ?v1y0) ?hy1y0 hS ?rest1y0
  case hy1y0 => intro w0 hSw; obtain ⟨a0, a1, a2, a3, _⟩ := hSw; go_simp; try with_reducible rfl
  simp only [Act.put, List.setIfInBounds_toArray, List.set_cons_zero, List.set_cons_succ]
  refine late_take (i := 2) (some 37) rfl rfl (by kernel_rfl) (by kernel_rfl) (by kernel_rfl) (by kernel_rfl) (by kernel_rfl) (fun _ _ _ h => h) (by rfl) (v := ?v2y0) ?hy2y0 hS ?rest2y0
  case hy2y0 => intro w0 hSw; obtain ⟨a0, a1, a2, a3, _⟩ := hSw; go_simp; rw [if_neg (by omega)]
  simp only [Act.put, List.setIfInBounds_toArray, List.set_cons_zero, List.set_cons_succ]
  refine late_take (i := 3) (some 38) rfl rfl (by kernel_rfl) (by kernel_rfl) (by kernel_rfl) (by kernel_rfl) (by kernel_rfl) (fun _ _ _ h => h) (by rfl) (v := ?v3y0) ?hy3y0 hS ?rest3y0
  case hy3y0 => intro w0 hSw; obtain ⟨a0, a1, a2, a3, _⟩ := hSw; go_simp; try with_reducible rfl
  simp only [Act.put, List.setIfInBounds_toArray, List.set_cons_zero, List.set_cons_succ]
  refine late_take (i := 4) (some 39) rfl rfl (by kernel_rfl) (by kernel_rfl) (by kernel_rfl) (by kernel_rfl) (by kernel_rfl) (fun _ _ _ h => h) (by rfl) (v := ?v4y0) ?hy4y0 hS ?rest4y0
  case hy4y0 => intro w0 hSw; obtain ⟨a0, a1, a2, a3, _⟩ := hSw; go_simp; try with_reducible rfl
  simp only [Act.put, List.setIfInBounds_toArray, List.set_cons_zero, List.set_cons_succ]
  refine late_take (i := 5) (some 40) rfl rfl (by kernel_rfl) (by kernel_rfl) (by kernel_rfl) (by kernel_rfl) (by kernel_rfl) (fun _ _ _ h => h) (by rfl) (v := ?v5y0) ?hy5y0 hS ?rest5y0
  case hy5y0 => intro w0 hSw; obtain ⟨a0, a1, a2, a3, _⟩ := hSw; go_simp; rw [if_neg (by omega)]
  simp only [Act.put, List.setIfInBounds_toArray, List.set_cons_zero, List.set_cons_succ]
  refine late_take (i := 6) (some 41) rfl rfl (by kernel_rfl) (by kernel_rfl) (by kernel_rfl) (by kernel_rfl) (by kernel_rfl) (fun _ _ _ h => h) (by rfl) (v := ?v6y0) ?hy6y0 hS ?rest6y0
  case hy6y0 => intro w0 hSw; obtain ⟨a0, a1, a2, a3, _⟩ := hSw; go_simp; rw [if_neg (by omega)]
  simp only [Act.put, List.setIfInBounds_toArray, List.set_cons_zero, List.set_cons_succ]
  refine late_take (i := 7) (some 42) rfl rfl (by kernel_rfl) (by kernel_rfl) (by kernel_rfl) (by kernel_rfl) (by kernel_rfl) (fun _ _ _ h => h) (by rfl) (v := ?v7y0) ?hy7y0 hS ?rest7y0
  case hy7y0 => intro w0 hSw; obtain ⟨a0, a1, a2, a3, _⟩ := hSw; go_simp; try with_reducible rfl
  simp only [Act.put, List.setIfInBounds_toArray, List.set_cons_zero, List.set_cons_succ]
  refine late_take (i := 8) (some 43) rfl rfl (by kernel_rfl) (by kernel_rfl) (by kernel_rfl) (by kernel_rfl) (by kernel_rfl) (fun _ _ _ h => h) (by rfl) (v := ?v8y0) ?hy8y0 hS ?rest8y0
  case hy8y0 => intro w0 hSw; obtain ⟨a0, a1, a2, a3, _⟩ := hSw; go_simp; try with_reducible rfl
  simp only [Act.put, List.setIfInBounds_toArray, List.set_cons_zero, List.set_cons_succ]
  refine late_take (i := 11) (some 46) rfl rfl (by kernel_rfl) (by kernel_rfl) (by kernel_rfl) (by kernel_rfl) (by kernel_rfl) (fun _ _ _ h => h) (by rfl) (v := ?v11y0) ?hy11y0 hS ?rest11y0
  case hy11y0 => intro w0 hSw; obtain ⟨a0, a1, a2, a3, _⟩ := hSw; go_simp; try with_reducible rfl
  simp only [Act.put, List.setIfInBounds_toArray, List.set_cons_zero, List.set_cons_succ]
  refine late_take (i := 12) (some 47) rfl rfl (by kernel_rfl) (by kernel_rfl) (by kernel_rfl) (by kernel_rfl) (by kernel_rfl) (fun _ _ _ h => h) (by rfl) (v := ?v12y0) ?hy12y0 hS ?rest12y0
  case hy12y0 => intro w0 hSw; obtain ⟨a0, a1, a2, a3, _⟩ := hSw; go_simp; try with_reducible rfl
  simp only [Act.put, List.setIfInBounds_toArray, List.set_cons_zero, List.set_cons_succ]
  refine wpAnyD_one (i := 9) (by kernel_rfl) rfl (fun K hK => ?_)
  go_simp
  go_at_call 13
  refine (HTx.out _).mono ?_
  rintro e w5 ⟨rfl, hb⟩
  have HB5 := hid (show Below w.heap.size w w5 ∧ w5.heap[w.heap.size]? = some (.cells #[.string M, .string T, .int .i64 0, .slice p n c] 24 (0, 0)) from ⟨HB4.out.1.trans (hb.mono HB4.out.1.size), (hb.block _ (lt_of_heap HB4.out.2)).trans HB4.out.2⟩)
  have hS5 := cells4 HB5.out.2
  refine hK _ _ ⟨fun _ => hS5, ?_⟩
  clear hK K hS hb hS0
  refine late_take (i := 10) (some 45) rfl rfl (by kernel_rfl) (by kernel_rfl) (by kernel_rfl) (by kernel_rfl) (by kernel_rfl) (fun _ _ _ h => h) (by rfl) (v := ?v10y0) ?hy10y0 hS5 ?rest10y0
  case hy10y0 => intro w0 hSw; obtain ⟨a0, a1, a2, a3, _⟩ := hSw; go_simp; rw [if_neg (by omega)]
  simp only [Act.put, List.setIfInBounds_toArray, List.set_cons_zero, List.set_cons_succ]
  refine wpAnyD_one (i := 13) (by kernel_rfl) rfl (fun K hK => ?_)
  go_simp
  rw [HFst.out]
  go_at_call 12
  refine (HHd.out _ HB5.out.1).mono ?_
  rintro e w6 ⟨q, x, d, rfl, hx, ho, hb⟩
  have HX := hid hx
  have HO6 := hid (show Own w6 w.heap.size (.slice q x d) _ from own_lower ho HB5.out.1.size)
  have HB6 := hid (show Below w.heap.size w w6 ∧ w6.heap[w.heap.size]? = some (.cells #[.string M, .string T, .int .i64 0, .slice p n c] 24 (0, 0)) from ⟨HB5.out.1.trans (hb.mono HB5.out.1.size), (hb.block _ (lt_of_heap HB5.out.2)).trans HB5.out.2⟩)
  have hS6 := cells4 HB6.out.2
  obtain ⟨bx, hbx⟩ : ∃ bx, decide (x ≤ 65536) = bx := ⟨_, rfl⟩
  have HBx := hid hbx
  rw [hbx]
  refine hK _ _ ⟨fun _ => hS6, ?_⟩
  clear hK K hS5 hb ho hx hbx
  refine late_take (i := 14) (some 49) rfl rfl (by kernel_rfl) (by kernel_rfl) (by kernel_rfl) (by kernel_rfl) (by kernel_rfl) (fun _ _ _ h => h) (by rfl) (v := ?v14y0) ?hy14y0 hS6 ?rest14y0
  case hy14y0 => intro w0 hSw; obtain ⟨a0, a1, a2, a3, _⟩ := hSw; go_simp; try with_reducible rfl
  simp only [Act.put, List.setIfInBounds_toArray, List.set_cons_zero, List.set_cons_succ]
  refine late_take (i := 15) (some 50) rfl rfl (by kernel_rfl) (by kernel_rfl) (by kernel_rfl) (by kernel_rfl) (by kernel_rfl) (fun _ _ _ h => h) (by rfl) (v := ?v15y0) ?hy15y0 hS6 ?rest15y0
  case hy15y0 => intro w0 hSw; obtain ⟨a0, a1, a2, a3, _⟩ := hSw; go_simp; try with_reducible rfl
  simp only [Act.put, List.setIfInBounds_toArray, List.set_cons_zero, List.set_cons_succ]
  refine late_take (i := 16) (some 2) rfl rfl (by kernel_rfl) (by kernel_rfl) (by kernel_rfl) (by kernel_rfl) (by kernel_rfl) (fun _ _ _ h => h) (by rfl) (v := ?v16y0) ?hy16y0 hS6 ?rest16y0
  case hy16y0 => intro w0 hSw; obtain ⟨a0, a1, a2, a3, _⟩ := hSw; go_simp; try with_reducible rfl
  simp only [Act.put, List.setIfInBounds_toArray, List.set_cons_zero, List.set_cons_succ]
  refine late_take (i := 17) (some 3) rfl rfl (by kernel_rfl) (by kernel_rfl) (by kernel_rfl) (by kernel_rfl) (by kernel_rfl) (fun _ _ _ h => h) (by rfl) (v := ?v17y0) ?hy17y0 hS6 ?rest17y0
  case hy17y0 => intro w0 hSw; obtain ⟨a0, a1, a2, a3, _⟩ := hSw; go_simp; try with_reducible rfl
  simp only [Act.put, List.setIfInBounds_toArray, List.set_cons_zero, List.set_cons_succ]
  refine late_done (by kernel_rfl) ?_ _
  refine NoPanic.normal ?_
  go_wp2
  go_ret2
  exact ⟨q, x, d, by rw [HBx.out]; rfl, HX.out, HO6.out, HB6.out.1⟩
set_option maxRecDepth 20000 in
set_option maxHeartbeats 8000000 in
theorem written_yes1 (m t : B) (k : Int) (fs : List (B × B)) (p : Option Addr) (n c : Nat) (hn : fs.length = n) (w : World) (hF : FAt w p fs) (hsz : ∀ f ∈ fs, f.1.length ≤ 1048576 ∧ f.2.length ≤ 1048576) (hnn : n ≤ 1048576) (hm : m.length ≤ 1048576) (ht : t.length ≤ 1048576) (hk : k = 1) (hok : okQ m t k fs = true) : Calls Tryd.prog 5 #[.agg #[.string (str m), .string (str t), .int .i64 k, .slice p n c]] w fun e w' => ∃ q x d, e = .returned (.tuple #[.slice q x d, .bool (decide (x ≤ 65536))]) ∧ x = (headW (firstQ m t 49) fs).length ∧ Own w' w.heap.size (.slice q x d) (headW (firstQ m t 49) fs) ∧ Below w.heap.size w w' := by
  subst hk
  obtain ⟨W0, hW0⟩ : ∃ W0, W0 = w.alloc (.cells #[.string (str m), .string (str t), .int .i64 1, .slice p n c] 24 (0, 0)) := ⟨_, rfl⟩
  have HW0 := hid hW0
  have HB0 := hid (show Below w.heap.size w W0 ∧ W0.heap[w.heap.size]? = some (.cells #[.string (str m), .string (str t), .int .i64 1, .slice p n c] 24 (0, 0)) from by rw [hW0]; exact ⟨below_new w _, heap_alloc_new w _⟩)
  have HTk := hid (show ∀ w : World, _ from fun w => ristoken_any (str m) w (by rw [str_size]; unfold maxLen; omega))
  have HAl := hid (show ∀ w : World, _ from fun w => all_any1 t (by omega) w)
  have HFi := hid (fine_any fs p n c hn W0 (hF.next HB0.out.1) hsz (by omega))
  rw [hW0] at HFi
  have hparts : isTok (str m) = true ∧ t ≠ [] ∧ allB 1 t = true ∧ fineB fs = true := by
    unfold okQ at hok
    simp only [Bool.and_eq_true, decide_eq_true_eq] at hok
    exact ⟨hok.1.1.1.1.1, hok.1.1.1.1.2, hok.1.1.1.2, hok.2⟩
  have h64 : n ≤ 64 := by
    have := hparts.2.2.2
    unfold fineB at this
    simp only [Bool.and_eq_true, decide_eq_true_eq] at this
    omega
  rw [hparts.1] at HTk
  rw [hparts.2.2.1] at HAl
  rw [hparts.2.2.2] at HFi
  obtain ⟨e1, e2, e3⟩ := str_nil_ne hparts.2.1
  have HFst := hid (show (((str m ++ ⟨#[32]⟩) ++ str t) ++ ⟨#[32, 72, 84, 84, 80, 47, 49, 46]⟩) ++ str [49] = str (firstQ m t 49) from by
    rw [show (⟨#[32]⟩ : ByteArray) = str [32] from rfl, show (⟨#[32, 72, 84, 84, 80, 47, 49, 46]⟩ : ByteArray) = str [32, 72, 84, 84, 80, 47, 49, 46] from rfl, str_app, str_app, str_app, str_app]
    exact congrArg str (by unfold firstQ; simp))
  have HTx := hid (show ∀ w : World, _ from fun w => rtext_any 1 w (by omega))
  rw [show told 10 1 = [49] from by decide +kernel, show ((1 : Nat) : Int) = 1 from rfl] at HTx
  have HHd := hid (show ∀ W : World, Below w.heap.size w W → _ from fun W hb => rhead_any (firstQ m t 49) fs p n c hn W (hF.next hb) hsz h64 (by unfold firstQ; simp; omega))
  have hsm : (str m).size ≤ 1048576 := by rw [str_size]; exact hm
  have hst : (str t).size ≤ 1048576 := by rw [str_size]; exact ht
  obtain ⟨M, hM⟩ : ∃ M, str m = M := ⟨_, rfl⟩
  obtain ⟨T, hT⟩ : ∃ T, str t = T := ⟨_, rfl⟩
  obtain ⟨X, hX⟩ : ∃ X, str [49] = X := ⟨_, rfl⟩
  obtain ⟨Y, hY⟩ : ∃ Y, str (firstQ m t 49) = Y := ⟨_, rfl⟩
  have hsx : X.size = 1 := by rw [← hX]; rfl
  rw [hM] at hsm HTk HFi HB0 HFst
  rw [hT] at hst e1 e2 e3 HAl HFi HB0 HFst
  rw [hX] at HTx HFst
  rw [hY] at HHd HFst
  rw [hM, hT]
  rw [hM, hT] at hW0
  have HW1 := hid hW0
  clear hF hsz hn hM hT hX hY HW0 hparts hok hnn hm ht
  go_enter Tryd.func5, Tryd.ntmps5
  go_wp2_with (first | (go_at_call 9; (with_reducible refine (HTk.out _).mono ?_); rintro e w1 ⟨rfl, hw1⟩; subst w1) | (go_at_call 10; (with_reducible refine (HAl.out _).mono ?_); rintro e w2 ⟨rfl, hw2⟩; subst w2) | (go_at_call 11; (with_reducible refine HFi.out.mono ?_); rintro e w3 ⟨rfl, hb⟩; rw [← HW1.out] at hb; have HB3 := hid (show Below w.heap.size w w3 ∧ w3.heap[w.heap.size]? = some (.cells #[.string M, .string T, .int .i64 1, .slice p n c] 24 (0, 0)) from ⟨HB0.out.1.trans (hb.mono HB0.out.1.size), (hb.block _ (lt_of_heap HB0.out.2)).trans HB0.out.2⟩); clear hb))
  obtain ⟨W3, hW3⟩ : ∃ W3, W3 = w3.drew := ⟨_, rfl⟩
  have HB4 := hid (show Below w.heap.size w W3 ∧ W3.heap[w.heap.size]? = some (.cells #[.string M, .string T, .int .i64 1, .slice p n c] 24 (0, 0)) from by rw [hW3]; exact ⟨HB3.out.1.drew, HB3.out.2⟩)
  have hS0 := cells4 HB4.out.2
  have hcat1 : (M ++ (⟨#[32]⟩ : ByteArray)).size = M.size + 1 := by rw [ByteArray.size_append]; rfl
  have hcat2 : ((M ++ (⟨#[32]⟩ : ByteArray)) ++ T).size = M.size + 1 + T.size := by rw [ByteArray.size_append, hcat1]
  have hcat3 : (((M ++ (⟨#[32]⟩ : ByteArray)) ++ T) ++ (⟨#[32, 72, 84, 84, 80, 47, 49, 46]⟩ : ByteArray)).size = M.size + 1 + T.size + 8 := by rw [ByteArray.size_append, hcat2]; rfl
  refine wp_region_noPanic ?_
  refine any_begin 18 (by kernel_rfl) (by kernel_rfl) ?_
  rw [← hW3]
  clear hW3
  refine late_begin (fun U => Cells4 U w.heap.size (.string M) (.string T) (.int .i64 1) (.slice p n c)) (fun _ => false) hS0 (fun hS => ?_)
  refine late_take (i := 0) (some 35) rfl rfl (by kernel_rfl) (by kernel_rfl) (by kernel_rfl) (by kernel_rfl) (by kernel_rfl) (fun _ _ _ h => h) (by rfl) (v := ?v0y1) ?hy0y1 hS ?rest0y1
  case hy0y1 => intro w0 hSw; obtain ⟨a0, a1, a2, a3, _⟩ := hSw; go_simp; try with_reducible rfl
  simp only [Act.put, List.setIfInBounds_toArray, List.set_cons_zero, List.set_cons_succ]
  refine late_take (i := 1) (some 36) rfl rfl (by kernel_rfl) (by kernel_rfl) (by kernel_rfl) (by kernel_rfl) (by kernel_rfl) (fun _ _ _ h => h) (by rfl) (v := ?v1y1) ?hy1y1 hS ?rest1y1
  case hy1y1 => intro w0 hSw; obtain ⟨a0, a1, a2, a3, _⟩ := hSw; go_simp; try with_reducible rfl
  simp only [Act.put, List.setIfInBounds_toArray, List.set_cons_zero, List.set_cons_succ]
  refine late_take (i := 2) (some 37) rfl rfl (by kernel_rfl) (by kernel_rfl) (by kernel_rfl) (by kernel_rfl) (by kernel_rfl) (fun _ _ _ h => h) (by rfl) (v := ?v2y1) ?hy2y1 hS ?rest2y1
  case hy2y1 => intro w0 hSw; obtain ⟨a0, a1, a2, a3, _⟩ := hSw; go_simp; rw [if_neg (by omega)]
  simp only [Act.put, List.setIfInBounds_toArray, List.set_cons_zero, List.set_cons_succ]
  refine late_take (i := 3) (some 38) rfl rfl (by kernel_rfl) (by kernel_rfl) (by kernel_rfl) (by kernel_rfl) (by kernel_rfl) (fun _ _ _ h => h) (by rfl) (v := ?v3y1) ?hy3y1 hS ?rest3y1
  case hy3y1 => intro w0 hSw; obtain ⟨a0, a1, a2, a3, _⟩ := hSw; go_simp; try with_reducible rfl
  simp only [Act.put, List.setIfInBounds_toArray, List.set_cons_zero, List.set_cons_succ]
  refine late_take (i := 4) (some 39) rfl rfl (by kernel_rfl) (by kernel_rfl) (by kernel_rfl) (by kernel_rfl) (by kernel_rfl) (fun _ _ _ h => h) (by rfl) (v := ?v4y1) ?hy4y1 hS ?rest4y1
  case hy4y1 => intro w0 hSw; obtain ⟨a0, a1, a2, a3, _⟩ := hSw; go_simp; try with_reducible rfl
  simp only [Act.put, List.setIfInBounds_toArray, List.set_cons_zero, List.set_cons_succ]
  refine late_take (i := 5) (some 40) rfl rfl (by kernel_rfl) (by kernel_rfl) (by kernel_rfl) (by kernel_rfl) (by kernel_rfl) (fun _ _ _ h => h) (by rfl) (v := ?v5y1) ?hy5y1 hS ?rest5y1
  case hy5y1 => intro w0 hSw; obtain ⟨a0, a1, a2, a3, _⟩ := hSw; go_simp; rw [if_neg (by omega)]
  simp only [Act.put, List.setIfInBounds_toArray, List.set_cons_zero, List.set_cons_succ]
  refine late_take (i := 6) (some 41) rfl rfl (by kernel_rfl) (by kernel_rfl) (by kernel_rfl) (by kernel_rfl) (by kernel_rfl) (fun _ _ _ h => h) (by rfl) (v := ?v6y1) ?hy6y1 hS ?rest6y1
  case hy6y1 => intro w0 hSw; obtain ⟨a0, a1, a2, a3, _⟩ := hSw; go_simp; rw [if_neg (by omega)]
  simp only [Act.put, List.setIfInBounds_toArray, List.set_cons_zero, List.set_cons_succ]
  refine late_take (i := 7) (some 42) rfl rfl (by kernel_rfl) (by kernel_rfl) (by kernel_rfl) (by kernel_rfl) (by kernel_rfl) (fun _ _ _ h => h) (by rfl) (v := ?v7y1) ?hy7y1 hS ?rest7y1
  case hy7y1 => intro w0 hSw; obtain ⟨a0, a1, a2, a3, _⟩ := hSw; go_simp; try with_reducible rfl
  simp only [Act.put, List.setIfInBounds_toArray, List.set_cons_zero, List.set_cons_succ]
  refine late_take (i := 8) (some 43) rfl rfl (by kernel_rfl) (by kernel_rfl) (by kernel_rfl) (by kernel_rfl) (by kernel_rfl) (fun _ _ _ h => h) (by rfl) (v := ?v8y1) ?hy8y1 hS ?rest8y1
  case hy8y1 => intro w0 hSw; obtain ⟨a0, a1, a2, a3, _⟩ := hSw; go_simp; try with_reducible rfl
  simp only [Act.put, List.setIfInBounds_toArray, List.set_cons_zero, List.set_cons_succ]
  refine late_take (i := 11) (some 46) rfl rfl (by kernel_rfl) (by kernel_rfl) (by kernel_rfl) (by kernel_rfl) (by kernel_rfl) (fun _ _ _ h => h) (by rfl) (v := ?v11y1) ?hy11y1 hS ?rest11y1
  case hy11y1 => intro w0 hSw; obtain ⟨a0, a1, a2, a3, _⟩ := hSw; go_simp; try with_reducible rfl
  simp only [Act.put, List.setIfInBounds_toArray, List.set_cons_zero, List.set_cons_succ]
  refine late_take (i := 12) (some 47) rfl rfl (by kernel_rfl) (by kernel_rfl) (by kernel_rfl) (by kernel_rfl) (by kernel_rfl) (fun _ _ _ h => h) (by rfl) (v := ?v12y1) ?hy12y1 hS ?rest12y1
  case hy12y1 => intro w0 hSw; obtain ⟨a0, a1, a2, a3, _⟩ := hSw; go_simp; try with_reducible rfl
  simp only [Act.put, List.setIfInBounds_toArray, List.set_cons_zero, List.set_cons_succ]
  refine wpAnyD_one (i := 9) (by kernel_rfl) rfl (fun K hK => ?_)
  go_simp
  go_at_call 13
  refine (HTx.out _).mono ?_
  rintro e w5 ⟨rfl, hb⟩
  have HB5 := hid (show Below w.heap.size w w5 ∧ w5.heap[w.heap.size]? = some (.cells #[.string M, .string T, .int .i64 1, .slice p n c] 24 (0, 0)) from ⟨HB4.out.1.trans (hb.mono HB4.out.1.size), (hb.block _ (lt_of_heap HB4.out.2)).trans HB4.out.2⟩)
  have hS5 := cells4 HB5.out.2
  refine hK _ _ ⟨fun _ => hS5, ?_⟩
  clear hK K hS hb hS0
  refine late_take (i := 10) (some 45) rfl rfl (by kernel_rfl) (by kernel_rfl) (by kernel_rfl) (by kernel_rfl) (by kernel_rfl) (fun _ _ _ h => h) (by rfl) (v := ?v10y1) ?hy10y1 hS5 ?rest10y1
  case hy10y1 => intro w0 hSw; obtain ⟨a0, a1, a2, a3, _⟩ := hSw; go_simp; rw [if_neg (by omega)]
  simp only [Act.put, List.setIfInBounds_toArray, List.set_cons_zero, List.set_cons_succ]
  refine wpAnyD_one (i := 13) (by kernel_rfl) rfl (fun K hK => ?_)
  go_simp
  rw [HFst.out]
  go_at_call 12
  refine (HHd.out _ HB5.out.1).mono ?_
  rintro e w6 ⟨q, x, d, rfl, hx, ho, hb⟩
  have HX := hid hx
  have HO6 := hid (show Own w6 w.heap.size (.slice q x d) _ from own_lower ho HB5.out.1.size)
  have HB6 := hid (show Below w.heap.size w w6 ∧ w6.heap[w.heap.size]? = some (.cells #[.string M, .string T, .int .i64 1, .slice p n c] 24 (0, 0)) from ⟨HB5.out.1.trans (hb.mono HB5.out.1.size), (hb.block _ (lt_of_heap HB5.out.2)).trans HB5.out.2⟩)
  have hS6 := cells4 HB6.out.2
  obtain ⟨bx, hbx⟩ : ∃ bx, decide (x ≤ 65536) = bx := ⟨_, rfl⟩
  have HBx := hid hbx
  rw [hbx]
  refine hK _ _ ⟨fun _ => hS6, ?_⟩
  clear hK K hS5 hb ho hx hbx
  refine late_take (i := 14) (some 49) rfl rfl (by kernel_rfl) (by kernel_rfl) (by kernel_rfl) (by kernel_rfl) (by kernel_rfl) (fun _ _ _ h => h) (by rfl) (v := ?v14y1) ?hy14y1 hS6 ?rest14y1
  case hy14y1 => intro w0 hSw; obtain ⟨a0, a1, a2, a3, _⟩ := hSw; go_simp; try with_reducible rfl
  simp only [Act.put, List.setIfInBounds_toArray, List.set_cons_zero, List.set_cons_succ]
  refine late_take (i := 15) (some 50) rfl rfl (by kernel_rfl) (by kernel_rfl) (by kernel_rfl) (by kernel_rfl) (by kernel_rfl) (fun _ _ _ h => h) (by rfl) (v := ?v15y1) ?hy15y1 hS6 ?rest15y1
  case hy15y1 => intro w0 hSw; obtain ⟨a0, a1, a2, a3, _⟩ := hSw; go_simp; try with_reducible rfl
  simp only [Act.put, List.setIfInBounds_toArray, List.set_cons_zero, List.set_cons_succ]
  refine late_take (i := 16) (some 2) rfl rfl (by kernel_rfl) (by kernel_rfl) (by kernel_rfl) (by kernel_rfl) (by kernel_rfl) (fun _ _ _ h => h) (by rfl) (v := ?v16y1) ?hy16y1 hS6 ?rest16y1
  case hy16y1 => intro w0 hSw; obtain ⟨a0, a1, a2, a3, _⟩ := hSw; go_simp; try with_reducible rfl
  simp only [Act.put, List.setIfInBounds_toArray, List.set_cons_zero, List.set_cons_succ]
  refine late_take (i := 17) (some 3) rfl rfl (by kernel_rfl) (by kernel_rfl) (by kernel_rfl) (by kernel_rfl) (by kernel_rfl) (fun _ _ _ h => h) (by rfl) (v := ?v17y1) ?hy17y1 hS6 ?rest17y1
  case hy17y1 => intro w0 hSw; obtain ⟨a0, a1, a2, a3, _⟩ := hSw; go_simp; try with_reducible rfl
  simp only [Act.put, List.setIfInBounds_toArray, List.set_cons_zero, List.set_cons_succ]
  refine late_done (by kernel_rfl) ?_ _
  refine NoPanic.normal ?_
  go_wp2
  go_ret2
  exact ⟨q, x, d, by rw [HBx.out]; rfl, HX.out, HO6.out, HB6.out.1⟩
end Go.Proofs.YtmcglcdpcblckabDoor
