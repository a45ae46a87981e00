/- When nothing is wrong with a head that is written. -/
import Derived.Test.YtnlmjlfoeodleaaGreatDoorWReq
import Derived.Test.YtnlmjlfoeodleaaGreatDoorWRef3
import Derived.Test.YtnlmjlfoeodleaaGreatDoorOWork
namespace Go.Proofs.YtnlmjlfoeodleaaGreatDoor
open Go.RowKit

theorem wrE_zero {first : B} {fs : List (B × B)} (h : wrE first fs = 0) : fineB fs = true ∧ (headW first fs).length ≤ 65536 := by
  unfold wrE at h
  split at h
  · split at h
    · rename_i h1 h2; exact ⟨h1, h2⟩
    · cases h
  · cases h
theorem reqE_zero {m t : B} {k : Int} {fs : List (B × B)} (h : reqE m t k fs = 0) : lineQ m t k = true ∧ wrE (firstQ m t (verC k)) fs = 0 ∧ True := by
  unfold reqE at h
  split at h
  · rename_i hl
    exact ⟨hl, h, trivial⟩
  · cases h
theorem respE_zero {s : Int} {r : B} {k : Int} {fs : List (B × B)} (h : respE s r k fs = 0) : lineP s r k = true ∧ wrE (firstP (verC k) (told 10 s.toNat) r) fs = 0 ∧ True := by
  unfold respE at h
  split at h
  · rename_i hl
    exact ⟨hl, h, trivial⟩
  · cases h
end Go.Proofs.YtnlmjlfoeodleaaGreatDoor
/- The document's own: requests and responses written. -/
namespace Go.Proofs.YtnlmjlfoeodleaaGreatDoor
open Go.RowKit

set_option maxRecDepth 20000 in
set_option maxHeartbeats 8000000 in
theorem rresp_line (s : Int) (r : B) (k : Int) (p : Option Addr) (n c : Nat) (w : World) (hr : r.length ≤ 1048576) (hl : lineP s r k = false) : Calls Tryz.prog 62 #[.agg #[.int .i64 s, .string (str r), .int .i64 k, .slice p n c]] w fun e w' => e = .returned (.tuple #[.slice none 0 0, .int .i64 20]) ∧ Below w.heap.size w w' := by
  have HB0 := hid (below_new w (.cells #[.int .i64 s, .string (str r), .int .i64 k, .slice p n c] 62 (0, 0)))
  have HC2 := hid (show ∀ w : World, _ from fun w => words_any r (by omega) w)
  unfold lineP at hl
  obtain ⟨b2, hb2⟩ : ∃ b, allB 2 r = b := ⟨_, rfl⟩
  rw [hb2] at HC2 hl
  obtain ⟨T, hT⟩ : ∃ T, str r = T := ⟨_, rfl⟩
  rw [hT] at HC2 HB0
  rw [hT]
  clear hT
  clear hb2
  by_cases hs1 : s < 100
  · clear hl
    go_enter Tryz.func62, Tryz.ntmps62
    go_wp2
    go_ret2
    exact ⟨rfl, HB0.out⟩
  · by_cases hs2 : 999 < s
    · clear hl
      go_enter Tryz.func62, Tryz.ntmps62
      go_wp2
      go_ret2
      exact ⟨rfl, HB0.out⟩
    · rw [show staB s = true from decide_eq_true ⟨by omega, by omega⟩] at hl
      cases b2 with
      | false =>
        clear hl
        go_enter Tryz.func62, Tryz.ntmps62
        go_wp2_with (first | (go_at_call 103; (with_reducible refine (HC2.out _).mono ?_); rintro e w1 ⟨rfl, hw1⟩; subst w1))
        go_ret2
        exact ⟨rfl, HB0.out⟩
      | true =>
        by_cases hk0 : k < 0
        · clear hl
          go_enter Tryz.func62, Tryz.ntmps62
          go_wp2_with (first | (go_at_call 103; (with_reducible refine (HC2.out _).mono ?_); rintro e w1 ⟨rfl, hw1⟩; subst w1))
          go_ret2
          exact ⟨rfl, HB0.out⟩
        · have hk1 : 1 < k := by
            unfold minB at hl
            simp at hl
            omega
          clear hl
          go_enter Tryz.func62, Tryz.ntmps62
          go_wp2_with (first | (go_at_call 103; (with_reducible refine (HC2.out _).mono ?_); rintro e w1 ⟨rfl, hw1⟩; subst w1))
          go_ret2
          exact ⟨rfl, HB0.out⟩
set_option maxRecDepth 20000 in
set_option maxHeartbeats 8000000 in
theorem rresp_field0 (s : Int) (r : B) (fs : List (B × B)) (p : Option Addr) (n c : Nat) (hn : fs.length = n) (w : World) (hF : FAt w p fs) (hsz : ∀ f ∈ fs, f.1.length ≤ 1048576 ∧ f.2.length ≤ 1048576) (hnn : n ≤ 1048576) (hr : r.length ≤ 1048576) (hl : lineP s r 0 = true) (hfb : fineB fs = false) : Calls Tryz.prog 62 #[.agg #[.int .i64 s, .string (str r), .int .i64 0, .slice p n c]] w fun e w' => e = .returned (.tuple #[.slice none 0 0, .int .i64 21]) ∧ Below w.heap.size w w' := by
  obtain ⟨W0, hW0⟩ : ∃ W0, W0 = w.alloc (.cells #[.int .i64 s, .string (str r), .int .i64 0, .slice p n c] 62 (0, 0)) := ⟨_, rfl⟩
  have HB0 := hid (show Below w.heap.size w W0 ∧ W0.heap[w.heap.size]? = some (.cells #[.int .i64 s, .string (str r), .int .i64 0, .slice p n c] 62 (0, 0)) from by rw [hW0]; exact ⟨below_new w _, heap_alloc_new w _⟩)
  have HC2 := hid (show ∀ w : World, _ from fun w => words_any r (by omega) w)
  have hp := lineP_parts hl
  have HFi := hid (rfields_any fs p n c hn W0 (hF.next HB0.out.1) hsz (by omega))
  rw [hfb] at HFi
  obtain ⟨st, hst, hs1, hs2⟩ := hp.1
  rw [hp.2.1] at HC2
  have hs1' : ¬ s < 100 := by omega
  have hs2' : ¬ 999 < s := by omega
  have hsr : (str r).size ≤ 1048576 := by rw [str_size]; exact hr
  obtain ⟨T, hT⟩ : ∃ T, str r = T := ⟨_, rfl⟩
  rw [hT] at hsr HC2 HB0 hW0
  rw [hT]
  have HW0 := hid hW0
  rw [hW0] at HFi
  clear hF hsz hn hT hW0 hp hl hnn hfb hr hst hs1 hs2
  go_enter Tryz.func62, Tryz.ntmps62
  go_wp2_with (first | (go_at_call 103; (with_reducible refine (HC2.out _).mono ?_); rintro e w1 ⟨rfl, hw1⟩; subst w1) | (go_at_call 95; (with_reducible refine HFi.out.mono ?_); rintro e w1 ⟨rfl, hw1⟩; subst w1))
  go_ret2
  exact ⟨rfl, by rw [← HW0.out]; exact HB0.out.1⟩
set_option maxRecDepth 20000 in
set_option maxHeartbeats 8000000 in
theorem rresp_ok0 (s : Int) (r : B) (fs : List (B × B)) (p : Option Addr) (n c : Nat) (hn : fs.length = n) (w : World) (hF : FAt w p fs) (hsz : ∀ f ∈ fs, f.1.length ≤ 1048576 ∧ f.2.length ≤ 1048576) (hnn : n ≤ 1048576) (hr : r.length ≤ 1048576) (hl : lineP s r 0 = true) (hfb : fineB fs = true) (hbig : (headW (firstP 48 (told 10 s.toNat) r) fs).length ≤ 65536) : Calls Tryz.prog 62 #[.agg #[.int .i64 s, .string (str r), .int .i64 0, .slice p n c]] w fun e w' => ∃ g d, e = .returned (.tuple #[.slice (some ⟨g, 0, none⟩) (headW (firstP 48 (told 10 s.toNat) r) fs).length d, .int .i64 0]) ∧ ArgAt w' (some ⟨g, 0, none⟩) (headW (firstP 48 (told 10 s.toNat) r) fs) ∧ Below w.heap.size w w' := by
  obtain ⟨W0, hW0⟩ : ∃ W0, W0 = w.alloc (.cells #[.int .i64 s, .string (str r), .int .i64 0, .slice p n c] 62 (0, 0)) := ⟨_, rfl⟩
  have HB0 := hid (show Below w.heap.size w W0 ∧ W0.heap[w.heap.size]? = some (.cells #[.int .i64 s, .string (str r), .int .i64 0, .slice p n c] 62 (0, 0)) from by rw [hW0]; exact ⟨below_new w _, heap_alloc_new w _⟩)
  have HC2 := hid (show ∀ w : World, _ from fun w => words_any r (by omega) w)
  have hp := lineP_parts hl
  have HFi := hid (rfields_any fs p n c hn W0 (hF.next HB0.out.1) hsz (by omega))
  rw [hfb] at HFi
  obtain ⟨st, hst, hs1, hs2⟩ := hp.1
  rw [hp.2.1] at HC2
  have hs1' : ¬ s < 100 := by omega
  have hs2' : ¬ 999 < s := by omega
  have h64 : n ≤ 64 := by unfold fineB at hfb; rw [Bool.and_eq_true] at hfb; have := of_decide_eq_true hfb.1; omega
  have hst2 : told 10 s.toNat = told 10 st := by rw [hst]; rfl
  have HTh := hid (show ∀ W : World, _ from fun W => three_any st hs1 hs2 W)
  rw [← hst2, ← hst] at HTh
  have hs3 : (told 10 s.toNat).length = 3 := by rw [hst2]; exact told_len3 hs1 hs2
  have HFst := hid (show (((((⟨#[72, 84, 84, 80, 47, 49, 46]⟩ : ByteArray) ++ ⟨#[48]⟩) ++ ⟨#[32]⟩) ++ str (told 10 s.toNat)) ++ ⟨#[32]⟩) ++ str r = str (firstP 48 (told 10 s.toNat) r) from by
    rw [show (⟨#[32]⟩ : ByteArray) = str [32] from rfl, show (⟨#[72, 84, 84, 80, 47, 49, 46]⟩ : ByteArray) = str [72, 84, 84, 80, 47, 49, 46] from rfl, show (⟨#[48]⟩ : ByteArray) = str [48] from rfl, str_app, str_app, str_app, str_app, str_app]
    exact congrArg str (by unfold firstP; simp))
  have hfl : (firstP 48 (told 10 s.toNat) r).length ≤ 4194300 := by unfold firstP; simp; omega
  have HWh := hid (show ∀ W : World, Below w.heap.size w W → _ from fun W hb => rwhole_ok (firstP 48 (told 10 s.toNat) r) fs p n c hn W (hF.next hb) hsz h64 hfl hbig)
  obtain ⟨H, hH⟩ : ∃ H, headW (firstP 48 (told 10 s.toNat) r) fs = H := ⟨_, rfl⟩
  rw [hH] at HWh
  rw [hH]
  obtain ⟨LH, hLH⟩ : ∃ LH, H.length = LH := ⟨_, rfl⟩
  rw [hLH] at HWh
  rw [hLH]
  have hsr : (str r).size ≤ 1048576 := by rw [str_size]; exact hr
  obtain ⟨T, hT⟩ : ∃ T, str r = T := ⟨_, rfl⟩
  rw [hT] at hsr HC2 HB0 hW0 HFst
  rw [hT]
  have hsd : (str (told 10 s.toNat)).size = 3 := by rw [str_size]; exact hs3
  obtain ⟨D, hD⟩ : ∃ D, str (told 10 s.toNat) = D := ⟨_, rfl⟩
  rw [hD] at hsd HTh HFst
  obtain ⟨Y, hY⟩ : ∃ Y, str (firstP 48 (told 10 s.toNat) r) = Y := ⟨_, rfl⟩
  rw [hY] at HWh HFst
  have HW0 := hid hW0
  rw [hW0] at HFi
  clear hF hsz hn hT hW0 hp hl hnn hfb hr hst hs1 hs2 hst2 hs3 hD hbig h64 hfl hH hLH hY
  go_enter Tryz.func62, Tryz.ntmps62
  go_wp2_with (first | (go_at_call 103; (with_reducible refine (HC2.out _).mono ?_); rintro e w1 ⟨rfl, hw1⟩; subst w1) | (go_at_call 95; (with_reducible refine HFi.out.mono ?_); rintro e w1 ⟨rfl, hw1⟩; subst w1))
  rw [← HW0.out]
  obtain ⟨W3, hW3⟩ : ∃ W3, W3 = W0.drew := ⟨_, rfl⟩
  have HB4 := hid (show Below w.heap.size w W3 ∧ W3.heap[w.heap.size]? = some (.cells #[.int .i64 s, .string T, .int .i64 0, .slice p n c] 62 (0, 0)) from by rw [hW3]; exact ⟨HB0.out.1.drew, HB0.out.2⟩)
  have hS0 := cells4 HB4.out.2
  have hcat1 : ((⟨#[72, 84, 84, 80, 47, 49, 46]⟩ : ByteArray) ++ ⟨#[48]⟩).size = 8 := rfl
  have hcat2 : (((⟨#[72, 84, 84, 80, 47, 49, 46]⟩ : ByteArray) ++ ⟨#[48]⟩) ++ (⟨#[32]⟩ : ByteArray)).size = 9 := rfl
  have hcat3 : ((((⟨#[72, 84, 84, 80, 47, 49, 46]⟩ : ByteArray) ++ ⟨#[48]⟩) ++ (⟨#[32]⟩ : ByteArray)) ++ D).size = 12 := by rw [ByteArray.size_append, hcat2, hsd]
  have hcat4 : (((((⟨#[72, 84, 84, 80, 47, 49, 46]⟩ : ByteArray) ++ ⟨#[48]⟩) ++ (⟨#[32]⟩ : ByteArray)) ++ D) ++ (⟨#[32]⟩ : ByteArray)).size = 13 := by rw [ByteArray.size_append, hcat3]; rfl
  refine wp_region_noPanic ?_
  refine any_begin 23 (by kernel_rfl) (by kernel_rfl) ?_
  rw [← hW3]
  clear hW3
  refine late_begin (fun U => Cells4 U w.heap.size (.int .i64 s) (.string T) (.int .i64 0) (.slice p n c)) (fun _ => false) hS0 (fun hS => ?_)
  refine late_take (i := 0) (some 34) rfl rfl (by kernel_rfl) (by kernel_rfl) (by kernel_rfl) (by kernel_rfl) (by kernel_rfl) (fun _ _ _ h => h) (by rfl) (v := ?v0rrespok0) ?hy0rrespok0 hS ?rest0rrespok0
  case hy0rrespok0 => intro w0 hSw; obtain ⟨a0, a1, a2, a3, _⟩ := hSw; go_simp; try with_reducible rfl
  simp only [Act.put, List.setIfInBounds_toArray, List.set_cons_zero, List.set_cons_succ]
  refine late_take (i := 1) (some 35) rfl rfl (by kernel_rfl) (by kernel_rfl) (by kernel_rfl) (by kernel_rfl) (by kernel_rfl) (fun _ _ _ h => h) (by rfl) (v := ?v1rrespok0) ?hy1rrespok0 hS ?rest1rrespok0
  case hy1rrespok0 => intro w0 hSw; obtain ⟨a0, a1, a2, a3, _⟩ := hSw; go_simp; try with_reducible rfl
  simp only [Act.put, List.setIfInBounds_toArray, List.set_cons_zero, List.set_cons_succ]
  refine late_take (i := 2) (some 36) rfl rfl (by kernel_rfl) (by kernel_rfl) (by kernel_rfl) (by kernel_rfl) (by kernel_rfl) (fun _ _ _ h => h) (by rfl) (v := ?v2rrespok0) ?hy2rrespok0 hS ?rest2rrespok0
  case hy2rrespok0 => intro w0 hSw; obtain ⟨a0, a1, a2, a3, _⟩ := hSw; go_simp; try with_reducible rfl
  simp only [Act.put, List.setIfInBounds_toArray, List.set_cons_zero, List.set_cons_succ]
  refine late_take (i := 3) (some 37) rfl rfl (by kernel_rfl) (by kernel_rfl) (by kernel_rfl) (by kernel_rfl) (by kernel_rfl) (fun _ _ _ h => h) (by rfl) (v := ?v3rrespok0) ?hy3rrespok0 hS ?rest3rrespok0
  case hy3rrespok0 => intro w0 hSw; obtain ⟨a0, a1, a2, a3, _⟩ := hSw; go_simp; try with_reducible rfl
  simp only [Act.put, List.setIfInBounds_toArray, List.set_cons_zero, List.set_cons_succ]
  refine late_take (i := 4) (some 38) rfl rfl (by kernel_rfl) (by kernel_rfl) (by kernel_rfl) (by kernel_rfl) (by kernel_rfl) (fun _ _ _ h => h) (by rfl) (v := ?v4rrespok0) ?hy4rrespok0 hS ?rest4rrespok0
  case hy4rrespok0 => intro w0 hSw; obtain ⟨a0, a1, a2, a3, _⟩ := hSw; go_simp; try with_reducible rfl
  simp only [Act.put, List.setIfInBounds_toArray, List.set_cons_zero, List.set_cons_succ]
  refine late_take (i := 5) (some 39) rfl rfl (by kernel_rfl) (by kernel_rfl) (by kernel_rfl) (by kernel_rfl) (by kernel_rfl) (fun _ _ _ h => h) (by rfl) (v := .string ⟨#[48]⟩) ?hy5rrespok0 hS ?rest5rrespok0
  case hy5rrespok0 => intro w0 hSw; obtain ⟨a0, a1, a2, a3, _⟩ := hSw; go_simp; (try rfl)
  simp only [Act.put, List.setIfInBounds_toArray, List.set_cons_zero, List.set_cons_succ]
  refine late_take (i := 6) (some 40) rfl rfl (by kernel_rfl) (by kernel_rfl) (by kernel_rfl) (by kernel_rfl) (by kernel_rfl) (fun _ _ _ h => h) (by rfl) (v := ?v6rrespok0) ?hy6rrespok0 hS ?rest6rrespok0
  case hy6rrespok0 => intro w0 hSw; obtain ⟨a0, a1, a2, a3, _⟩ := hSw; go_simp; first | (rw [if_neg (by omega)]) | (with_reducible rfl)
  simp only [Act.put, List.setIfInBounds_toArray, List.set_cons_zero, List.set_cons_succ]
  refine late_take (i := 7) (some 41) rfl rfl (by kernel_rfl) (by kernel_rfl) (by kernel_rfl) (by kernel_rfl) (by kernel_rfl) (fun _ _ _ h => h) (by rfl) (v := ?v7rrespok0) ?hy7rrespok0 hS ?rest7rrespok0
  case hy7rrespok0 => intro w0 hSw; obtain ⟨a0, a1, a2, a3, _⟩ := hSw; go_simp; first | (rw [if_neg (by omega)]) | (with_reducible rfl)
  simp only [Act.put, List.setIfInBounds_toArray, List.set_cons_zero, List.set_cons_succ]
  refine late_take (i := 8) (some 42) rfl rfl (by kernel_rfl) (by kernel_rfl) (by kernel_rfl) (by kernel_rfl) (by kernel_rfl) (fun _ _ _ h => h) (by rfl) (v := ?v8rrespok0) ?hy8rrespok0 hS ?rest8rrespok0
  case hy8rrespok0 => intro w0 hSw; obtain ⟨a0, a1, a2, a3, _⟩ := hSw; go_simp; try with_reducible rfl
  simp only [Act.put, List.setIfInBounds_toArray, List.set_cons_zero, List.set_cons_succ]
  refine late_take (i := 9) (some 43) rfl rfl (by kernel_rfl) (by kernel_rfl) (by kernel_rfl) (by kernel_rfl) (by kernel_rfl) (fun _ _ _ h => h) (by rfl) (v := ?v9rrespok0) ?hy9rrespok0 hS ?rest9rrespok0
  case hy9rrespok0 => intro w0 hSw; obtain ⟨a0, a1, a2, a3, _⟩ := hSw; go_simp; try with_reducible rfl
  simp only [Act.put, List.setIfInBounds_toArray, List.set_cons_zero, List.set_cons_succ]
  refine late_take (i := 13) (some 47) rfl rfl (by kernel_rfl) (by kernel_rfl) (by kernel_rfl) (by kernel_rfl) (by kernel_rfl) (fun _ _ _ h => h) (by rfl) (v := ?v13rrespok0) ?hy13rrespok0 hS ?rest13rrespok0
  case hy13rrespok0 => intro w0 hSw; obtain ⟨a0, a1, a2, a3, _⟩ := hSw; go_simp; try with_reducible rfl
  simp only [Act.put, List.setIfInBounds_toArray, List.set_cons_zero, List.set_cons_succ]
  refine late_take (i := 14) (some 48) rfl rfl (by kernel_rfl) (by kernel_rfl) (by kernel_rfl) (by kernel_rfl) (by kernel_rfl) (fun _ _ _ h => h) (by rfl) (v := ?v14rrespok0) ?hy14rrespok0 hS ?rest14rrespok0
  case hy14rrespok0 => intro w0 hSw; obtain ⟨a0, a1, a2, a3, _⟩ := hSw; go_simp; try with_reducible rfl
  simp only [Act.put, List.setIfInBounds_toArray, List.set_cons_zero, List.set_cons_succ]
  refine late_take (i := 16) (some 50) rfl rfl (by kernel_rfl) (by kernel_rfl) (by kernel_rfl) (by kernel_rfl) (by kernel_rfl) (fun _ _ _ h => h) (by rfl) (v := ?v16rrespok0) ?hy16rrespok0 hS ?rest16rrespok0
  case hy16rrespok0 => intro w0 hSw; obtain ⟨a0, a1, a2, a3, _⟩ := hSw; go_simp; try with_reducible rfl
  simp only [Act.put, List.setIfInBounds_toArray, List.set_cons_zero, List.set_cons_succ]
  refine late_take (i := 17) (some 51) rfl rfl (by kernel_rfl) (by kernel_rfl) (by kernel_rfl) (by kernel_rfl) (by kernel_rfl) (fun _ _ _ h => h) (by rfl) (v := ?v17rrespok0) ?hy17rrespok0 hS ?rest17rrespok0
  case hy17rrespok0 => intro w0 hSw; obtain ⟨a0, a1, a2, a3, _⟩ := hSw; go_simp; try with_reducible rfl
  simp only [Act.put, List.setIfInBounds_toArray, List.set_cons_zero, List.set_cons_succ]
  refine wpAnyD_one (i := 10) (by kernel_rfl) rfl (fun K hK => ?_)
  go_simp
  go_at_call 104
  refine (HTh.out _).mono ?_
  rintro e w5 ⟨rfl, hb⟩
  have HB5 := hid (show Below w.heap.size w w5 ∧ w5.heap[w.heap.size]? = some (.cells #[.int .i64 s, .string T, .int .i64 0, .slice p n c] 62 (0, 0)) from ⟨HB4.out.1.trans (hb.mono HB4.out.1.size), (hb.block _ (lt_of_heap HB4.out.2)).trans HB4.out.2⟩)
  have hS5 := cells4 HB5.out.2
  refine hK _ _ ⟨fun _ => hS5, ?_⟩
  clear hK K hS hb hS0
  refine late_take (i := 11) (some 45) rfl rfl (by kernel_rfl) (by kernel_rfl) (by kernel_rfl) (by kernel_rfl) (by kernel_rfl) (fun _ _ _ h => h) (by rfl) (v := ?v11rrespok0) ?hy11rrespok0 hS5 ?rest11rrespok0
  case hy11rrespok0 => intro w0 hSw; obtain ⟨a0, a1, a2, a3, _⟩ := hSw; go_simp; first | (rw [if_neg (by omega)]) | (with_reducible rfl)
  simp only [Act.put, List.setIfInBounds_toArray, List.set_cons_zero, List.set_cons_succ]
  refine late_take (i := 12) (some 46) rfl rfl (by kernel_rfl) (by kernel_rfl) (by kernel_rfl) (by kernel_rfl) (by kernel_rfl) (fun _ _ _ h => h) (by rfl) (v := ?v12rrespok0) ?hy12rrespok0 hS5 ?rest12rrespok0
  case hy12rrespok0 => intro w0 hSw; obtain ⟨a0, a1, a2, a3, _⟩ := hSw; go_simp; first | (rw [if_neg (by omega)]) | (with_reducible rfl)
  simp only [Act.put, List.setIfInBounds_toArray, List.set_cons_zero, List.set_cons_succ]
  refine late_take (i := 15) (some 49) rfl rfl (by kernel_rfl) (by kernel_rfl) (by kernel_rfl) (by kernel_rfl) (by kernel_rfl) (fun _ _ _ h => h) (by rfl) (v := ?v15rrespok0) ?hy15rrespok0 hS5 ?rest15rrespok0
  case hy15rrespok0 => intro w0 hSw; obtain ⟨a0, a1, a2, a3, _⟩ := hSw; go_simp; first | (rw [if_neg (by omega)]) | (with_reducible rfl)
  simp only [Act.put, List.setIfInBounds_toArray, List.set_cons_zero, List.set_cons_succ]
  refine wpAnyD_one (i := 18) (by kernel_rfl) rfl (fun K hK => ?_)
  go_simp
  rw [HFst.out]
  go_at_call 96
  refine (HWh.out _ HB5.out.1).mono ?_
  rintro e w6 ⟨g6, d6, rfl, hA6, hb⟩
  have HA6 := hid hA6
  have HB6 := hid (show Below w.heap.size w w6 ∧ w6.heap[w.heap.size]? = some (.cells #[.int .i64 s, .string T, .int .i64 0, .slice p n c] 62 (0, 0)) from ⟨HB5.out.1.trans (hb.mono HB5.out.1.size), (hb.block _ (lt_of_heap HB5.out.2)).trans HB5.out.2⟩)
  have hS6 := cells4 HB6.out.2
  refine hK _ _ ⟨fun _ => hS6, ?_⟩
  clear hK K hS5 hb hA6
  refine late_take (i := 19) (some 53) rfl rfl (by kernel_rfl) (by kernel_rfl) (by kernel_rfl) (by kernel_rfl) (by kernel_rfl) (fun _ _ _ h => h) (by rfl) (v := ?v19rrespok0) ?hy19rrespok0 hS6 ?rest19rrespok0
  case hy19rrespok0 => intro w0 hSw; obtain ⟨a0, a1, a2, a3, _⟩ := hSw; go_simp; try with_reducible rfl
  simp only [Act.put, List.setIfInBounds_toArray, List.set_cons_zero, List.set_cons_succ]
  refine late_take (i := 20) (some 54) rfl rfl (by kernel_rfl) (by kernel_rfl) (by kernel_rfl) (by kernel_rfl) (by kernel_rfl) (fun _ _ _ h => h) (by rfl) (v := ?v20rrespok0) ?hy20rrespok0 hS6 ?rest20rrespok0
  case hy20rrespok0 => intro w0 hSw; obtain ⟨a0, a1, a2, a3, _⟩ := hSw; go_simp; try with_reducible rfl
  simp only [Act.put, List.setIfInBounds_toArray, List.set_cons_zero, List.set_cons_succ]
  refine late_take (i := 21) (some 2) rfl rfl (by kernel_rfl) (by kernel_rfl) (by kernel_rfl) (by kernel_rfl) (by kernel_rfl) (fun _ _ _ h => h) (by rfl) (v := ?v21rrespok0) ?hy21rrespok0 hS6 ?rest21rrespok0
  case hy21rrespok0 => intro w0 hSw; obtain ⟨a0, a1, a2, a3, _⟩ := hSw; go_simp; try with_reducible rfl
  simp only [Act.put, List.setIfInBounds_toArray, List.set_cons_zero, List.set_cons_succ]
  refine late_take (i := 22) (some 3) rfl rfl (by kernel_rfl) (by kernel_rfl) (by kernel_rfl) (by kernel_rfl) (by kernel_rfl) (fun _ _ _ h => h) (by rfl) (v := ?v22rrespok0) ?hy22rrespok0 hS6 ?rest22rrespok0
  case hy22rrespok0 => intro w0 hSw; obtain ⟨a0, a1, a2, a3, _⟩ := hSw; go_simp; try with_reducible rfl
  simp only [Act.put, List.setIfInBounds_toArray, List.set_cons_zero, List.set_cons_succ]
  refine late_done (by kernel_rfl) ?_ _
  refine NoPanic.normal ?_
  go_wp2
  go_ret2
  exact ⟨g6, d6, rfl, HA6.out, HB6.out.1⟩
set_option maxRecDepth 20000 in
set_option maxHeartbeats 8000000 in
theorem rresp_big0 (s : Int) (r : B) (fs : List (B × B)) (p : Option Addr) (n c : Nat) (hn : fs.length = n) (w : World) (hF : FAt w p fs) (hsz : ∀ f ∈ fs, f.1.length ≤ 1048576 ∧ f.2.length ≤ 1048576) (hnn : n ≤ 1048576) (hr : r.length ≤ 1048576) (hl : lineP s r 0 = true) (hfb : fineB fs = true) (hbig : ¬ (headW (firstP 48 (told 10 s.toNat) r) fs).length ≤ 65536) : Calls Tryz.prog 62 #[.agg #[.int .i64 s, .string (str r), .int .i64 0, .slice p n c]] w fun e w' => e = .returned (.tuple #[.slice none 0 0, .int .i64 22]) ∧ Below w.heap.size w w' := by
  obtain ⟨W0, hW0⟩ : ∃ W0, W0 = w.alloc (.cells #[.int .i64 s, .string (str r), .int .i64 0, .slice p n c] 62 (0, 0)) := ⟨_, rfl⟩
  have HB0 := hid (show Below w.heap.size w W0 ∧ W0.heap[w.heap.size]? = some (.cells #[.int .i64 s, .string (str r), .int .i64 0, .slice p n c] 62 (0, 0)) from by rw [hW0]; exact ⟨below_new w _, heap_alloc_new w _⟩)
  have HC2 := hid (show ∀ w : World, _ from fun w => words_any r (by omega) w)
  have hp := lineP_parts hl
  have HFi := hid (rfields_any fs p n c hn W0 (hF.next HB0.out.1) hsz (by omega))
  rw [hfb] at HFi
  obtain ⟨st, hst, hs1, hs2⟩ := hp.1
  rw [hp.2.1] at HC2
  have hs1' : ¬ s < 100 := by omega
  have hs2' : ¬ 999 < s := by omega
  have h64 : n ≤ 64 := by unfold fineB at hfb; rw [Bool.and_eq_true] at hfb; have := of_decide_eq_true hfb.1; omega
  have hst2 : told 10 s.toNat = told 10 st := by rw [hst]; rfl
  have HTh := hid (show ∀ W : World, _ from fun W => three_any st hs1 hs2 W)
  rw [← hst2, ← hst] at HTh
  have hs3 : (told 10 s.toNat).length = 3 := by rw [hst2]; exact told_len3 hs1 hs2
  have HFst := hid (show (((((⟨#[72, 84, 84, 80, 47, 49, 46]⟩ : ByteArray) ++ ⟨#[48]⟩) ++ ⟨#[32]⟩) ++ str (told 10 s.toNat)) ++ ⟨#[32]⟩) ++ str r = str (firstP 48 (told 10 s.toNat) r) from by
    rw [show (⟨#[32]⟩ : ByteArray) = str [32] from rfl, show (⟨#[72, 84, 84, 80, 47, 49, 46]⟩ : ByteArray) = str [72, 84, 84, 80, 47, 49, 46] from rfl, show (⟨#[48]⟩ : ByteArray) = str [48] from rfl, str_app, str_app, str_app, str_app, str_app]
    exact congrArg str (by unfold firstP; simp))
  have hfl : (firstP 48 (told 10 s.toNat) r).length ≤ 4194300 := by unfold firstP; simp; omega
  have HWh := hid (show ∀ W : World, Below w.heap.size w W → _ from fun W hb => rwhole_big (firstP 48 (told 10 s.toNat) r) fs p n c hn W (hF.next hb) hsz h64 hfl hbig)
  have hsr : (str r).size ≤ 1048576 := by rw [str_size]; exact hr
  obtain ⟨T, hT⟩ : ∃ T, str r = T := ⟨_, rfl⟩
  rw [hT] at hsr HC2 HB0 hW0 HFst
  rw [hT]
  have hsd : (str (told 10 s.toNat)).size = 3 := by rw [str_size]; exact hs3
  obtain ⟨D, hD⟩ : ∃ D, str (told 10 s.toNat) = D := ⟨_, rfl⟩
  rw [hD] at hsd HTh HFst
  obtain ⟨Y, hY⟩ : ∃ Y, str (firstP 48 (told 10 s.toNat) r) = Y := ⟨_, rfl⟩
  rw [hY] at HWh HFst
  have HW0 := hid hW0
  rw [hW0] at HFi
  clear hF hsz hn hT hW0 hp hl hnn hfb hr hst hs1 hs2 hst2 hs3 hD hbig h64 hfl hY
  go_enter Tryz.func62, Tryz.ntmps62
  go_wp2_with (first | (go_at_call 103; (with_reducible refine (HC2.out _).mono ?_); rintro e w1 ⟨rfl, hw1⟩; subst w1) | (go_at_call 95; (with_reducible refine HFi.out.mono ?_); rintro e w1 ⟨rfl, hw1⟩; subst w1))
  rw [← HW0.out]
  obtain ⟨W3, hW3⟩ : ∃ W3, W3 = W0.drew := ⟨_, rfl⟩
  have HB4 := hid (show Below w.heap.size w W3 ∧ W3.heap[w.heap.size]? = some (.cells #[.int .i64 s, .string T, .int .i64 0, .slice p n c] 62 (0, 0)) from by rw [hW3]; exact ⟨HB0.out.1.drew, HB0.out.2⟩)
  have hS0 := cells4 HB4.out.2
  have hcat1 : ((⟨#[72, 84, 84, 80, 47, 49, 46]⟩ : ByteArray) ++ ⟨#[48]⟩).size = 8 := rfl
  have hcat2 : (((⟨#[72, 84, 84, 80, 47, 49, 46]⟩ : ByteArray) ++ ⟨#[48]⟩) ++ (⟨#[32]⟩ : ByteArray)).size = 9 := rfl
  have hcat3 : ((((⟨#[72, 84, 84, 80, 47, 49, 46]⟩ : ByteArray) ++ ⟨#[48]⟩) ++ (⟨#[32]⟩ : ByteArray)) ++ D).size = 12 := by rw [ByteArray.size_append, hcat2, hsd]
  have hcat4 : (((((⟨#[72, 84, 84, 80, 47, 49, 46]⟩ : ByteArray) ++ ⟨#[48]⟩) ++ (⟨#[32]⟩ : ByteArray)) ++ D) ++ (⟨#[32]⟩ : ByteArray)).size = 13 := by rw [ByteArray.size_append, hcat3]; rfl
  refine wp_region_noPanic ?_
  refine any_begin 23 (by kernel_rfl) (by kernel_rfl) ?_
  rw [← hW3]
  clear hW3
  refine late_begin (fun U => Cells4 U w.heap.size (.int .i64 s) (.string T) (.int .i64 0) (.slice p n c)) (fun _ => false) hS0 (fun hS => ?_)
  refine late_take (i := 0) (some 34) rfl rfl (by kernel_rfl) (by kernel_rfl) (by kernel_rfl) (by kernel_rfl) (by kernel_rfl) (fun _ _ _ h => h) (by rfl) (v := ?v0rrespbig0) ?hy0rrespbig0 hS ?rest0rrespbig0
  case hy0rrespbig0 => intro w0 hSw; obtain ⟨a0, a1, a2, a3, _⟩ := hSw; go_simp; try with_reducible rfl
  simp only [Act.put, List.setIfInBounds_toArray, List.set_cons_zero, List.set_cons_succ]
  refine late_take (i := 1) (some 35) rfl rfl (by kernel_rfl) (by kernel_rfl) (by kernel_rfl) (by kernel_rfl) (by kernel_rfl) (fun _ _ _ h => h) (by rfl) (v := ?v1rrespbig0) ?hy1rrespbig0 hS ?rest1rrespbig0
  case hy1rrespbig0 => intro w0 hSw; obtain ⟨a0, a1, a2, a3, _⟩ := hSw; go_simp; try with_reducible rfl
  simp only [Act.put, List.setIfInBounds_toArray, List.set_cons_zero, List.set_cons_succ]
  refine late_take (i := 2) (some 36) rfl rfl (by kernel_rfl) (by kernel_rfl) (by kernel_rfl) (by kernel_rfl) (by kernel_rfl) (fun _ _ _ h => h) (by rfl) (v := ?v2rrespbig0) ?hy2rrespbig0 hS ?rest2rrespbig0
  case hy2rrespbig0 => intro w0 hSw; obtain ⟨a0, a1, a2, a3, _⟩ := hSw; go_simp; try with_reducible rfl
  simp only [Act.put, List.setIfInBounds_toArray, List.set_cons_zero, List.set_cons_succ]
  refine late_take (i := 3) (some 37) rfl rfl (by kernel_rfl) (by kernel_rfl) (by kernel_rfl) (by kernel_rfl) (by kernel_rfl) (fun _ _ _ h => h) (by rfl) (v := ?v3rrespbig0) ?hy3rrespbig0 hS ?rest3rrespbig0
  case hy3rrespbig0 => intro w0 hSw; obtain ⟨a0, a1, a2, a3, _⟩ := hSw; go_simp; try with_reducible rfl
  simp only [Act.put, List.setIfInBounds_toArray, List.set_cons_zero, List.set_cons_succ]
  refine late_take (i := 4) (some 38) rfl rfl (by kernel_rfl) (by kernel_rfl) (by kernel_rfl) (by kernel_rfl) (by kernel_rfl) (fun _ _ _ h => h) (by rfl) (v := ?v4rrespbig0) ?hy4rrespbig0 hS ?rest4rrespbig0
  case hy4rrespbig0 => intro w0 hSw; obtain ⟨a0, a1, a2, a3, _⟩ := hSw; go_simp; try with_reducible rfl
  simp only [Act.put, List.setIfInBounds_toArray, List.set_cons_zero, List.set_cons_succ]
  refine late_take (i := 5) (some 39) rfl rfl (by kernel_rfl) (by kernel_rfl) (by kernel_rfl) (by kernel_rfl) (by kernel_rfl) (fun _ _ _ h => h) (by rfl) (v := .string ⟨#[48]⟩) ?hy5rrespbig0 hS ?rest5rrespbig0
  case hy5rrespbig0 => intro w0 hSw; obtain ⟨a0, a1, a2, a3, _⟩ := hSw; go_simp; (try rfl)
  simp only [Act.put, List.setIfInBounds_toArray, List.set_cons_zero, List.set_cons_succ]
  refine late_take (i := 6) (some 40) rfl rfl (by kernel_rfl) (by kernel_rfl) (by kernel_rfl) (by kernel_rfl) (by kernel_rfl) (fun _ _ _ h => h) (by rfl) (v := ?v6rrespbig0) ?hy6rrespbig0 hS ?rest6rrespbig0
  case hy6rrespbig0 => intro w0 hSw; obtain ⟨a0, a1, a2, a3, _⟩ := hSw; go_simp; first | (rw [if_neg (by omega)]) | (with_reducible rfl)
  simp only [Act.put, List.setIfInBounds_toArray, List.set_cons_zero, List.set_cons_succ]
  refine late_take (i := 7) (some 41) rfl rfl (by kernel_rfl) (by kernel_rfl) (by kernel_rfl) (by kernel_rfl) (by kernel_rfl) (fun _ _ _ h => h) (by rfl) (v := ?v7rrespbig0) ?hy7rrespbig0 hS ?rest7rrespbig0
  case hy7rrespbig0 => intro w0 hSw; obtain ⟨a0, a1, a2, a3, _⟩ := hSw; go_simp; first | (rw [if_neg (by omega)]) | (with_reducible rfl)
  simp only [Act.put, List.setIfInBounds_toArray, List.set_cons_zero, List.set_cons_succ]
  refine late_take (i := 8) (some 42) rfl rfl (by kernel_rfl) (by kernel_rfl) (by kernel_rfl) (by kernel_rfl) (by kernel_rfl) (fun _ _ _ h => h) (by rfl) (v := ?v8rrespbig0) ?hy8rrespbig0 hS ?rest8rrespbig0
  case hy8rrespbig0 => intro w0 hSw; obtain ⟨a0, a1, a2, a3, _⟩ := hSw; go_simp; try with_reducible rfl
  simp only [Act.put, List.setIfInBounds_toArray, List.set_cons_zero, List.set_cons_succ]
  refine late_take (i := 9) (some 43) rfl rfl (by kernel_rfl) (by kernel_rfl) (by kernel_rfl) (by kernel_rfl) (by kernel_rfl) (fun _ _ _ h => h) (by rfl) (v := ?v9rrespbig0) ?hy9rrespbig0 hS ?rest9rrespbig0
  case hy9rrespbig0 => intro w0 hSw; obtain ⟨a0, a1, a2, a3, _⟩ := hSw; go_simp; try with_reducible rfl
  simp only [Act.put, List.setIfInBounds_toArray, List.set_cons_zero, List.set_cons_succ]
  refine late_take (i := 13) (some 47) rfl rfl (by kernel_rfl) (by kernel_rfl) (by kernel_rfl) (by kernel_rfl) (by kernel_rfl) (fun _ _ _ h => h) (by rfl) (v := ?v13rrespbig0) ?hy13rrespbig0 hS ?rest13rrespbig0
  case hy13rrespbig0 => intro w0 hSw; obtain ⟨a0, a1, a2, a3, _⟩ := hSw; go_simp; try with_reducible rfl
  simp only [Act.put, List.setIfInBounds_toArray, List.set_cons_zero, List.set_cons_succ]
  refine late_take (i := 14) (some 48) rfl rfl (by kernel_rfl) (by kernel_rfl) (by kernel_rfl) (by kernel_rfl) (by kernel_rfl) (fun _ _ _ h => h) (by rfl) (v := ?v14rrespbig0) ?hy14rrespbig0 hS ?rest14rrespbig0
  case hy14rrespbig0 => intro w0 hSw; obtain ⟨a0, a1, a2, a3, _⟩ := hSw; go_simp; try with_reducible rfl
  simp only [Act.put, List.setIfInBounds_toArray, List.set_cons_zero, List.set_cons_succ]
  refine late_take (i := 16) (some 50) rfl rfl (by kernel_rfl) (by kernel_rfl) (by kernel_rfl) (by kernel_rfl) (by kernel_rfl) (fun _ _ _ h => h) (by rfl) (v := ?v16rrespbig0) ?hy16rrespbig0 hS ?rest16rrespbig0
  case hy16rrespbig0 => intro w0 hSw; obtain ⟨a0, a1, a2, a3, _⟩ := hSw; go_simp; try with_reducible rfl
  simp only [Act.put, List.setIfInBounds_toArray, List.set_cons_zero, List.set_cons_succ]
  refine late_take (i := 17) (some 51) rfl rfl (by kernel_rfl) (by kernel_rfl) (by kernel_rfl) (by kernel_rfl) (by kernel_rfl) (fun _ _ _ h => h) (by rfl) (v := ?v17rrespbig0) ?hy17rrespbig0 hS ?rest17rrespbig0
  case hy17rrespbig0 => intro w0 hSw; obtain ⟨a0, a1, a2, a3, _⟩ := hSw; go_simp; try with_reducible rfl
  simp only [Act.put, List.setIfInBounds_toArray, List.set_cons_zero, List.set_cons_succ]
  refine wpAnyD_one (i := 10) (by kernel_rfl) rfl (fun K hK => ?_)
  go_simp
  go_at_call 104
  refine (HTh.out _).mono ?_
  rintro e w5 ⟨rfl, hb⟩
  have HB5 := hid (show Below w.heap.size w w5 ∧ w5.heap[w.heap.size]? = some (.cells #[.int .i64 s, .string T, .int .i64 0, .slice p n c] 62 (0, 0)) from ⟨HB4.out.1.trans (hb.mono HB4.out.1.size), (hb.block _ (lt_of_heap HB4.out.2)).trans HB4.out.2⟩)
  have hS5 := cells4 HB5.out.2
  refine hK _ _ ⟨fun _ => hS5, ?_⟩
  clear hK K hS hb hS0
  refine late_take (i := 11) (some 45) rfl rfl (by kernel_rfl) (by kernel_rfl) (by kernel_rfl) (by kernel_rfl) (by kernel_rfl) (fun _ _ _ h => h) (by rfl) (v := ?v11rrespbig0) ?hy11rrespbig0 hS5 ?rest11rrespbig0
  case hy11rrespbig0 => intro w0 hSw; obtain ⟨a0, a1, a2, a3, _⟩ := hSw; go_simp; first | (rw [if_neg (by omega)]) | (with_reducible rfl)
  simp only [Act.put, List.setIfInBounds_toArray, List.set_cons_zero, List.set_cons_succ]
  refine late_take (i := 12) (some 46) rfl rfl (by kernel_rfl) (by kernel_rfl) (by kernel_rfl) (by kernel_rfl) (by kernel_rfl) (fun _ _ _ h => h) (by rfl) (v := ?v12rrespbig0) ?hy12rrespbig0 hS5 ?rest12rrespbig0
  case hy12rrespbig0 => intro w0 hSw; obtain ⟨a0, a1, a2, a3, _⟩ := hSw; go_simp; first | (rw [if_neg (by omega)]) | (with_reducible rfl)
  simp only [Act.put, List.setIfInBounds_toArray, List.set_cons_zero, List.set_cons_succ]
  refine late_take (i := 15) (some 49) rfl rfl (by kernel_rfl) (by kernel_rfl) (by kernel_rfl) (by kernel_rfl) (by kernel_rfl) (fun _ _ _ h => h) (by rfl) (v := ?v15rrespbig0) ?hy15rrespbig0 hS5 ?rest15rrespbig0
  case hy15rrespbig0 => intro w0 hSw; obtain ⟨a0, a1, a2, a3, _⟩ := hSw; go_simp; first | (rw [if_neg (by omega)]) | (with_reducible rfl)
  simp only [Act.put, List.setIfInBounds_toArray, List.set_cons_zero, List.set_cons_succ]
  refine wpAnyD_one (i := 18) (by kernel_rfl) rfl (fun K hK => ?_)
  go_simp
  rw [HFst.out]
  go_at_call 96
  refine (HWh.out _ HB5.out.1).mono ?_
  rintro e w6 ⟨rfl, hb⟩
  have HB6 := hid (show Below w.heap.size w w6 ∧ w6.heap[w.heap.size]? = some (.cells #[.int .i64 s, .string T, .int .i64 0, .slice p n c] 62 (0, 0)) from ⟨HB5.out.1.trans (hb.mono HB5.out.1.size), (hb.block _ (lt_of_heap HB5.out.2)).trans HB5.out.2⟩)
  have hS6 := cells4 HB6.out.2
  refine hK _ _ ⟨fun _ => hS6, ?_⟩
  clear hK K hS5 hb
  refine late_take (i := 19) (some 53) rfl rfl (by kernel_rfl) (by kernel_rfl) (by kernel_rfl) (by kernel_rfl) (by kernel_rfl) (fun _ _ _ h => h) (by rfl) (v := ?v19rrespbig0) ?hy19rrespbig0 hS6 ?rest19rrespbig0
  case hy19rrespbig0 => intro w0 hSw; obtain ⟨a0, a1, a2, a3, _⟩ := hSw; go_simp; try with_reducible rfl
  simp only [Act.put, List.setIfInBounds_toArray, List.set_cons_zero, List.set_cons_succ]
  refine late_take (i := 20) (some 54) rfl rfl (by kernel_rfl) (by kernel_rfl) (by kernel_rfl) (by kernel_rfl) (by kernel_rfl) (fun _ _ _ h => h) (by rfl) (v := ?v20rrespbig0) ?hy20rrespbig0 hS6 ?rest20rrespbig0
  case hy20rrespbig0 => intro w0 hSw; obtain ⟨a0, a1, a2, a3, _⟩ := hSw; go_simp; try with_reducible rfl
  simp only [Act.put, List.setIfInBounds_toArray, List.set_cons_zero, List.set_cons_succ]
  refine late_take (i := 21) (some 2) rfl rfl (by kernel_rfl) (by kernel_rfl) (by kernel_rfl) (by kernel_rfl) (by kernel_rfl) (fun _ _ _ h => h) (by rfl) (v := ?v21rrespbig0) ?hy21rrespbig0 hS6 ?rest21rrespbig0
  case hy21rrespbig0 => intro w0 hSw; obtain ⟨a0, a1, a2, a3, _⟩ := hSw; go_simp; try with_reducible rfl
  simp only [Act.put, List.setIfInBounds_toArray, List.set_cons_zero, List.set_cons_succ]
  refine late_take (i := 22) (some 3) rfl rfl (by kernel_rfl) (by kernel_rfl) (by kernel_rfl) (by kernel_rfl) (by kernel_rfl) (fun _ _ _ h => h) (by rfl) (v := ?v22rrespbig0) ?hy22rrespbig0 hS6 ?rest22rrespbig0
  case hy22rrespbig0 => intro w0 hSw; obtain ⟨a0, a1, a2, a3, _⟩ := hSw; go_simp; try with_reducible rfl
  simp only [Act.put, List.setIfInBounds_toArray, List.set_cons_zero, List.set_cons_succ]
  refine late_done (by kernel_rfl) ?_ _
  refine NoPanic.normal ?_
  go_wp2
  go_ret2
  exact ⟨rfl, HB6.out.1⟩
set_option maxRecDepth 20000 in
set_option maxHeartbeats 8000000 in
theorem rresp_field1 (s : Int) (r : B) (fs : List (B × B)) (p : Option Addr) (n c : Nat) (hn : fs.length = n) (w : World) (hF : FAt w p fs) (hsz : ∀ f ∈ fs, f.1.length ≤ 1048576 ∧ f.2.length ≤ 1048576) (hnn : n ≤ 1048576) (hr : r.length ≤ 1048576) (hl : lineP s r 1 = true) (hfb : fineB fs = false) : Calls Tryz.prog 62 #[.agg #[.int .i64 s, .string (str r), .int .i64 1, .slice p n c]] w fun e w' => e = .returned (.tuple #[.slice none 0 0, .int .i64 21]) ∧ Below w.heap.size w w' := by
  obtain ⟨W0, hW0⟩ : ∃ W0, W0 = w.alloc (.cells #[.int .i64 s, .string (str r), .int .i64 1, .slice p n c] 62 (0, 0)) := ⟨_, rfl⟩
  have HB0 := hid (show Below w.heap.size w W0 ∧ W0.heap[w.heap.size]? = some (.cells #[.int .i64 s, .string (str r), .int .i64 1, .slice p n c] 62 (0, 0)) from by rw [hW0]; exact ⟨below_new w _, heap_alloc_new w _⟩)
  have HC2 := hid (show ∀ w : World, _ from fun w => words_any r (by omega) w)
  have hp := lineP_parts hl
  have HFi := hid (rfields_any fs p n c hn W0 (hF.next HB0.out.1) hsz (by omega))
  rw [hfb] at HFi
  obtain ⟨st, hst, hs1, hs2⟩ := hp.1
  rw [hp.2.1] at HC2
  have hs1' : ¬ s < 100 := by omega
  have hs2' : ¬ 999 < s := by omega
  have hsr : (str r).size ≤ 1048576 := by rw [str_size]; exact hr
  obtain ⟨T, hT⟩ : ∃ T, str r = T := ⟨_, rfl⟩
  rw [hT] at hsr HC2 HB0 hW0
  rw [hT]
  have HW0 := hid hW0
  rw [hW0] at HFi
  clear hF hsz hn hT hW0 hp hl hnn hfb hr hst hs1 hs2
  go_enter Tryz.func62, Tryz.ntmps62
  go_wp2_with (first | (go_at_call 103; (with_reducible refine (HC2.out _).mono ?_); rintro e w1 ⟨rfl, hw1⟩; subst w1) | (go_at_call 95; (with_reducible refine HFi.out.mono ?_); rintro e w1 ⟨rfl, hw1⟩; subst w1))
  go_ret2
  exact ⟨rfl, by rw [← HW0.out]; exact HB0.out.1⟩
set_option maxRecDepth 20000 in
set_option maxHeartbeats 8000000 in
theorem rresp_ok1 (s : Int) (r : B) (fs : List (B × B)) (p : Option Addr) (n c : Nat) (hn : fs.length = n) (w : World) (hF : FAt w p fs) (hsz : ∀ f ∈ fs, f.1.length ≤ 1048576 ∧ f.2.length ≤ 1048576) (hnn : n ≤ 1048576) (hr : r.length ≤ 1048576) (hl : lineP s r 1 = true) (hfb : fineB fs = true) (hbig : (headW (firstP 49 (told 10 s.toNat) r) fs).length ≤ 65536) : Calls Tryz.prog 62 #[.agg #[.int .i64 s, .string (str r), .int .i64 1, .slice p n c]] w fun e w' => ∃ g d, e = .returned (.tuple #[.slice (some ⟨g, 0, none⟩) (headW (firstP 49 (told 10 s.toNat) r) fs).length d, .int .i64 0]) ∧ ArgAt w' (some ⟨g, 0, none⟩) (headW (firstP 49 (told 10 s.toNat) r) fs) ∧ Below w.heap.size w w' := by
  obtain ⟨W0, hW0⟩ : ∃ W0, W0 = w.alloc (.cells #[.int .i64 s, .string (str r), .int .i64 1, .slice p n c] 62 (0, 0)) := ⟨_, rfl⟩
  have HB0 := hid (show Below w.heap.size w W0 ∧ W0.heap[w.heap.size]? = some (.cells #[.int .i64 s, .string (str r), .int .i64 1, .slice p n c] 62 (0, 0)) from by rw [hW0]; exact ⟨below_new w _, heap_alloc_new w _⟩)
  have HC2 := hid (show ∀ w : World, _ from fun w => words_any r (by omega) w)
  have hp := lineP_parts hl
  have HFi := hid (rfields_any fs p n c hn W0 (hF.next HB0.out.1) hsz (by omega))
  rw [hfb] at HFi
  obtain ⟨st, hst, hs1, hs2⟩ := hp.1
  rw [hp.2.1] at HC2
  have hs1' : ¬ s < 100 := by omega
  have hs2' : ¬ 999 < s := by omega
  have h64 : n ≤ 64 := by unfold fineB at hfb; rw [Bool.and_eq_true] at hfb; have := of_decide_eq_true hfb.1; omega
  have hst2 : told 10 s.toNat = told 10 st := by rw [hst]; rfl
  have HTh := hid (show ∀ W : World, _ from fun W => three_any st hs1 hs2 W)
  rw [← hst2, ← hst] at HTh
  have hs3 : (told 10 s.toNat).length = 3 := by rw [hst2]; exact told_len3 hs1 hs2
  have HFst := hid (show (((((⟨#[72, 84, 84, 80, 47, 49, 46]⟩ : ByteArray) ++ ⟨#[49]⟩) ++ ⟨#[32]⟩) ++ str (told 10 s.toNat)) ++ ⟨#[32]⟩) ++ str r = str (firstP 49 (told 10 s.toNat) r) from by
    rw [show (⟨#[32]⟩ : ByteArray) = str [32] from rfl, show (⟨#[72, 84, 84, 80, 47, 49, 46]⟩ : ByteArray) = str [72, 84, 84, 80, 47, 49, 46] from rfl, show (⟨#[49]⟩ : ByteArray) = str [49] from rfl, str_app, str_app, str_app, str_app, str_app]
    exact congrArg str (by unfold firstP; simp))
  have hfl : (firstP 49 (told 10 s.toNat) r).length ≤ 4194300 := by unfold firstP; simp; omega
  have HWh := hid (show ∀ W : World, Below w.heap.size w W → _ from fun W hb => rwhole_ok (firstP 49 (told 10 s.toNat) r) fs p n c hn W (hF.next hb) hsz h64 hfl hbig)
  obtain ⟨H, hH⟩ : ∃ H, headW (firstP 49 (told 10 s.toNat) r) fs = H := ⟨_, rfl⟩
  rw [hH] at HWh
  rw [hH]
  obtain ⟨LH, hLH⟩ : ∃ LH, H.length = LH := ⟨_, rfl⟩
  rw [hLH] at HWh
  rw [hLH]
  have hsr : (str r).size ≤ 1048576 := by rw [str_size]; exact hr
  obtain ⟨T, hT⟩ : ∃ T, str r = T := ⟨_, rfl⟩
  rw [hT] at hsr HC2 HB0 hW0 HFst
  rw [hT]
  have hsd : (str (told 10 s.toNat)).size = 3 := by rw [str_size]; exact hs3
  obtain ⟨D, hD⟩ : ∃ D, str (told 10 s.toNat) = D := ⟨_, rfl⟩
  rw [hD] at hsd HTh HFst
  obtain ⟨Y, hY⟩ : ∃ Y, str (firstP 49 (told 10 s.toNat) r) = Y := ⟨_, rfl⟩
  rw [hY] at HWh HFst
  have HW0 := hid hW0
  rw [hW0] at HFi
  clear hF hsz hn hT hW0 hp hl hnn hfb hr hst hs1 hs2 hst2 hs3 hD hbig h64 hfl hH hLH hY
  go_enter Tryz.func62, Tryz.ntmps62
  go_wp2_with (first | (go_at_call 103; (with_reducible refine (HC2.out _).mono ?_); rintro e w1 ⟨rfl, hw1⟩; subst w1) | (go_at_call 95; (with_reducible refine HFi.out.mono ?_); rintro e w1 ⟨rfl, hw1⟩; subst w1))
  rw [← HW0.out]
  obtain ⟨W3, hW3⟩ : ∃ W3, W3 = W0.drew := ⟨_, rfl⟩
  have HB4 := hid (show Below w.heap.size w W3 ∧ W3.heap[w.heap.size]? = some (.cells #[.int .i64 s, .string T, .int .i64 1, .slice p n c] 62 (0, 0)) from by rw [hW3]; exact ⟨HB0.out.1.drew, HB0.out.2⟩)
  have hS0 := cells4 HB4.out.2
  have hcat1 : ((⟨#[72, 84, 84, 80, 47, 49, 46]⟩ : ByteArray) ++ ⟨#[49]⟩).size = 8 := rfl
  have hcat2 : (((⟨#[72, 84, 84, 80, 47, 49, 46]⟩ : ByteArray) ++ ⟨#[49]⟩) ++ (⟨#[32]⟩ : ByteArray)).size = 9 := rfl
  have hcat3 : ((((⟨#[72, 84, 84, 80, 47, 49, 46]⟩ : ByteArray) ++ ⟨#[49]⟩) ++ (⟨#[32]⟩ : ByteArray)) ++ D).size = 12 := by rw [ByteArray.size_append, hcat2, hsd]
  have hcat4 : (((((⟨#[72, 84, 84, 80, 47, 49, 46]⟩ : ByteArray) ++ ⟨#[49]⟩) ++ (⟨#[32]⟩ : ByteArray)) ++ D) ++ (⟨#[32]⟩ : ByteArray)).size = 13 := by rw [ByteArray.size_append, hcat3]; rfl
  refine wp_region_noPanic ?_
  refine any_begin 23 (by kernel_rfl) (by kernel_rfl) ?_
  rw [← hW3]
  clear hW3
  refine late_begin (fun U => Cells4 U w.heap.size (.int .i64 s) (.string T) (.int .i64 1) (.slice p n c)) (fun _ => false) hS0 (fun hS => ?_)
  refine late_take (i := 0) (some 34) rfl rfl (by kernel_rfl) (by kernel_rfl) (by kernel_rfl) (by kernel_rfl) (by kernel_rfl) (fun _ _ _ h => h) (by rfl) (v := ?v0rrespok1) ?hy0rrespok1 hS ?rest0rrespok1
  case hy0rrespok1 => intro w0 hSw; obtain ⟨a0, a1, a2, a3, _⟩ := hSw; go_simp; try with_reducible rfl
  simp only [Act.put, List.setIfInBounds_toArray, List.set_cons_zero, List.set_cons_succ]
  refine late_take (i := 1) (some 35) rfl rfl (by kernel_rfl) (by kernel_rfl) (by kernel_rfl) (by kernel_rfl) (by kernel_rfl) (fun _ _ _ h => h) (by rfl) (v := ?v1rrespok1) ?hy1rrespok1 hS ?rest1rrespok1
  case hy1rrespok1 => intro w0 hSw; obtain ⟨a0, a1, a2, a3, _⟩ := hSw; go_simp; try with_reducible rfl
  simp only [Act.put, List.setIfInBounds_toArray, List.set_cons_zero, List.set_cons_succ]
  refine late_take (i := 2) (some 36) rfl rfl (by kernel_rfl) (by kernel_rfl) (by kernel_rfl) (by kernel_rfl) (by kernel_rfl) (fun _ _ _ h => h) (by rfl) (v := ?v2rrespok1) ?hy2rrespok1 hS ?rest2rrespok1
  case hy2rrespok1 => intro w0 hSw; obtain ⟨a0, a1, a2, a3, _⟩ := hSw; go_simp; try with_reducible rfl
  simp only [Act.put, List.setIfInBounds_toArray, List.set_cons_zero, List.set_cons_succ]
  refine late_take (i := 3) (some 37) rfl rfl (by kernel_rfl) (by kernel_rfl) (by kernel_rfl) (by kernel_rfl) (by kernel_rfl) (fun _ _ _ h => h) (by rfl) (v := ?v3rrespok1) ?hy3rrespok1 hS ?rest3rrespok1
  case hy3rrespok1 => intro w0 hSw; obtain ⟨a0, a1, a2, a3, _⟩ := hSw; go_simp; try with_reducible rfl
  simp only [Act.put, List.setIfInBounds_toArray, List.set_cons_zero, List.set_cons_succ]
  refine late_take (i := 4) (some 38) rfl rfl (by kernel_rfl) (by kernel_rfl) (by kernel_rfl) (by kernel_rfl) (by kernel_rfl) (fun _ _ _ h => h) (by rfl) (v := ?v4rrespok1) ?hy4rrespok1 hS ?rest4rrespok1
  case hy4rrespok1 => intro w0 hSw; obtain ⟨a0, a1, a2, a3, _⟩ := hSw; go_simp; try with_reducible rfl
  simp only [Act.put, List.setIfInBounds_toArray, List.set_cons_zero, List.set_cons_succ]
  refine late_take (i := 5) (some 39) rfl rfl (by kernel_rfl) (by kernel_rfl) (by kernel_rfl) (by kernel_rfl) (by kernel_rfl) (fun _ _ _ h => h) (by rfl) (v := .string ⟨#[49]⟩) ?hy5rrespok1 hS ?rest5rrespok1
  case hy5rrespok1 => intro w0 hSw; obtain ⟨a0, a1, a2, a3, _⟩ := hSw; go_simp; (try rfl)
  simp only [Act.put, List.setIfInBounds_toArray, List.set_cons_zero, List.set_cons_succ]
  refine late_take (i := 6) (some 40) rfl rfl (by kernel_rfl) (by kernel_rfl) (by kernel_rfl) (by kernel_rfl) (by kernel_rfl) (fun _ _ _ h => h) (by rfl) (v := ?v6rrespok1) ?hy6rrespok1 hS ?rest6rrespok1
  case hy6rrespok1 => intro w0 hSw; obtain ⟨a0, a1, a2, a3, _⟩ := hSw; go_simp; first | (rw [if_neg (by omega)]) | (with_reducible rfl)
  simp only [Act.put, List.setIfInBounds_toArray, List.set_cons_zero, List.set_cons_succ]
  refine late_take (i := 7) (some 41) rfl rfl (by kernel_rfl) (by kernel_rfl) (by kernel_rfl) (by kernel_rfl) (by kernel_rfl) (fun _ _ _ h => h) (by rfl) (v := ?v7rrespok1) ?hy7rrespok1 hS ?rest7rrespok1
  case hy7rrespok1 => intro w0 hSw; obtain ⟨a0, a1, a2, a3, _⟩ := hSw; go_simp; first | (rw [if_neg (by omega)]) | (with_reducible rfl)
  simp only [Act.put, List.setIfInBounds_toArray, List.set_cons_zero, List.set_cons_succ]
  refine late_take (i := 8) (some 42) rfl rfl (by kernel_rfl) (by kernel_rfl) (by kernel_rfl) (by kernel_rfl) (by kernel_rfl) (fun _ _ _ h => h) (by rfl) (v := ?v8rrespok1) ?hy8rrespok1 hS ?rest8rrespok1
  case hy8rrespok1 => intro w0 hSw; obtain ⟨a0, a1, a2, a3, _⟩ := hSw; go_simp; try with_reducible rfl
  simp only [Act.put, List.setIfInBounds_toArray, List.set_cons_zero, List.set_cons_succ]
  refine late_take (i := 9) (some 43) rfl rfl (by kernel_rfl) (by kernel_rfl) (by kernel_rfl) (by kernel_rfl) (by kernel_rfl) (fun _ _ _ h => h) (by rfl) (v := ?v9rrespok1) ?hy9rrespok1 hS ?rest9rrespok1
  case hy9rrespok1 => intro w0 hSw; obtain ⟨a0, a1, a2, a3, _⟩ := hSw; go_simp; try with_reducible rfl
  simp only [Act.put, List.setIfInBounds_toArray, List.set_cons_zero, List.set_cons_succ]
  refine late_take (i := 13) (some 47) rfl rfl (by kernel_rfl) (by kernel_rfl) (by kernel_rfl) (by kernel_rfl) (by kernel_rfl) (fun _ _ _ h => h) (by rfl) (v := ?v13rrespok1) ?hy13rrespok1 hS ?rest13rrespok1
  case hy13rrespok1 => intro w0 hSw; obtain ⟨a0, a1, a2, a3, _⟩ := hSw; go_simp; try with_reducible rfl
  simp only [Act.put, List.setIfInBounds_toArray, List.set_cons_zero, List.set_cons_succ]
  refine late_take (i := 14) (some 48) rfl rfl (by kernel_rfl) (by kernel_rfl) (by kernel_rfl) (by kernel_rfl) (by kernel_rfl) (fun _ _ _ h => h) (by rfl) (v := ?v14rrespok1) ?hy14rrespok1 hS ?rest14rrespok1
  case hy14rrespok1 => intro w0 hSw; obtain ⟨a0, a1, a2, a3, _⟩ := hSw; go_simp; try with_reducible rfl
  simp only [Act.put, List.setIfInBounds_toArray, List.set_cons_zero, List.set_cons_succ]
  refine late_take (i := 16) (some 50) rfl rfl (by kernel_rfl) (by kernel_rfl) (by kernel_rfl) (by kernel_rfl) (by kernel_rfl) (fun _ _ _ h => h) (by rfl) (v := ?v16rrespok1) ?hy16rrespok1 hS ?rest16rrespok1
  case hy16rrespok1 => intro w0 hSw; obtain ⟨a0, a1, a2, a3, _⟩ := hSw; go_simp; try with_reducible rfl
  simp only [Act.put, List.setIfInBounds_toArray, List.set_cons_zero, List.set_cons_succ]
  refine late_take (i := 17) (some 51) rfl rfl (by kernel_rfl) (by kernel_rfl) (by kernel_rfl) (by kernel_rfl) (by kernel_rfl) (fun _ _ _ h => h) (by rfl) (v := ?v17rrespok1) ?hy17rrespok1 hS ?rest17rrespok1
  case hy17rrespok1 => intro w0 hSw; obtain ⟨a0, a1, a2, a3, _⟩ := hSw; go_simp; try with_reducible rfl
  simp only [Act.put, List.setIfInBounds_toArray, List.set_cons_zero, List.set_cons_succ]
  refine wpAnyD_one (i := 10) (by kernel_rfl) rfl (fun K hK => ?_)
  go_simp
  go_at_call 104
  refine (HTh.out _).mono ?_
  rintro e w5 ⟨rfl, hb⟩
  have HB5 := hid (show Below w.heap.size w w5 ∧ w5.heap[w.heap.size]? = some (.cells #[.int .i64 s, .string T, .int .i64 1, .slice p n c] 62 (0, 0)) from ⟨HB4.out.1.trans (hb.mono HB4.out.1.size), (hb.block _ (lt_of_heap HB4.out.2)).trans HB4.out.2⟩)
  have hS5 := cells4 HB5.out.2
  refine hK _ _ ⟨fun _ => hS5, ?_⟩
  clear hK K hS hb hS0
  refine late_take (i := 11) (some 45) rfl rfl (by kernel_rfl) (by kernel_rfl) (by kernel_rfl) (by kernel_rfl) (by kernel_rfl) (fun _ _ _ h => h) (by rfl) (v := ?v11rrespok1) ?hy11rrespok1 hS5 ?rest11rrespok1
  case hy11rrespok1 => intro w0 hSw; obtain ⟨a0, a1, a2, a3, _⟩ := hSw; go_simp; first | (rw [if_neg (by omega)]) | (with_reducible rfl)
  simp only [Act.put, List.setIfInBounds_toArray, List.set_cons_zero, List.set_cons_succ]
  refine late_take (i := 12) (some 46) rfl rfl (by kernel_rfl) (by kernel_rfl) (by kernel_rfl) (by kernel_rfl) (by kernel_rfl) (fun _ _ _ h => h) (by rfl) (v := ?v12rrespok1) ?hy12rrespok1 hS5 ?rest12rrespok1
  case hy12rrespok1 => intro w0 hSw; obtain ⟨a0, a1, a2, a3, _⟩ := hSw; go_simp; first | (rw [if_neg (by omega)]) | (with_reducible rfl)
  simp only [Act.put, List.setIfInBounds_toArray, List.set_cons_zero, List.set_cons_succ]
  refine late_take (i := 15) (some 49) rfl rfl (by kernel_rfl) (by kernel_rfl) (by kernel_rfl) (by kernel_rfl) (by kernel_rfl) (fun _ _ _ h => h) (by rfl) (v := ?v15rrespok1) ?hy15rrespok1 hS5 ?rest15rrespok1
  case hy15rrespok1 => intro w0 hSw; obtain ⟨a0, a1, a2, a3, _⟩ := hSw; go_simp; first | (rw [if_neg (by omega)]) | (with_reducible rfl)
  simp only [Act.put, List.setIfInBounds_toArray, List.set_cons_zero, List.set_cons_succ]
  refine wpAnyD_one (i := 18) (by kernel_rfl) rfl (fun K hK => ?_)
  go_simp
  rw [HFst.out]
  go_at_call 96
  refine (HWh.out _ HB5.out.1).mono ?_
  rintro e w6 ⟨g6, d6, rfl, hA6, hb⟩
  have HA6 := hid hA6
  have HB6 := hid (show Below w.heap.size w w6 ∧ w6.heap[w.heap.size]? = some (.cells #[.int .i64 s, .string T, .int .i64 1, .slice p n c] 62 (0, 0)) from ⟨HB5.out.1.trans (hb.mono HB5.out.1.size), (hb.block _ (lt_of_heap HB5.out.2)).trans HB5.out.2⟩)
  have hS6 := cells4 HB6.out.2
  refine hK _ _ ⟨fun _ => hS6, ?_⟩
  clear hK K hS5 hb hA6
  refine late_take (i := 19) (some 53) rfl rfl (by kernel_rfl) (by kernel_rfl) (by kernel_rfl) (by kernel_rfl) (by kernel_rfl) (fun _ _ _ h => h) (by rfl) (v := ?v19rrespok1) ?hy19rrespok1 hS6 ?rest19rrespok1
  case hy19rrespok1 => intro w0 hSw; obtain ⟨a0, a1, a2, a3, _⟩ := hSw; go_simp; try with_reducible rfl
  simp only [Act.put, List.setIfInBounds_toArray, List.set_cons_zero, List.set_cons_succ]
  refine late_take (i := 20) (some 54) rfl rfl (by kernel_rfl) (by kernel_rfl) (by kernel_rfl) (by kernel_rfl) (by kernel_rfl) (fun _ _ _ h => h) (by rfl) (v := ?v20rrespok1) ?hy20rrespok1 hS6 ?rest20rrespok1
  case hy20rrespok1 => intro w0 hSw; obtain ⟨a0, a1, a2, a3, _⟩ := hSw; go_simp; try with_reducible rfl
  simp only [Act.put, List.setIfInBounds_toArray, List.set_cons_zero, List.set_cons_succ]
  refine late_take (i := 21) (some 2) rfl rfl (by kernel_rfl) (by kernel_rfl) (by kernel_rfl) (by kernel_rfl) (by kernel_rfl) (fun _ _ _ h => h) (by rfl) (v := ?v21rrespok1) ?hy21rrespok1 hS6 ?rest21rrespok1
  case hy21rrespok1 => intro w0 hSw; obtain ⟨a0, a1, a2, a3, _⟩ := hSw; go_simp; try with_reducible rfl
  simp only [Act.put, List.setIfInBounds_toArray, List.set_cons_zero, List.set_cons_succ]
  refine late_take (i := 22) (some 3) rfl rfl (by kernel_rfl) (by kernel_rfl) (by kernel_rfl) (by kernel_rfl) (by kernel_rfl) (fun _ _ _ h => h) (by rfl) (v := ?v22rrespok1) ?hy22rrespok1 hS6 ?rest22rrespok1
  case hy22rrespok1 => intro w0 hSw; obtain ⟨a0, a1, a2, a3, _⟩ := hSw; go_simp; try with_reducible rfl
  simp only [Act.put, List.setIfInBounds_toArray, List.set_cons_zero, List.set_cons_succ]
  refine late_done (by kernel_rfl) ?_ _
  refine NoPanic.normal ?_
  go_wp2
  go_ret2
  exact ⟨g6, d6, rfl, HA6.out, HB6.out.1⟩
set_option maxRecDepth 20000 in
set_option maxHeartbeats 8000000 in
theorem rresp_big1 (s : Int) (r : B) (fs : List (B × B)) (p : Option Addr) (n c : Nat) (hn : fs.length = n) (w : World) (hF : FAt w p fs) (hsz : ∀ f ∈ fs, f.1.length ≤ 1048576 ∧ f.2.length ≤ 1048576) (hnn : n ≤ 1048576) (hr : r.length ≤ 1048576) (hl : lineP s r 1 = true) (hfb : fineB fs = true) (hbig : ¬ (headW (firstP 49 (told 10 s.toNat) r) fs).length ≤ 65536) : Calls Tryz.prog 62 #[.agg #[.int .i64 s, .string (str r), .int .i64 1, .slice p n c]] w fun e w' => e = .returned (.tuple #[.slice none 0 0, .int .i64 22]) ∧ Below w.heap.size w w' := by
  obtain ⟨W0, hW0⟩ : ∃ W0, W0 = w.alloc (.cells #[.int .i64 s, .string (str r), .int .i64 1, .slice p n c] 62 (0, 0)) := ⟨_, rfl⟩
  have HB0 := hid (show Below w.heap.size w W0 ∧ W0.heap[w.heap.size]? = some (.cells #[.int .i64 s, .string (str r), .int .i64 1, .slice p n c] 62 (0, 0)) from by rw [hW0]; exact ⟨below_new w _, heap_alloc_new w _⟩)
  have HC2 := hid (show ∀ w : World, _ from fun w => words_any r (by omega) w)
  have hp := lineP_parts hl
  have HFi := hid (rfields_any fs p n c hn W0 (hF.next HB0.out.1) hsz (by omega))
  rw [hfb] at HFi
  obtain ⟨st, hst, hs1, hs2⟩ := hp.1
  rw [hp.2.1] at HC2
  have hs1' : ¬ s < 100 := by omega
  have hs2' : ¬ 999 < s := by omega
  have h64 : n ≤ 64 := by unfold fineB at hfb; rw [Bool.and_eq_true] at hfb; have := of_decide_eq_true hfb.1; omega
  have hst2 : told 10 s.toNat = told 10 st := by rw [hst]; rfl
  have HTh := hid (show ∀ W : World, _ from fun W => three_any st hs1 hs2 W)
  rw [← hst2, ← hst] at HTh
  have hs3 : (told 10 s.toNat).length = 3 := by rw [hst2]; exact told_len3 hs1 hs2
  have HFst := hid (show (((((⟨#[72, 84, 84, 80, 47, 49, 46]⟩ : ByteArray) ++ ⟨#[49]⟩) ++ ⟨#[32]⟩) ++ str (told 10 s.toNat)) ++ ⟨#[32]⟩) ++ str r = str (firstP 49 (told 10 s.toNat) r) from by
    rw [show (⟨#[32]⟩ : ByteArray) = str [32] from rfl, show (⟨#[72, 84, 84, 80, 47, 49, 46]⟩ : ByteArray) = str [72, 84, 84, 80, 47, 49, 46] from rfl, show (⟨#[49]⟩ : ByteArray) = str [49] from rfl, str_app, str_app, str_app, str_app, str_app]
    exact congrArg str (by unfold firstP; simp))
  have hfl : (firstP 49 (told 10 s.toNat) r).length ≤ 4194300 := by unfold firstP; simp; omega
  have HWh := hid (show ∀ W : World, Below w.heap.size w W → _ from fun W hb => rwhole_big (firstP 49 (told 10 s.toNat) r) fs p n c hn W (hF.next hb) hsz h64 hfl hbig)
  have hsr : (str r).size ≤ 1048576 := by rw [str_size]; exact hr
  obtain ⟨T, hT⟩ : ∃ T, str r = T := ⟨_, rfl⟩
  rw [hT] at hsr HC2 HB0 hW0 HFst
  rw [hT]
  have hsd : (str (told 10 s.toNat)).size = 3 := by rw [str_size]; exact hs3
  obtain ⟨D, hD⟩ : ∃ D, str (told 10 s.toNat) = D := ⟨_, rfl⟩
  rw [hD] at hsd HTh HFst
  obtain ⟨Y, hY⟩ : ∃ Y, str (firstP 49 (told 10 s.toNat) r) = Y := ⟨_, rfl⟩
  rw [hY] at HWh HFst
  have HW0 := hid hW0
  rw [hW0] at HFi
  clear hF hsz hn hT hW0 hp hl hnn hfb hr hst hs1 hs2 hst2 hs3 hD hbig h64 hfl hY
  go_enter Tryz.func62, Tryz.ntmps62
  go_wp2_with (first | (go_at_call 103; (with_reducible refine (HC2.out _).mono ?_); rintro e w1 ⟨rfl, hw1⟩; subst w1) | (go_at_call 95; (with_reducible refine HFi.out.mono ?_); rintro e w1 ⟨rfl, hw1⟩; subst w1))
  rw [← HW0.out]
  obtain ⟨W3, hW3⟩ : ∃ W3, W3 = W0.drew := ⟨_, rfl⟩
  have HB4 := hid (show Below w.heap.size w W3 ∧ W3.heap[w.heap.size]? = some (.cells #[.int .i64 s, .string T, .int .i64 1, .slice p n c] 62 (0, 0)) from by rw [hW3]; exact ⟨HB0.out.1.drew, HB0.out.2⟩)
  have hS0 := cells4 HB4.out.2
  have hcat1 : ((⟨#[72, 84, 84, 80, 47, 49, 46]⟩ : ByteArray) ++ ⟨#[49]⟩).size = 8 := rfl
  have hcat2 : (((⟨#[72, 84, 84, 80, 47, 49, 46]⟩ : ByteArray) ++ ⟨#[49]⟩) ++ (⟨#[32]⟩ : ByteArray)).size = 9 := rfl
  have hcat3 : ((((⟨#[72, 84, 84, 80, 47, 49, 46]⟩ : ByteArray) ++ ⟨#[49]⟩) ++ (⟨#[32]⟩ : ByteArray)) ++ D).size = 12 := by rw [ByteArray.size_append, hcat2, hsd]
  have hcat4 : (((((⟨#[72, 84, 84, 80, 47, 49, 46]⟩ : ByteArray) ++ ⟨#[49]⟩) ++ (⟨#[32]⟩ : ByteArray)) ++ D) ++ (⟨#[32]⟩ : ByteArray)).size = 13 := by rw [ByteArray.size_append, hcat3]; rfl
  refine wp_region_noPanic ?_
  refine any_begin 23 (by kernel_rfl) (by kernel_rfl) ?_
  rw [← hW3]
  clear hW3
  refine late_begin (fun U => Cells4 U w.heap.size (.int .i64 s) (.string T) (.int .i64 1) (.slice p n c)) (fun _ => false) hS0 (fun hS => ?_)
  refine late_take (i := 0) (some 34) rfl rfl (by kernel_rfl) (by kernel_rfl) (by kernel_rfl) (by kernel_rfl) (by kernel_rfl) (fun _ _ _ h => h) (by rfl) (v := ?v0rrespbig1) ?hy0rrespbig1 hS ?rest0rrespbig1
  case hy0rrespbig1 => intro w0 hSw; obtain ⟨a0, a1, a2, a3, _⟩ := hSw; go_simp; try with_reducible rfl
  simp only [Act.put, List.setIfInBounds_toArray, List.set_cons_zero, List.set_cons_succ]
  refine late_take (i := 1) (some 35) rfl rfl (by kernel_rfl) (by kernel_rfl) (by kernel_rfl) (by kernel_rfl) (by kernel_rfl) (fun _ _ _ h => h) (by rfl) (v := ?v1rrespbig1) ?hy1rrespbig1 hS ?rest1rrespbig1
  case hy1rrespbig1 => intro w0 hSw; obtain ⟨a0, a1, a2, a3, _⟩ := hSw; go_simp; try with_reducible rfl
  simp only [Act.put, List.setIfInBounds_toArray, List.set_cons_zero, List.set_cons_succ]
  refine late_take (i := 2) (some 36) rfl rfl (by kernel_rfl) (by kernel_rfl) (by kernel_rfl) (by kernel_rfl) (by kernel_rfl) (fun _ _ _ h => h) (by rfl) (v := ?v2rrespbig1) ?hy2rrespbig1 hS ?rest2rrespbig1
  case hy2rrespbig1 => intro w0 hSw; obtain ⟨a0, a1, a2, a3, _⟩ := hSw; go_simp; try with_reducible rfl
  simp only [Act.put, List.setIfInBounds_toArray, List.set_cons_zero, List.set_cons_succ]
  refine late_take (i := 3) (some 37) rfl rfl (by kernel_rfl) (by kernel_rfl) (by kernel_rfl) (by kernel_rfl) (by kernel_rfl) (fun _ _ _ h => h) (by rfl) (v := ?v3rrespbig1) ?hy3rrespbig1 hS ?rest3rrespbig1
  case hy3rrespbig1 => intro w0 hSw; obtain ⟨a0, a1, a2, a3, _⟩ := hSw; go_simp; try with_reducible rfl
  simp only [Act.put, List.setIfInBounds_toArray, List.set_cons_zero, List.set_cons_succ]
  refine late_take (i := 4) (some 38) rfl rfl (by kernel_rfl) (by kernel_rfl) (by kernel_rfl) (by kernel_rfl) (by kernel_rfl) (fun _ _ _ h => h) (by rfl) (v := ?v4rrespbig1) ?hy4rrespbig1 hS ?rest4rrespbig1
  case hy4rrespbig1 => intro w0 hSw; obtain ⟨a0, a1, a2, a3, _⟩ := hSw; go_simp; try with_reducible rfl
  simp only [Act.put, List.setIfInBounds_toArray, List.set_cons_zero, List.set_cons_succ]
  refine late_take (i := 5) (some 39) rfl rfl (by kernel_rfl) (by kernel_rfl) (by kernel_rfl) (by kernel_rfl) (by kernel_rfl) (fun _ _ _ h => h) (by rfl) (v := .string ⟨#[49]⟩) ?hy5rrespbig1 hS ?rest5rrespbig1
  case hy5rrespbig1 => intro w0 hSw; obtain ⟨a0, a1, a2, a3, _⟩ := hSw; go_simp; (try rfl)
  simp only [Act.put, List.setIfInBounds_toArray, List.set_cons_zero, List.set_cons_succ]
  refine late_take (i := 6) (some 40) rfl rfl (by kernel_rfl) (by kernel_rfl) (by kernel_rfl) (by kernel_rfl) (by kernel_rfl) (fun _ _ _ h => h) (by rfl) (v := ?v6rrespbig1) ?hy6rrespbig1 hS ?rest6rrespbig1
  case hy6rrespbig1 => intro w0 hSw; obtain ⟨a0, a1, a2, a3, _⟩ := hSw; go_simp; first | (rw [if_neg (by omega)]) | (with_reducible rfl)
  simp only [Act.put, List.setIfInBounds_toArray, List.set_cons_zero, List.set_cons_succ]
  refine late_take (i := 7) (some 41) rfl rfl (by kernel_rfl) (by kernel_rfl) (by kernel_rfl) (by kernel_rfl) (by kernel_rfl) (fun _ _ _ h => h) (by rfl) (v := ?v7rrespbig1) ?hy7rrespbig1 hS ?rest7rrespbig1
  case hy7rrespbig1 => intro w0 hSw; obtain ⟨a0, a1, a2, a3, _⟩ := hSw; go_simp; first | (rw [if_neg (by omega)]) | (with_reducible rfl)
  simp only [Act.put, List.setIfInBounds_toArray, List.set_cons_zero, List.set_cons_succ]
  refine late_take (i := 8) (some 42) rfl rfl (by kernel_rfl) (by kernel_rfl) (by kernel_rfl) (by kernel_rfl) (by kernel_rfl) (fun _ _ _ h => h) (by rfl) (v := ?v8rrespbig1) ?hy8rrespbig1 hS ?rest8rrespbig1
  case hy8rrespbig1 => intro w0 hSw; obtain ⟨a0, a1, a2, a3, _⟩ := hSw; go_simp; try with_reducible rfl
  simp only [Act.put, List.setIfInBounds_toArray, List.set_cons_zero, List.set_cons_succ]
  refine late_take (i := 9) (some 43) rfl rfl (by kernel_rfl) (by kernel_rfl) (by kernel_rfl) (by kernel_rfl) (by kernel_rfl) (fun _ _ _ h => h) (by rfl) (v := ?v9rrespbig1) ?hy9rrespbig1 hS ?rest9rrespbig1
  case hy9rrespbig1 => intro w0 hSw; obtain ⟨a0, a1, a2, a3, _⟩ := hSw; go_simp; try with_reducible rfl
  simp only [Act.put, List.setIfInBounds_toArray, List.set_cons_zero, List.set_cons_succ]
  refine late_take (i := 13) (some 47) rfl rfl (by kernel_rfl) (by kernel_rfl) (by kernel_rfl) (by kernel_rfl) (by kernel_rfl) (fun _ _ _ h => h) (by rfl) (v := ?v13rrespbig1) ?hy13rrespbig1 hS ?rest13rrespbig1
  case hy13rrespbig1 => intro w0 hSw; obtain ⟨a0, a1, a2, a3, _⟩ := hSw; go_simp; try with_reducible rfl
  simp only [Act.put, List.setIfInBounds_toArray, List.set_cons_zero, List.set_cons_succ]
  refine late_take (i := 14) (some 48) rfl rfl (by kernel_rfl) (by kernel_rfl) (by kernel_rfl) (by kernel_rfl) (by kernel_rfl) (fun _ _ _ h => h) (by rfl) (v := ?v14rrespbig1) ?hy14rrespbig1 hS ?rest14rrespbig1
  case hy14rrespbig1 => intro w0 hSw; obtain ⟨a0, a1, a2, a3, _⟩ := hSw; go_simp; try with_reducible rfl
  simp only [Act.put, List.setIfInBounds_toArray, List.set_cons_zero, List.set_cons_succ]
  refine late_take (i := 16) (some 50) rfl rfl (by kernel_rfl) (by kernel_rfl) (by kernel_rfl) (by kernel_rfl) (by kernel_rfl) (fun _ _ _ h => h) (by rfl) (v := ?v16rrespbig1) ?hy16rrespbig1 hS ?rest16rrespbig1
  case hy16rrespbig1 => intro w0 hSw; obtain ⟨a0, a1, a2, a3, _⟩ := hSw; go_simp; try with_reducible rfl
  simp only [Act.put, List.setIfInBounds_toArray, List.set_cons_zero, List.set_cons_succ]
  refine late_take (i := 17) (some 51) rfl rfl (by kernel_rfl) (by kernel_rfl) (by kernel_rfl) (by kernel_rfl) (by kernel_rfl) (fun _ _ _ h => h) (by rfl) (v := ?v17rrespbig1) ?hy17rrespbig1 hS ?rest17rrespbig1
  case hy17rrespbig1 => intro w0 hSw; obtain ⟨a0, a1, a2, a3, _⟩ := hSw; go_simp; try with_reducible rfl
  simp only [Act.put, List.setIfInBounds_toArray, List.set_cons_zero, List.set_cons_succ]
  refine wpAnyD_one (i := 10) (by kernel_rfl) rfl (fun K hK => ?_)
  go_simp
  go_at_call 104
  refine (HTh.out _).mono ?_
  rintro e w5 ⟨rfl, hb⟩
  have HB5 := hid (show Below w.heap.size w w5 ∧ w5.heap[w.heap.size]? = some (.cells #[.int .i64 s, .string T, .int .i64 1, .slice p n c] 62 (0, 0)) from ⟨HB4.out.1.trans (hb.mono HB4.out.1.size), (hb.block _ (lt_of_heap HB4.out.2)).trans HB4.out.2⟩)
  have hS5 := cells4 HB5.out.2
  refine hK _ _ ⟨fun _ => hS5, ?_⟩
  clear hK K hS hb hS0
  refine late_take (i := 11) (some 45) rfl rfl (by kernel_rfl) (by kernel_rfl) (by kernel_rfl) (by kernel_rfl) (by kernel_rfl) (fun _ _ _ h => h) (by rfl) (v := ?v11rrespbig1) ?hy11rrespbig1 hS5 ?rest11rrespbig1
  case hy11rrespbig1 => intro w0 hSw; obtain ⟨a0, a1, a2, a3, _⟩ := hSw; go_simp; first | (rw [if_neg (by omega)]) | (with_reducible rfl)
  simp only [Act.put, List.setIfInBounds_toArray, List.set_cons_zero, List.set_cons_succ]
  refine late_take (i := 12) (some 46) rfl rfl (by kernel_rfl) (by kernel_rfl) (by kernel_rfl) (by kernel_rfl) (by kernel_rfl) (fun _ _ _ h => h) (by rfl) (v := ?v12rrespbig1) ?hy12rrespbig1 hS5 ?rest12rrespbig1
  case hy12rrespbig1 => intro w0 hSw; obtain ⟨a0, a1, a2, a3, _⟩ := hSw; go_simp; first | (rw [if_neg (by omega)]) | (with_reducible rfl)
  simp only [Act.put, List.setIfInBounds_toArray, List.set_cons_zero, List.set_cons_succ]
  refine late_take (i := 15) (some 49) rfl rfl (by kernel_rfl) (by kernel_rfl) (by kernel_rfl) (by kernel_rfl) (by kernel_rfl) (fun _ _ _ h => h) (by rfl) (v := ?v15rrespbig1) ?hy15rrespbig1 hS5 ?rest15rrespbig1
  case hy15rrespbig1 => intro w0 hSw; obtain ⟨a0, a1, a2, a3, _⟩ := hSw; go_simp; first | (rw [if_neg (by omega)]) | (with_reducible rfl)
  simp only [Act.put, List.setIfInBounds_toArray, List.set_cons_zero, List.set_cons_succ]
  refine wpAnyD_one (i := 18) (by kernel_rfl) rfl (fun K hK => ?_)
  go_simp
  rw [HFst.out]
  go_at_call 96
  refine (HWh.out _ HB5.out.1).mono ?_
  rintro e w6 ⟨rfl, hb⟩
  have HB6 := hid (show Below w.heap.size w w6 ∧ w6.heap[w.heap.size]? = some (.cells #[.int .i64 s, .string T, .int .i64 1, .slice p n c] 62 (0, 0)) from ⟨HB5.out.1.trans (hb.mono HB5.out.1.size), (hb.block _ (lt_of_heap HB5.out.2)).trans HB5.out.2⟩)
  have hS6 := cells4 HB6.out.2
  refine hK _ _ ⟨fun _ => hS6, ?_⟩
  clear hK K hS5 hb
  refine late_take (i := 19) (some 53) rfl rfl (by kernel_rfl) (by kernel_rfl) (by kernel_rfl) (by kernel_rfl) (by kernel_rfl) (fun _ _ _ h => h) (by rfl) (v := ?v19rrespbig1) ?hy19rrespbig1 hS6 ?rest19rrespbig1
  case hy19rrespbig1 => intro w0 hSw; obtain ⟨a0, a1, a2, a3, _⟩ := hSw; go_simp; try with_reducible rfl
  simp only [Act.put, List.setIfInBounds_toArray, List.set_cons_zero, List.set_cons_succ]
  refine late_take (i := 20) (some 54) rfl rfl (by kernel_rfl) (by kernel_rfl) (by kernel_rfl) (by kernel_rfl) (by kernel_rfl) (fun _ _ _ h => h) (by rfl) (v := ?v20rrespbig1) ?hy20rrespbig1 hS6 ?rest20rrespbig1
  case hy20rrespbig1 => intro w0 hSw; obtain ⟨a0, a1, a2, a3, _⟩ := hSw; go_simp; try with_reducible rfl
  simp only [Act.put, List.setIfInBounds_toArray, List.set_cons_zero, List.set_cons_succ]
  refine late_take (i := 21) (some 2) rfl rfl (by kernel_rfl) (by kernel_rfl) (by kernel_rfl) (by kernel_rfl) (by kernel_rfl) (fun _ _ _ h => h) (by rfl) (v := ?v21rrespbig1) ?hy21rrespbig1 hS6 ?rest21rrespbig1
  case hy21rrespbig1 => intro w0 hSw; obtain ⟨a0, a1, a2, a3, _⟩ := hSw; go_simp; try with_reducible rfl
  simp only [Act.put, List.setIfInBounds_toArray, List.set_cons_zero, List.set_cons_succ]
  refine late_take (i := 22) (some 3) rfl rfl (by kernel_rfl) (by kernel_rfl) (by kernel_rfl) (by kernel_rfl) (by kernel_rfl) (fun _ _ _ h => h) (by rfl) (v := ?v22rrespbig1) ?hy22rrespbig1 hS6 ?rest22rrespbig1
  case hy22rrespbig1 => intro w0 hSw; obtain ⟨a0, a1, a2, a3, _⟩ := hSw; go_simp; try with_reducible rfl
  simp only [Act.put, List.setIfInBounds_toArray, List.set_cons_zero, List.set_cons_succ]
  refine late_done (by kernel_rfl) ?_ _
  refine NoPanic.normal ?_
  go_wp2
  go_ret2
  exact ⟨rfl, HB6.out.1⟩
theorem rresp_not (s : Int) (r : B) (k : Int) (fs : List (B × B)) (p : Option Addr) (n c : Nat) (hn : fs.length = n) (w : World) (hF : FAt w p fs) (hsz : ∀ f ∈ fs, f.1.length ≤ 1048576 ∧ f.2.length ≤ 1048576) (hnn : n ≤ 1048576) (hr : r.length ≤ 1048576) (he : respE s r k fs ≠ 0) : Calls Tryz.prog 62 #[.agg #[.int .i64 s, .string (str r), .int .i64 k, .slice p n c]] w fun e w' => e = .returned (.tuple #[.slice none 0 0, .int .i64 (respE s r k fs : Int)]) ∧ Below w.heap.size w w' := by
  unfold respE at he ⊢
  cases hl : lineP s r k with
  | false => exact rresp_line s r k p n c w hr hl
  | true =>
    rw [hl, if_pos rfl] at he
    rw [if_pos rfl]
    unfold wrE at he ⊢
    cases hfb : fineB fs with
    | false =>
      rw [if_neg (by simp)]
      rcases minB_or (lineP_parts hl).2.2 with rfl | rfl
      · exact rresp_field0 s r fs p n c hn w hF hsz hnn hr hl hfb
      · exact rresp_field1 s r fs p n c hn w hF hsz hnn hr hl hfb
    | true =>
      rw [hfb, if_pos rfl] at he
      rw [if_pos rfl]
      by_cases hb : (headW (firstP (verC k) (told 10 s.toNat) r) fs).length ≤ 65536
      · rw [if_pos hb] at he
        exact absurd rfl he
      · rw [if_neg hb]
        rcases minB_or (lineP_parts hl).2.2 with rfl | rfl
        · exact rresp_big0 s r fs p n c hn w hF hsz hnn hr hl hfb hb
        · exact rresp_big1 s r fs p n c hn w hF hsz hnn hr hl hfb hb
theorem rresp_may (s : Int) (r : B) (k : Int) (fs : List (B × B)) (p : Option Addr) (n c : Nat) (hn : fs.length = n) (w : World) (hF : FAt w p fs) (hsz : ∀ f ∈ fs, f.1.length ≤ 1048576 ∧ f.2.length ≤ 1048576) (hnn : n ≤ 1048576) (hr : r.length ≤ 1048576) (he : respE s r k fs = 0) : Calls Tryz.prog 62 #[.agg #[.int .i64 s, .string (str r), .int .i64 k, .slice p n c]] w fun e w' => ∃ g d, e = .returned (.tuple #[.slice (some ⟨g, 0, none⟩) (headW (firstP (verC k) (told 10 s.toNat) r) fs).length d, .int .i64 0]) ∧ ArgAt w' (some ⟨g, 0, none⟩) (headW (firstP (verC k) (told 10 s.toNat) r) fs) ∧ Below w.heap.size w w' := by
  obtain ⟨hl, hz, _⟩ := respE_zero he
  obtain ⟨hfb, hb⟩ := wrE_zero hz
  rcases minB_or (lineP_parts hl).2.2 with rfl | rfl
  · exact rresp_ok0 s r fs p n c hn w hF hsz hnn hr hl hfb hb
  · exact rresp_ok1 s r fs p n c hn w hF hsz hnn hr hl hfb hb
end Go.Proofs.YtnlmjlfoeodleaaGreatDoor
/- The document's written request and response: the number that is told. -/
namespace Go.Proofs.YtnlmjlfoeodleaaGreatDoor
open Go.RowKit

theorem rresp_e (s : Int) (r : B) (k : Int) (fs : List (B × B)) (p : Option Addr) (n c : Nat) (hn : fs.length = n) (w : World) (hF : FAt w p fs) (hsz : szC 1048576 fs) (hnn : n ≤ 100000) (hr : r.length ≤ 1048576) : Calls Tryz.prog 62 #[.agg #[.int .i64 s, .string (str r), .int .i64 k, .slice p n c]] w fun e w' => ∃ v, e = .returned (.tuple #[v, .int .i64 (respE s r k fs : Int)]) ∧ Below w.heap.size w w' := by
  by_cases he : respE s r k fs = 0
  · refine (rresp_may s r k fs p n c hn w hF hsz (by omega) hr he).mono ?_
    intro e w' h
    rw [he]
    obtain ⟨v, rfl, hb⟩ : ∃ v, e = .returned (.tuple #[v, .int .i64 0]) ∧ Below w.heap.size w w' := by
      obtain ⟨g, d, h1, _, h2⟩ := h
      exact ⟨_, h1, h2⟩
    exact ⟨v, rfl, hb⟩
  · refine (rresp_not s r k fs p n c hn w hF hsz (by omega) hr he).mono ?_
    intro e w' h
    obtain ⟨v, rfl, hb⟩ : ∃ v, e = .returned (.tuple #[v, .int .i64 (respE s r k fs : Int)]) ∧ Below w.heap.size w w' := ⟨_, h.1, h.2⟩
    exact ⟨v, rfl, hb⟩
end Go.Proofs.YtnlmjlfoeodleaaGreatDoor
