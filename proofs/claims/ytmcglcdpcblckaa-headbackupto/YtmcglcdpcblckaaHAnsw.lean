/- The document's own: a response's head as a text. -/
import Derived.Test.YtmcglcdpcblckaaHWritten
import Derived.Test.YtmcglcdpcblckaaLSizes
namespace Go.Proofs.Ytmcglcdpcblckaa
open Go.RowKit

def okP (s : Int) (r : B) (k : Int) (fs : List (B × B)) : Bool := decide (100 ≤ s) && decide (s ≤ 599) && allB 2 r && decide (0 ≤ k) && decide (k ≤ 1) && fineB fs
def chkD : B → Bool
  | [a, b, c] => staAt 0 a && staAt 1 b && staAt 2 c
  | _ => false
theorem chk_sta {d : B} (h : chkD d = true) : staP d ∧ d.length = 3 := by
  match d, h with
  | [a, b, c], h =>
    unfold chkD at h
    simp only [Bool.and_eq_true] at h
    refine ⟨⟨Nat.le_refl _, fun i x hi => ?_⟩, rfl⟩
    match i, hi with
    | 0, hi => simp at hi; subst hi; exact h.1.1
    | 1, hi => simp at hi; subst hi; exact h.1.2
    | 2, hi => simp at hi; subst hi; exact h.2
    | i + 3, hi => simp at hi
theorem told_chk : ∀ n : Fin 500, chkD (told 10 (n.1 + 100)) = true ∧ statusOf (told 10 (n.1 + 100)) = ((n.1 + 100 : Nat) : Int) := by decide +kernel
theorem told_sta {n : Nat} (h1 : 100 ≤ n) (h2 : n ≤ 599) : staP (told 10 n) ∧ (told 10 n).length = 3 ∧ statusOf (told 10 n) = (n : Int) := by
  have := told_chk ⟨n - 100, by omega⟩
  rw [show n - 100 + 100 = n from by omega] at this
  exact ⟨(chk_sta this.1).1, (chk_sta this.1).2, this.2⟩
theorem okP_parts {s : Int} {r : B} {k : Int} {fs : List (B × B)} (h : okP s r k fs = true) : (∃ n : Nat, s = (n : Int) ∧ 100 ≤ n ∧ n ≤ 599) ∧ allB 2 r = true ∧ (k = 0 ∨ k = 1) ∧ fineB fs = true ∧ fineF fs ∧ fs.length ≤ 64 := by
  unfold okP at h
  simp only [Bool.and_eq_true, decide_eq_true_eq] at h
  obtain ⟨⟨⟨⟨⟨h1, h2⟩, h3⟩, h4⟩, h5⟩, h6⟩ := h
  have h6' := h6
  unfold fineB at h6
  simp only [Bool.and_eq_true, decide_eq_true_eq] at h6
  refine ⟨⟨s.toNat, by omega, by omega, by omega⟩, h3, by omega, h6', fun f hf => ?_, h6.1⟩
  have := List.all_eq_true.1 h6.2 f hf
  unfold okF at this
  simp only [Bool.and_eq_true, decide_eq_true_eq] at this
  have h7 := (isTok_str f.1).1 this.1.1
  exact ⟨h7.1, h7.2, this.1.2, this.2⟩
theorem read_response {n : Nat} {r : B} {k : Int} {fs : List (B × B)} {most : Int} (h : okP (n : Int) r k fs = true) (hl : ((headW (firstP (verC k) (told 10 n) r) fs).length : Int) ≤ most) :
    ∃ s, feedP (newP true most) (headW (firstP (verC k) (told 10 n) r) fs) = s ∧ s.st = 11 ∧ s.err = 0 ∧ s.taken = (headW (firstP (verC k) (told 10 n) r) fs).length ∧ s.status = (n : Int) ∧ s.reason = r ∧ s.minor = byteNum (verC k) ∧ s.fields = fs := by
  obtain ⟨⟨n2, e, h1, h2⟩, h3, h4, _, h6, h7⟩ := okP_parts h
  obtain rfl : n2 = n := by omega
  obtain ⟨t1, t2, t3⟩ := told_sta h1 h2
  rw [headW_len] at hl ⊢
  obtain ⟨s, e, a1, a2, a3, a4, a5, a6, a7, a8, a9, a10⟩ := feed_response (most := most) t1 t2 h3 (verC_or k) h6 h7 (by omega)
  refine ⟨_, rfl, ?_⟩
  unfold headW
  rw [feed_app, e, feed_last a1 a3 (by rw [a10]; exact h7) (by rw [a6, a5]; omega)]
  exact ⟨rfl, a3, by dsimp only; rw [a6], by rw [← t3]; exact a7, a8, a9, a10⟩
set_option maxRecDepth 20000 in
set_option maxHeartbeats 8000000 in
theorem answered_no (s : Int) (r : B) (k : Int) (fs : List (B × B)) (p : Option Addr) (n c : Nat) (hn : fs.length = n) (w : World) (hF : FAt w p fs) (hsz : ∀ f ∈ fs, f.1.length ≤ 1048576 ∧ f.2.length ≤ 1048576) (hnn : n ≤ 1048576) (hr : r.length ≤ 1048576) (hno : okP s r k fs = false) : Calls Try.prog 7 #[.agg #[.int .i64 s, .string (str r), .int .i64 k, .slice p n c]] w fun e w' => e = .returned (.tuple #[.slice none 0 0, .bool false]) ∧ Below w.heap.size w w' := by
  obtain ⟨W0, hW0⟩ : ∃ W0, W0 = w.alloc (.cells #[.int .i64 s, .string (str r), .int .i64 k, .slice p n c] 26 (0, 0)) := ⟨_, rfl⟩
  have HW0 := hid hW0
  have HB0 := hid (show Below w.heap.size w W0 ∧ W0.heap[w.heap.size]? = some (.cells #[.int .i64 s, .string (str r), .int .i64 k, .slice p n c] 26 (0, 0)) from by rw [hW0]; exact ⟨below_new w _, heap_alloc_new w _⟩)
  have HAl := hid (show ∀ w : World, _ from fun w => all_any2 r (by omega) w)
  have HFi := hid (fine_any fs p n c hn W0 (hF.next HB0.out.1) hsz (by omega))
  rw [hW0] at HFi
  unfold okP at hno
  obtain ⟨T, hT⟩ : ∃ T, str r = T := ⟨_, rfl⟩
  rw [hT] at HAl HFi HB0
  rw [hT]
  have HBz := hid (below_new w (.cells #[.int .i64 s, .string T, .int .i64 k, .slice p n c] 26 (0, 0)))
  clear hF hsz hn hT hW0 HW0
  by_cases h1 : s < 100
  · clear hno
    go_enter Try.func7, Try.ntmps7
    go_wp2
    go_ret2
    exact ⟨rfl, HBz.out⟩
  · by_cases h2 : 599 < s
    · clear hno
      go_enter Try.func7, Try.ntmps7
      go_wp2
      go_ret2
      exact ⟨rfl, HBz.out⟩
    · rw [decide_eq_true (show 100 ≤ s by omega), decide_eq_true (show s ≤ 599 by omega)] at hno
      cases hal : allB 2 r with
      | false =>
        rw [hal] at HAl
        clear hno
        go_enter Try.func7, Try.ntmps7
        go_wp2_with (go_at_call 12; (with_reducible refine (HAl.out _).mono ?_); rintro e w2 ⟨rfl, hw2⟩; subst w2)
        go_ret2
        exact ⟨rfl, HBz.out⟩
      | true =>
        rw [hal] at HAl hno
        by_cases hk0 : k < 0
        · clear hno
          go_enter Try.func7, Try.ntmps7
          go_wp2_with (go_at_call 12; (with_reducible refine (HAl.out _).mono ?_); rintro e w2 ⟨rfl, hw2⟩; subst w2)
          go_ret2
          exact ⟨rfl, HBz.out⟩
        · by_cases hk1 : 1 < k
          · clear hno
            go_enter Try.func7, Try.ntmps7
            go_wp2_with (go_at_call 12; (with_reducible refine (HAl.out _).mono ?_); rintro e w2 ⟨rfl, hw2⟩; subst w2)
            go_ret2
            exact ⟨rfl, HBz.out⟩
          · have hfi : fineB fs = false := by
              rw [decide_eq_true (show 0 ≤ k by omega), decide_eq_true (show k ≤ 1 by omega)] at hno
              simpa using hno
            rw [hfi] at HFi
            clear hno
            go_enter Try.func7, Try.ntmps7
            go_wp2_with (first | (go_at_call 12; (with_reducible refine (HAl.out _).mono ?_); rintro e w2 ⟨rfl, hw2⟩; subst w2) | (go_at_call 13; (with_reducible refine HFi.out.mono ?_); rintro e w3 ⟨rfl, hb⟩; have HB3 := hid hb; clear hb))
            go_ret2
            exact ⟨rfl, HBz.out.trans (HB3.out.mono HBz.out.size)⟩
set_option maxRecDepth 20000 in
set_option maxHeartbeats 8000000 in
theorem answered_yes0 (s : Int) (r : B) (k : Int) (fs : List (B × B)) (p : Option Addr) (n c : Nat) (hn : fs.length = n) (w : World) (hF : FAt w p fs) (hsz : ∀ f ∈ fs, f.1.length ≤ 1048576 ∧ f.2.length ≤ 1048576) (hnn : n ≤ 1048576) (hr : r.length ≤ 1048576) (st : Nat) (hst : s = (st : Int)) (hk : k = 0) (hok : okP s r k fs = true) : Calls Try.prog 7 #[.agg #[.int .i64 s, .string (str r), .int .i64 k, .slice p n c]] w fun e w' => ∃ q x d, e = .returned (.tuple #[.slice q x d, .bool (decide (x ≤ 65536))]) ∧ x = (headW (firstP 48 (told 10 st) r) fs).length ∧ Own w' w.heap.size (.slice q x d) (headW (firstP 48 (told 10 st) r) fs) ∧ Below w.heap.size w w' := by
  subst hk hst
  obtain ⟨W0, hW0⟩ : ∃ W0, W0 = w.alloc (.cells #[.int .i64 (st : Int), .string (str r), .int .i64 0, .slice p n c] 26 (0, 0)) := ⟨_, rfl⟩
  have HW0 := hid hW0
  have HB0 := hid (show Below w.heap.size w W0 ∧ W0.heap[w.heap.size]? = some (.cells #[.int .i64 (st : Int), .string (str r), .int .i64 0, .slice p n c] 26 (0, 0)) from by rw [hW0]; exact ⟨below_new w _, heap_alloc_new w _⟩)
  have HAl := hid (show ∀ w : World, _ from fun w => all_any2 r (by omega) w)
  have HFi := hid (fine_any fs p n c hn W0 (hF.next HB0.out.1) hsz (by omega))
  rw [hW0] at HFi
  obtain ⟨⟨n2, en2, hs1, hs2⟩, hp1, _, hp3, _, h64⟩ := okP_parts hok
  obtain rfl : n2 = st := by omega
  obtain ⟨_, hd3, _⟩ := told_sta hs1 hs2
  rw [hn] at h64
  rw [hp1] at HAl
  rw [hp3] at HFi
  have g1 : ¬ ((n2 : Nat) : Int) < 100 := by omega
  have g2 : ¬ (599 : Int) < ((n2 : Nat) : Int) := by omega
  have HTx := hid (show ∀ w : World, _ from fun w => rtext_any 0 w (by omega))
  rw [show told 10 0 = [48] from by decide +kernel, show ((0 : Nat) : Int) = 0 from rfl] at HTx
  have HTs := hid (show ∀ w : World, _ from fun w => rtext_any n2 w (by omega))
  obtain ⟨Dg, hDg⟩ : ∃ Dg, told 10 n2 = Dg := ⟨_, rfl⟩
  rw [hDg] at HTs hd3
  rw [hDg]
  have HFst := hid (show ((((⟨#[72, 84, 84, 80, 47, 49, 46]⟩ ++ str [48]) ++ ⟨#[32]⟩) ++ str Dg) ++ ⟨#[32]⟩) ++ str r = str (firstP 48 Dg r) from by
    rw [show (⟨#[32]⟩ : ByteArray) = str [32] from rfl, show (⟨#[72, 84, 84, 80, 47, 49, 46]⟩ : ByteArray) = str [72, 84, 84, 80, 47, 49, 46] from rfl, str_app, str_app, str_app, str_app, str_app]
    exact congrArg str (by unfold firstP; simp))
  have HHd := hid (show ∀ W : World, Below w.heap.size w W → _ from fun W hb => rhead_any (firstP 48 Dg r) fs p n c hn W (hF.next hb) hsz h64 (by unfold firstP; simp; omega))
  have hst : (str r).size ≤ 1048576 := by rw [str_size]; exact hr
  obtain ⟨T, hT⟩ : ∃ T, str r = T := ⟨_, rfl⟩
  obtain ⟨X, hX⟩ : ∃ X, str [48] = X := ⟨_, rfl⟩
  obtain ⟨Z, hZ⟩ : ∃ Z, str Dg = Z := ⟨_, rfl⟩
  obtain ⟨Y, hY⟩ : ∃ Y, str (firstP 48 Dg r) = Y := ⟨_, rfl⟩
  have hsx : X.size = 1 := by rw [← hX]; rfl
  have hsz3 : Z.size = 3 := by rw [← hZ, str_size, hd3]
  rw [hT] at hst HAl HFi HB0 HFst
  rw [hX] at HTx HFst
  rw [hZ] at HTs HFst
  rw [hY] at HHd HFst
  rw [hT]
  rw [hT] at hW0
  have HW1 := hid hW0
  have hcat1 : ((⟨#[72, 84, 84, 80, 47, 49, 46]⟩ : ByteArray) ++ X).size = 8 := by rw [ByteArray.size_append, hsx]; rfl
  have hcat2 : (((⟨#[72, 84, 84, 80, 47, 49, 46]⟩ : ByteArray) ++ X) ++ (⟨#[32]⟩ : ByteArray)).size = 9 := by rw [ByteArray.size_append, hcat1]; rfl
  have hcat3 : ((((⟨#[72, 84, 84, 80, 47, 49, 46]⟩ : ByteArray) ++ X) ++ (⟨#[32]⟩ : ByteArray)) ++ Z).size = 12 := by rw [ByteArray.size_append, hcat2, hsz3]
  have hcat4 : (((((⟨#[72, 84, 84, 80, 47, 49, 46]⟩ : ByteArray) ++ X) ++ (⟨#[32]⟩ : ByteArray)) ++ Z) ++ (⟨#[32]⟩ : ByteArray)).size = 13 := by rw [ByteArray.size_append, hcat3]; rfl
  clear hF hsz hn hT hX hY hZ HW0 hok hnn hr hp1 hp3 en2 hs1 hs2 hd3 hDg
  go_enter Try.func7, Try.ntmps7
  go_wp2_with (first | (go_at_call 12; (with_reducible refine (HAl.out _).mono ?_); rintro e w2 ⟨rfl, hw2⟩; subst w2) | (go_at_call 13; (with_reducible refine HFi.out.mono ?_); rintro e w3 ⟨rfl, hb⟩; rw [← HW1.out] at hb; have HB3 := hid (show Below w.heap.size w w3 ∧ w3.heap[w.heap.size]? = some (.cells #[.int .i64 (n2 : Int), .string T, .int .i64 0, .slice p n c] 26 (0, 0)) from ⟨HB0.out.1.trans (hb.mono HB0.out.1.size), (hb.block _ (lt_of_heap HB0.out.2)).trans HB0.out.2⟩); clear hb))
  obtain ⟨W3, hW3⟩ : ∃ W3, W3 = w3.drew := ⟨_, rfl⟩
  have HB4 := hid (show Below w.heap.size w W3 ∧ W3.heap[w.heap.size]? = some (.cells #[.int .i64 (n2 : Int), .string T, .int .i64 0, .slice p n c] 26 (0, 0)) from by rw [hW3]; exact ⟨HB3.out.1.drew, HB3.out.2⟩)
  have hS0 := cells4 HB4.out.2
  refine wp_region_noPanic ?_
  refine any_begin 20 (by kernel_rfl) (by kernel_rfl) ?_
  rw [← hW3]
  clear hW3
  refine late_begin (fun U => Cells4 U w.heap.size (.int .i64 (n2 : Int)) (.string T) (.int .i64 0) (.slice p n c)) (fun _ => false) hS0 (fun hS => ?_)
  refine late_take (i := 0) (some 34) rfl rfl (by kernel_rfl) (by kernel_rfl) (by kernel_rfl) (by kernel_rfl) (by kernel_rfl) (fun _ _ _ h => h) (by rfl) (v := ?v0z0) ?hy0z0 hS ?rest0z0
  case hy0z0 => intro w0 hSw; obtain ⟨a0, a1, a2, a3, _⟩ := hSw; go_simp; try with_reducible rfl
  simp only [Act.put, List.setIfInBounds_toArray, List.set_cons_zero, List.set_cons_succ]
  refine late_take (i := 1) (some 35) rfl rfl (by kernel_rfl) (by kernel_rfl) (by kernel_rfl) (by kernel_rfl) (by kernel_rfl) (fun _ _ _ h => h) (by rfl) (v := ?v1z0) ?hy1z0 hS ?rest1z0
  case hy1z0 => intro w0 hSw; obtain ⟨a0, a1, a2, a3, _⟩ := hSw; go_simp; try with_reducible rfl
  simp only [Act.put, List.setIfInBounds_toArray, List.set_cons_zero, List.set_cons_succ]
  refine late_take (i := 5) (some 39) rfl rfl (by kernel_rfl) (by kernel_rfl) (by kernel_rfl) (by kernel_rfl) (by kernel_rfl) (fun _ _ _ h => h) (by rfl) (v := ?v5z0) ?hy5z0 hS ?rest5z0
  case hy5z0 => intro w0 hSw; obtain ⟨a0, a1, a2, a3, _⟩ := hSw; go_simp; try with_reducible rfl
  simp only [Act.put, List.setIfInBounds_toArray, List.set_cons_zero, List.set_cons_succ]
  refine late_take (i := 6) (some 40) rfl rfl (by kernel_rfl) (by kernel_rfl) (by kernel_rfl) (by kernel_rfl) (by kernel_rfl) (fun _ _ _ h => h) (by rfl) (v := ?v6z0) ?hy6z0 hS ?rest6z0
  case hy6z0 => intro w0 hSw; obtain ⟨a0, a1, a2, a3, _⟩ := hSw; go_simp; try with_reducible rfl
  simp only [Act.put, List.setIfInBounds_toArray, List.set_cons_zero, List.set_cons_succ]
  refine late_take (i := 10) (some 44) rfl rfl (by kernel_rfl) (by kernel_rfl) (by kernel_rfl) (by kernel_rfl) (by kernel_rfl) (fun _ _ _ h => h) (by rfl) (v := ?v10z0) ?hy10z0 hS ?rest10z0
  case hy10z0 => intro w0 hSw; obtain ⟨a0, a1, a2, a3, _⟩ := hSw; go_simp; try with_reducible rfl
  simp only [Act.put, List.setIfInBounds_toArray, List.set_cons_zero, List.set_cons_succ]
  refine late_take (i := 11) (some 45) rfl rfl (by kernel_rfl) (by kernel_rfl) (by kernel_rfl) (by kernel_rfl) (by kernel_rfl) (fun _ _ _ h => h) (by rfl) (v := ?v11z0) ?hy11z0 hS ?rest11z0
  case hy11z0 => intro w0 hSw; obtain ⟨a0, a1, a2, a3, _⟩ := hSw; go_simp; try with_reducible rfl
  simp only [Act.put, List.setIfInBounds_toArray, List.set_cons_zero, List.set_cons_succ]
  refine late_take (i := 13) (some 47) rfl rfl (by kernel_rfl) (by kernel_rfl) (by kernel_rfl) (by kernel_rfl) (by kernel_rfl) (fun _ _ _ h => h) (by rfl) (v := ?v13z0) ?hy13z0 hS ?rest13z0
  case hy13z0 => intro w0 hSw; obtain ⟨a0, a1, a2, a3, _⟩ := hSw; go_simp; try with_reducible rfl
  simp only [Act.put, List.setIfInBounds_toArray, List.set_cons_zero, List.set_cons_succ]
  refine late_take (i := 14) (some 48) rfl rfl (by kernel_rfl) (by kernel_rfl) (by kernel_rfl) (by kernel_rfl) (by kernel_rfl) (fun _ _ _ h => h) (by rfl) (v := ?v14z0) ?hy14z0 hS ?rest14z0
  case hy14z0 => intro w0 hSw; obtain ⟨a0, a1, a2, a3, _⟩ := hSw; go_simp; try with_reducible rfl
  simp only [Act.put, List.setIfInBounds_toArray, List.set_cons_zero, List.set_cons_succ]
  refine wpAnyD_one (i := 2) (by kernel_rfl) rfl (fun K hK => ?_)
  go_simp
  go_at_call 15
  refine (HTx.out _).mono ?_
  rintro e w5 ⟨rfl, hb⟩
  have HB5 := hid (show Below w.heap.size w w5 ∧ w5.heap[w.heap.size]? = some (.cells #[.int .i64 (n2 : Int), .string T, .int .i64 0, .slice p n c] 26 (0, 0)) from ⟨HB4.out.1.trans (hb.mono HB4.out.1.size), (hb.block _ (lt_of_heap HB4.out.2)).trans HB4.out.2⟩)
  have hS5 := cells4 HB5.out.2
  refine hK _ _ ⟨fun _ => hS5, ?_⟩
  clear hK K hS hb hS0
  refine late_take (i := 3) (some 37) rfl rfl (by kernel_rfl) (by kernel_rfl) (by kernel_rfl) (by kernel_rfl) (by kernel_rfl) (fun _ _ _ h => h) (by rfl) (v := ?v3z0) ?hy3z0 hS5 ?rest3z0
  case hy3z0 => intro w0 hSw; obtain ⟨a0, a1, a2, a3, _⟩ := hSw; go_simp; first | rfl | rw [if_neg (by omega)]
  simp only [Act.put, List.setIfInBounds_toArray, List.set_cons_zero, List.set_cons_succ]
  refine late_take (i := 4) (some 38) rfl rfl (by kernel_rfl) (by kernel_rfl) (by kernel_rfl) (by kernel_rfl) (by kernel_rfl) (fun _ _ _ h => h) (by rfl) (v := ?v4z0) ?hy4z0 hS5 ?rest4z0
  case hy4z0 => intro w0 hSw; obtain ⟨a0, a1, a2, a3, _⟩ := hSw; go_simp; first | rfl | rw [if_neg (by omega)]
  simp only [Act.put, List.setIfInBounds_toArray, List.set_cons_zero, List.set_cons_succ]
  refine wpAnyD_one (i := 7) (by kernel_rfl) rfl (fun K hK => ?_)
  go_simp
  go_at_call 15
  refine (HTs.out _).mono ?_
  rintro e w6 ⟨rfl, hb⟩
  have HB6 := hid (show Below w.heap.size w w6 ∧ w6.heap[w.heap.size]? = some (.cells #[.int .i64 (n2 : Int), .string T, .int .i64 0, .slice p n c] 26 (0, 0)) from ⟨HB5.out.1.trans (hb.mono HB5.out.1.size), (hb.block _ (lt_of_heap HB5.out.2)).trans HB5.out.2⟩)
  have hS6 := cells4 HB6.out.2
  refine hK _ _ ⟨fun _ => hS6, ?_⟩
  clear hK K hS5 hb
  refine late_take (i := 8) (some 42) rfl rfl (by kernel_rfl) (by kernel_rfl) (by kernel_rfl) (by kernel_rfl) (by kernel_rfl) (fun _ _ _ h => h) (by rfl) (v := ?v8z0) ?hy8z0 hS6 ?rest8z0
  case hy8z0 => intro w0 hSw; obtain ⟨a0, a1, a2, a3, _⟩ := hSw; go_simp; first | rfl | rw [if_neg (by omega)]
  simp only [Act.put, List.setIfInBounds_toArray, List.set_cons_zero, List.set_cons_succ]
  refine late_take (i := 9) (some 43) rfl rfl (by kernel_rfl) (by kernel_rfl) (by kernel_rfl) (by kernel_rfl) (by kernel_rfl) (fun _ _ _ h => h) (by rfl) (v := ?v9z0) ?hy9z0 hS6 ?rest9z0
  case hy9z0 => intro w0 hSw; obtain ⟨a0, a1, a2, a3, _⟩ := hSw; go_simp; first | rfl | rw [if_neg (by omega)]
  simp only [Act.put, List.setIfInBounds_toArray, List.set_cons_zero, List.set_cons_succ]
  refine late_take (i := 12) (some 46) rfl rfl (by kernel_rfl) (by kernel_rfl) (by kernel_rfl) (by kernel_rfl) (by kernel_rfl) (fun _ _ _ h => h) (by rfl) (v := ?v12z0) ?hy12z0 hS6 ?rest12z0
  case hy12z0 => intro w0 hSw; obtain ⟨a0, a1, a2, a3, _⟩ := hSw; go_simp; first | rfl | rw [if_neg (by omega)]
  simp only [Act.put, List.setIfInBounds_toArray, List.set_cons_zero, List.set_cons_succ]
  refine wpAnyD_one (i := 15) (by kernel_rfl) rfl (fun K hK => ?_)
  go_simp
  rw [HFst.out]
  go_at_call 14
  refine (HHd.out _ HB6.out.1).mono ?_
  rintro e w7 ⟨q, x, d, rfl, hx, ho, hb⟩
  have HB7 := hid (show Below w.heap.size w w7 ∧ w7.heap[w.heap.size]? = some (.cells #[.int .i64 (n2 : Int), .string T, .int .i64 0, .slice p n c] 26 (0, 0)) from ⟨HB6.out.1.trans (hb.mono HB6.out.1.size), (hb.block _ (lt_of_heap HB6.out.2)).trans HB6.out.2⟩)
  have hS7 := cells4 HB7.out.2
  have HX := hid hx
  have HO7 := hid (show Own w7 w.heap.size (.slice q x d) _ from own_lower ho HB6.out.1.size)
  obtain ⟨bx, hbx⟩ : ∃ bx, decide (x ≤ 65536) = bx := ⟨_, rfl⟩
  have HBx := hid hbx
  rw [hbx]
  refine hK _ _ ⟨fun _ => hS7, ?_⟩
  clear hK K hS6 hb ho hx hbx
  refine late_take (i := 16) (some 50) rfl rfl (by kernel_rfl) (by kernel_rfl) (by kernel_rfl) (by kernel_rfl) (by kernel_rfl) (fun _ _ _ h => h) (by rfl) (v := ?v16z0) ?hy16z0 hS7 ?rest16z0
  case hy16z0 => intro w0 hSw; obtain ⟨a0, a1, a2, a3, _⟩ := hSw; go_simp; try with_reducible rfl
  simp only [Act.put, List.setIfInBounds_toArray, List.set_cons_zero, List.set_cons_succ]
  refine late_take (i := 17) (some 51) rfl rfl (by kernel_rfl) (by kernel_rfl) (by kernel_rfl) (by kernel_rfl) (by kernel_rfl) (fun _ _ _ h => h) (by rfl) (v := ?v17z0) ?hy17z0 hS7 ?rest17z0
  case hy17z0 => intro w0 hSw; obtain ⟨a0, a1, a2, a3, _⟩ := hSw; go_simp; try with_reducible rfl
  simp only [Act.put, List.setIfInBounds_toArray, List.set_cons_zero, List.set_cons_succ]
  refine late_take (i := 18) (some 2) rfl rfl (by kernel_rfl) (by kernel_rfl) (by kernel_rfl) (by kernel_rfl) (by kernel_rfl) (fun _ _ _ h => h) (by rfl) (v := ?v18z0) ?hy18z0 hS7 ?rest18z0
  case hy18z0 => intro w0 hSw; obtain ⟨a0, a1, a2, a3, _⟩ := hSw; go_simp; try with_reducible rfl
  simp only [Act.put, List.setIfInBounds_toArray, List.set_cons_zero, List.set_cons_succ]
  refine late_take (i := 19) (some 3) rfl rfl (by kernel_rfl) (by kernel_rfl) (by kernel_rfl) (by kernel_rfl) (by kernel_rfl) (fun _ _ _ h => h) (by rfl) (v := ?v19z0) ?hy19z0 hS7 ?rest19z0
  case hy19z0 => intro w0 hSw; obtain ⟨a0, a1, a2, a3, _⟩ := hSw; go_simp; try with_reducible rfl
  simp only [Act.put, List.setIfInBounds_toArray, List.set_cons_zero, List.set_cons_succ]
  refine late_done (by kernel_rfl) ?_ _
  refine NoPanic.normal ?_
  go_wp2
  go_ret2
  exact ⟨q, x, d, by rw [HBx.out]; rfl, HX.out, HO7.out, HB7.out.1⟩
set_option maxRecDepth 20000 in
set_option maxHeartbeats 8000000 in
theorem answered_yes1 (s : Int) (r : B) (k : Int) (fs : List (B × B)) (p : Option Addr) (n c : Nat) (hn : fs.length = n) (w : World) (hF : FAt w p fs) (hsz : ∀ f ∈ fs, f.1.length ≤ 1048576 ∧ f.2.length ≤ 1048576) (hnn : n ≤ 1048576) (hr : r.length ≤ 1048576) (st : Nat) (hst : s = (st : Int)) (hk : k = 1) (hok : okP s r k fs = true) : Calls Try.prog 7 #[.agg #[.int .i64 s, .string (str r), .int .i64 k, .slice p n c]] w fun e w' => ∃ q x d, e = .returned (.tuple #[.slice q x d, .bool (decide (x ≤ 65536))]) ∧ x = (headW (firstP 49 (told 10 st) r) fs).length ∧ Own w' w.heap.size (.slice q x d) (headW (firstP 49 (told 10 st) r) fs) ∧ Below w.heap.size w w' := by
  subst hk hst
  obtain ⟨W0, hW0⟩ : ∃ W0, W0 = w.alloc (.cells #[.int .i64 (st : Int), .string (str r), .int .i64 1, .slice p n c] 26 (0, 0)) := ⟨_, rfl⟩
  have HW0 := hid hW0
  have HB0 := hid (show Below w.heap.size w W0 ∧ W0.heap[w.heap.size]? = some (.cells #[.int .i64 (st : Int), .string (str r), .int .i64 1, .slice p n c] 26 (0, 0)) from by rw [hW0]; exact ⟨below_new w _, heap_alloc_new w _⟩)
  have HAl := hid (show ∀ w : World, _ from fun w => all_any2 r (by omega) w)
  have HFi := hid (fine_any fs p n c hn W0 (hF.next HB0.out.1) hsz (by omega))
  rw [hW0] at HFi
  obtain ⟨⟨n2, en2, hs1, hs2⟩, hp1, _, hp3, _, h64⟩ := okP_parts hok
  obtain rfl : n2 = st := by omega
  obtain ⟨_, hd3, _⟩ := told_sta hs1 hs2
  rw [hn] at h64
  rw [hp1] at HAl
  rw [hp3] at HFi
  have g1 : ¬ ((n2 : Nat) : Int) < 100 := by omega
  have g2 : ¬ (599 : Int) < ((n2 : Nat) : Int) := by omega
  have HTx := hid (show ∀ w : World, _ from fun w => rtext_any 1 w (by omega))
  rw [show told 10 1 = [49] from by decide +kernel, show ((1 : Nat) : Int) = 1 from rfl] at HTx
  have HTs := hid (show ∀ w : World, _ from fun w => rtext_any n2 w (by omega))
  obtain ⟨Dg, hDg⟩ : ∃ Dg, told 10 n2 = Dg := ⟨_, rfl⟩
  rw [hDg] at HTs hd3
  rw [hDg]
  have HFst := hid (show ((((⟨#[72, 84, 84, 80, 47, 49, 46]⟩ ++ str [49]) ++ ⟨#[32]⟩) ++ str Dg) ++ ⟨#[32]⟩) ++ str r = str (firstP 49 Dg r) from by
    rw [show (⟨#[32]⟩ : ByteArray) = str [32] from rfl, show (⟨#[72, 84, 84, 80, 47, 49, 46]⟩ : ByteArray) = str [72, 84, 84, 80, 47, 49, 46] from rfl, str_app, str_app, str_app, str_app, str_app]
    exact congrArg str (by unfold firstP; simp))
  have HHd := hid (show ∀ W : World, Below w.heap.size w W → _ from fun W hb => rhead_any (firstP 49 Dg r) fs p n c hn W (hF.next hb) hsz h64 (by unfold firstP; simp; omega))
  have hst : (str r).size ≤ 1048576 := by rw [str_size]; exact hr
  obtain ⟨T, hT⟩ : ∃ T, str r = T := ⟨_, rfl⟩
  obtain ⟨X, hX⟩ : ∃ X, str [49] = X := ⟨_, rfl⟩
  obtain ⟨Z, hZ⟩ : ∃ Z, str Dg = Z := ⟨_, rfl⟩
  obtain ⟨Y, hY⟩ : ∃ Y, str (firstP 49 Dg r) = Y := ⟨_, rfl⟩
  have hsx : X.size = 1 := by rw [← hX]; rfl
  have hsz3 : Z.size = 3 := by rw [← hZ, str_size, hd3]
  rw [hT] at hst HAl HFi HB0 HFst
  rw [hX] at HTx HFst
  rw [hZ] at HTs HFst
  rw [hY] at HHd HFst
  rw [hT]
  rw [hT] at hW0
  have HW1 := hid hW0
  have hcat1 : ((⟨#[72, 84, 84, 80, 47, 49, 46]⟩ : ByteArray) ++ X).size = 8 := by rw [ByteArray.size_append, hsx]; rfl
  have hcat2 : (((⟨#[72, 84, 84, 80, 47, 49, 46]⟩ : ByteArray) ++ X) ++ (⟨#[32]⟩ : ByteArray)).size = 9 := by rw [ByteArray.size_append, hcat1]; rfl
  have hcat3 : ((((⟨#[72, 84, 84, 80, 47, 49, 46]⟩ : ByteArray) ++ X) ++ (⟨#[32]⟩ : ByteArray)) ++ Z).size = 12 := by rw [ByteArray.size_append, hcat2, hsz3]
  have hcat4 : (((((⟨#[72, 84, 84, 80, 47, 49, 46]⟩ : ByteArray) ++ X) ++ (⟨#[32]⟩ : ByteArray)) ++ Z) ++ (⟨#[32]⟩ : ByteArray)).size = 13 := by rw [ByteArray.size_append, hcat3]; rfl
  clear hF hsz hn hT hX hY hZ HW0 hok hnn hr hp1 hp3 en2 hs1 hs2 hd3 hDg
  go_enter Try.func7, Try.ntmps7
  go_wp2_with (first | (go_at_call 12; (with_reducible refine (HAl.out _).mono ?_); rintro e w2 ⟨rfl, hw2⟩; subst w2) | (go_at_call 13; (with_reducible refine HFi.out.mono ?_); rintro e w3 ⟨rfl, hb⟩; rw [← HW1.out] at hb; have HB3 := hid (show Below w.heap.size w w3 ∧ w3.heap[w.heap.size]? = some (.cells #[.int .i64 (n2 : Int), .string T, .int .i64 1, .slice p n c] 26 (0, 0)) from ⟨HB0.out.1.trans (hb.mono HB0.out.1.size), (hb.block _ (lt_of_heap HB0.out.2)).trans HB0.out.2⟩); clear hb))
  obtain ⟨W3, hW3⟩ : ∃ W3, W3 = w3.drew := ⟨_, rfl⟩
  have HB4 := hid (show Below w.heap.size w W3 ∧ W3.heap[w.heap.size]? = some (.cells #[.int .i64 (n2 : Int), .string T, .int .i64 1, .slice p n c] 26 (0, 0)) from by rw [hW3]; exact ⟨HB3.out.1.drew, HB3.out.2⟩)
  have hS0 := cells4 HB4.out.2
  refine wp_region_noPanic ?_
  refine any_begin 20 (by kernel_rfl) (by kernel_rfl) ?_
  rw [← hW3]
  clear hW3
  refine late_begin (fun U => Cells4 U w.heap.size (.int .i64 (n2 : Int)) (.string T) (.int .i64 1) (.slice p n c)) (fun _ => false) hS0 (fun hS => ?_)
  refine late_take (i := 0) (some 34) rfl rfl (by kernel_rfl) (by kernel_rfl) (by kernel_rfl) (by kernel_rfl) (by kernel_rfl) (fun _ _ _ h => h) (by rfl) (v := ?v0z1) ?hy0z1 hS ?rest0z1
  case hy0z1 => intro w0 hSw; obtain ⟨a0, a1, a2, a3, _⟩ := hSw; go_simp; try with_reducible rfl
  simp only [Act.put, List.setIfInBounds_toArray, List.set_cons_zero, List.set_cons_succ]
  refine late_take (i := 1) (some 35) rfl rfl (by kernel_rfl) (by kernel_rfl) (by kernel_rfl) (by kernel_rfl) (by kernel_rfl) (fun _ _ _ h => h) (by rfl) (v := ?v1z1) ?hy1z1 hS ?rest1z1
  case hy1z1 => intro w0 hSw; obtain ⟨a0, a1, a2, a3, _⟩ := hSw; go_simp; try with_reducible rfl
  simp only [Act.put, List.setIfInBounds_toArray, List.set_cons_zero, List.set_cons_succ]
  refine late_take (i := 5) (some 39) rfl rfl (by kernel_rfl) (by kernel_rfl) (by kernel_rfl) (by kernel_rfl) (by kernel_rfl) (fun _ _ _ h => h) (by rfl) (v := ?v5z1) ?hy5z1 hS ?rest5z1
  case hy5z1 => intro w0 hSw; obtain ⟨a0, a1, a2, a3, _⟩ := hSw; go_simp; try with_reducible rfl
  simp only [Act.put, List.setIfInBounds_toArray, List.set_cons_zero, List.set_cons_succ]
  refine late_take (i := 6) (some 40) rfl rfl (by kernel_rfl) (by kernel_rfl) (by kernel_rfl) (by kernel_rfl) (by kernel_rfl) (fun _ _ _ h => h) (by rfl) (v := ?v6z1) ?hy6z1 hS ?rest6z1
  case hy6z1 => intro w0 hSw; obtain ⟨a0, a1, a2, a3, _⟩ := hSw; go_simp; try with_reducible rfl
  simp only [Act.put, List.setIfInBounds_toArray, List.set_cons_zero, List.set_cons_succ]
  refine late_take (i := 10) (some 44) rfl rfl (by kernel_rfl) (by kernel_rfl) (by kernel_rfl) (by kernel_rfl) (by kernel_rfl) (fun _ _ _ h => h) (by rfl) (v := ?v10z1) ?hy10z1 hS ?rest10z1
  case hy10z1 => intro w0 hSw; obtain ⟨a0, a1, a2, a3, _⟩ := hSw; go_simp; try with_reducible rfl
  simp only [Act.put, List.setIfInBounds_toArray, List.set_cons_zero, List.set_cons_succ]
  refine late_take (i := 11) (some 45) rfl rfl (by kernel_rfl) (by kernel_rfl) (by kernel_rfl) (by kernel_rfl) (by kernel_rfl) (fun _ _ _ h => h) (by rfl) (v := ?v11z1) ?hy11z1 hS ?rest11z1
  case hy11z1 => intro w0 hSw; obtain ⟨a0, a1, a2, a3, _⟩ := hSw; go_simp; try with_reducible rfl
  simp only [Act.put, List.setIfInBounds_toArray, List.set_cons_zero, List.set_cons_succ]
  refine late_take (i := 13) (some 47) rfl rfl (by kernel_rfl) (by kernel_rfl) (by kernel_rfl) (by kernel_rfl) (by kernel_rfl) (fun _ _ _ h => h) (by rfl) (v := ?v13z1) ?hy13z1 hS ?rest13z1
  case hy13z1 => intro w0 hSw; obtain ⟨a0, a1, a2, a3, _⟩ := hSw; go_simp; try with_reducible rfl
  simp only [Act.put, List.setIfInBounds_toArray, List.set_cons_zero, List.set_cons_succ]
  refine late_take (i := 14) (some 48) rfl rfl (by kernel_rfl) (by kernel_rfl) (by kernel_rfl) (by kernel_rfl) (by kernel_rfl) (fun _ _ _ h => h) (by rfl) (v := ?v14z1) ?hy14z1 hS ?rest14z1
  case hy14z1 => intro w0 hSw; obtain ⟨a0, a1, a2, a3, _⟩ := hSw; go_simp; try with_reducible rfl
  simp only [Act.put, List.setIfInBounds_toArray, List.set_cons_zero, List.set_cons_succ]
  refine wpAnyD_one (i := 2) (by kernel_rfl) rfl (fun K hK => ?_)
  go_simp
  go_at_call 15
  refine (HTx.out _).mono ?_
  rintro e w5 ⟨rfl, hb⟩
  have HB5 := hid (show Below w.heap.size w w5 ∧ w5.heap[w.heap.size]? = some (.cells #[.int .i64 (n2 : Int), .string T, .int .i64 1, .slice p n c] 26 (0, 0)) from ⟨HB4.out.1.trans (hb.mono HB4.out.1.size), (hb.block _ (lt_of_heap HB4.out.2)).trans HB4.out.2⟩)
  have hS5 := cells4 HB5.out.2
  refine hK _ _ ⟨fun _ => hS5, ?_⟩
  clear hK K hS hb hS0
  refine late_take (i := 3) (some 37) rfl rfl (by kernel_rfl) (by kernel_rfl) (by kernel_rfl) (by kernel_rfl) (by kernel_rfl) (fun _ _ _ h => h) (by rfl) (v := ?v3z1) ?hy3z1 hS5 ?rest3z1
  case hy3z1 => intro w0 hSw; obtain ⟨a0, a1, a2, a3, _⟩ := hSw; go_simp; first | rfl | rw [if_neg (by omega)]
  simp only [Act.put, List.setIfInBounds_toArray, List.set_cons_zero, List.set_cons_succ]
  refine late_take (i := 4) (some 38) rfl rfl (by kernel_rfl) (by kernel_rfl) (by kernel_rfl) (by kernel_rfl) (by kernel_rfl) (fun _ _ _ h => h) (by rfl) (v := ?v4z1) ?hy4z1 hS5 ?rest4z1
  case hy4z1 => intro w0 hSw; obtain ⟨a0, a1, a2, a3, _⟩ := hSw; go_simp; first | rfl | rw [if_neg (by omega)]
  simp only [Act.put, List.setIfInBounds_toArray, List.set_cons_zero, List.set_cons_succ]
  refine wpAnyD_one (i := 7) (by kernel_rfl) rfl (fun K hK => ?_)
  go_simp
  go_at_call 15
  refine (HTs.out _).mono ?_
  rintro e w6 ⟨rfl, hb⟩
  have HB6 := hid (show Below w.heap.size w w6 ∧ w6.heap[w.heap.size]? = some (.cells #[.int .i64 (n2 : Int), .string T, .int .i64 1, .slice p n c] 26 (0, 0)) from ⟨HB5.out.1.trans (hb.mono HB5.out.1.size), (hb.block _ (lt_of_heap HB5.out.2)).trans HB5.out.2⟩)
  have hS6 := cells4 HB6.out.2
  refine hK _ _ ⟨fun _ => hS6, ?_⟩
  clear hK K hS5 hb
  refine late_take (i := 8) (some 42) rfl rfl (by kernel_rfl) (by kernel_rfl) (by kernel_rfl) (by kernel_rfl) (by kernel_rfl) (fun _ _ _ h => h) (by rfl) (v := ?v8z1) ?hy8z1 hS6 ?rest8z1
  case hy8z1 => intro w0 hSw; obtain ⟨a0, a1, a2, a3, _⟩ := hSw; go_simp; first | rfl | rw [if_neg (by omega)]
  simp only [Act.put, List.setIfInBounds_toArray, List.set_cons_zero, List.set_cons_succ]
  refine late_take (i := 9) (some 43) rfl rfl (by kernel_rfl) (by kernel_rfl) (by kernel_rfl) (by kernel_rfl) (by kernel_rfl) (fun _ _ _ h => h) (by rfl) (v := ?v9z1) ?hy9z1 hS6 ?rest9z1
  case hy9z1 => intro w0 hSw; obtain ⟨a0, a1, a2, a3, _⟩ := hSw; go_simp; first | rfl | rw [if_neg (by omega)]
  simp only [Act.put, List.setIfInBounds_toArray, List.set_cons_zero, List.set_cons_succ]
  refine late_take (i := 12) (some 46) rfl rfl (by kernel_rfl) (by kernel_rfl) (by kernel_rfl) (by kernel_rfl) (by kernel_rfl) (fun _ _ _ h => h) (by rfl) (v := ?v12z1) ?hy12z1 hS6 ?rest12z1
  case hy12z1 => intro w0 hSw; obtain ⟨a0, a1, a2, a3, _⟩ := hSw; go_simp; first | rfl | rw [if_neg (by omega)]
  simp only [Act.put, List.setIfInBounds_toArray, List.set_cons_zero, List.set_cons_succ]
  refine wpAnyD_one (i := 15) (by kernel_rfl) rfl (fun K hK => ?_)
  go_simp
  rw [HFst.out]
  go_at_call 14
  refine (HHd.out _ HB6.out.1).mono ?_
  rintro e w7 ⟨q, x, d, rfl, hx, ho, hb⟩
  have HB7 := hid (show Below w.heap.size w w7 ∧ w7.heap[w.heap.size]? = some (.cells #[.int .i64 (n2 : Int), .string T, .int .i64 1, .slice p n c] 26 (0, 0)) from ⟨HB6.out.1.trans (hb.mono HB6.out.1.size), (hb.block _ (lt_of_heap HB6.out.2)).trans HB6.out.2⟩)
  have hS7 := cells4 HB7.out.2
  have HX := hid hx
  have HO7 := hid (show Own w7 w.heap.size (.slice q x d) _ from own_lower ho HB6.out.1.size)
  obtain ⟨bx, hbx⟩ : ∃ bx, decide (x ≤ 65536) = bx := ⟨_, rfl⟩
  have HBx := hid hbx
  rw [hbx]
  refine hK _ _ ⟨fun _ => hS7, ?_⟩
  clear hK K hS6 hb ho hx hbx
  refine late_take (i := 16) (some 50) rfl rfl (by kernel_rfl) (by kernel_rfl) (by kernel_rfl) (by kernel_rfl) (by kernel_rfl) (fun _ _ _ h => h) (by rfl) (v := ?v16z1) ?hy16z1 hS7 ?rest16z1
  case hy16z1 => intro w0 hSw; obtain ⟨a0, a1, a2, a3, _⟩ := hSw; go_simp; try with_reducible rfl
  simp only [Act.put, List.setIfInBounds_toArray, List.set_cons_zero, List.set_cons_succ]
  refine late_take (i := 17) (some 51) rfl rfl (by kernel_rfl) (by kernel_rfl) (by kernel_rfl) (by kernel_rfl) (by kernel_rfl) (fun _ _ _ h => h) (by rfl) (v := ?v17z1) ?hy17z1 hS7 ?rest17z1
  case hy17z1 => intro w0 hSw; obtain ⟨a0, a1, a2, a3, _⟩ := hSw; go_simp; try with_reducible rfl
  simp only [Act.put, List.setIfInBounds_toArray, List.set_cons_zero, List.set_cons_succ]
  refine late_take (i := 18) (some 2) rfl rfl (by kernel_rfl) (by kernel_rfl) (by kernel_rfl) (by kernel_rfl) (by kernel_rfl) (fun _ _ _ h => h) (by rfl) (v := ?v18z1) ?hy18z1 hS7 ?rest18z1
  case hy18z1 => intro w0 hSw; obtain ⟨a0, a1, a2, a3, _⟩ := hSw; go_simp; try with_reducible rfl
  simp only [Act.put, List.setIfInBounds_toArray, List.set_cons_zero, List.set_cons_succ]
  refine late_take (i := 19) (some 3) rfl rfl (by kernel_rfl) (by kernel_rfl) (by kernel_rfl) (by kernel_rfl) (by kernel_rfl) (fun _ _ _ h => h) (by rfl) (v := ?v19z1) ?hy19z1 hS7 ?rest19z1
  case hy19z1 => intro w0 hSw; obtain ⟨a0, a1, a2, a3, _⟩ := hSw; go_simp; try with_reducible rfl
  simp only [Act.put, List.setIfInBounds_toArray, List.set_cons_zero, List.set_cons_succ]
  refine late_done (by kernel_rfl) ?_ _
  refine NoPanic.normal ?_
  go_wp2
  go_ret2
  exact ⟨q, x, d, by rw [HBx.out]; rfl, HX.out, HO7.out, HB7.out.1⟩
theorem answered_yes (st : Nat) (r : B) (k : Int) (fs : List (B × B)) (p : Option Addr) (n c : Nat) (hn : fs.length = n) (w : World) (hF : FAt w p fs) (hsz : ∀ f ∈ fs, f.1.length ≤ 1048576 ∧ f.2.length ≤ 1048576) (hnn : n ≤ 1048576) (hr : r.length ≤ 1048576) (hok : okP (st : Int) r k fs = true) : Calls Try.prog 7 #[.agg #[.int .i64 (st : Int), .string (str r), .int .i64 k, .slice p n c]] w fun e w' => ∃ q x d, e = .returned (.tuple #[.slice q x d, .bool (decide (x ≤ 65536))]) ∧ x = (headW (firstP (verC k) (told 10 st) r) fs).length ∧ Own w' w.heap.size (.slice q x d) (headW (firstP (verC k) (told 10 st) r) fs) ∧ Below w.heap.size w w' := by
  rcases (okP_parts hok).2.2.1 with rfl | rfl
  · exact answered_yes0 (st : Int) r 0 fs p n c hn w hF hsz hnn hr st rfl rfl hok
  · exact answered_yes1 (st : Int) r 1 fs p n c hn w hF hsz hnn hr st rfl rfl hok
end Go.Proofs.Ytmcglcdpcblckaa
