/- The document's words of a status, and its responses of the gateway. -/
import Derived.Test.YtpcfcpeokkbfmaaDoorWThree
namespace Go.Proofs.YtpcfcpeokkbfmaaDoor
open Go.RowKit

theorem rs_cells {W : World} {g g' : Nat} (h : W.heap[g]? = some (.cells #[.int .i64 200, .int .i64 400, .int .i64 401, .int .i64 403, .int .i64 404, .int .i64 413, .int .i64 417, .int .i64 429, .int .i64 431, .int .i64 502, .int .i64 503, .int .i64 504] 3 (0, 0))) (h' : W.heap[g']? = some (.cells #[.string ⟨#[79, 75]⟩, .string ⟨#[66, 97, 100, 32, 82, 101, 113, 117, 101, 115, 116]⟩, .string ⟨#[85, 110, 97, 117, 116, 104, 111, 114, 105, 122, 101, 100]⟩, .string ⟨#[70, 111, 114, 98, 105, 100, 100, 101, 110]⟩, .string ⟨#[78, 111, 116, 32, 70, 111, 117, 110, 100]⟩, .string ⟨#[67, 111, 110, 116, 101, 110, 116, 32, 84, 111, 111, 32, 76, 97, 114, 103, 101]⟩, .string ⟨#[69, 120, 112, 101, 99, 116, 97, 116, 105, 111, 110, 32, 70, 97, 105, 108, 101, 100]⟩, .string ⟨#[84, 111, 111, 32, 77, 97, 110, 121, 32, 82, 101, 113, 117, 101, 115, 116, 115]⟩, .string ⟨#[82, 101, 113, 117, 101, 115, 116, 32, 72, 101, 97, 100, 101, 114, 32, 70, 105, 101, 108, 100, 115, 32, 84, 111, 111, 32, 76, 97, 114, 103, 101]⟩, .string ⟨#[66, 97, 100, 32, 71, 97, 116, 101, 119, 97, 121]⟩, .string ⟨#[83, 101, 114, 118, 105, 99, 101, 32, 85, 110, 97, 118, 97, 105, 108, 97, 98, 108, 101]⟩, .string ⟨#[71, 97, 116, 101, 119, 97, 121, 32, 84, 105, 109, 101, 111, 117, 116]⟩] 9 (0, 0))) : ∀ i x, reasonT[i]? = some x → W.cell? ⟨g, i, none⟩ = some (.int .i64 x.1) ∧ W.cell? ⟨g', i, none⟩ = some (.string (str x.2)) := by
  intro i x hx
  have hi : i < 12 := (List.getElem?_eq_some_iff.1 hx).1
  have hc : i = 0 ∨ i = 1 ∨ i = 2 ∨ i = 3 ∨ i = 4 ∨ i = 5 ∨ i = 6 ∨ i = 7 ∨ i = 8 ∨ i = 9 ∨ i = 10 ∨ i = 11 := by omega
  rcases hc with rfl | rfl | rfl | rfl | rfl | rfl | rfl | rfl | rfl | rfl | rfl | rfl <;> (cases hx; exact ⟨by simp only [World.cell?, h]; rfl, by simp only [World.cell?, h']; rfl⟩)
theorem reasonL_hit {s : Int} : ∀ (l : List (Int × B)) (i : Nat) (x : Int × B), l[i]? = some x → x.1 = s → (∀ j, j < i → ∀ y, l[j]? = some y → y.1 ≠ s) → reasonL l s = x.2
  | [], i, x, h, _, _ => by simp at h
  | a :: l, 0, x, h, hx, _ => by
    simp at h
    subst h
    rw [reasonL, if_pos hx]
  | a :: l, i + 1, x, h, hx, hno => by
    rw [reasonL, if_neg (hno 0 (by omega) a rfl)]
    exact reasonL_hit l i x (by simpa using h) hx (fun j hj y hy => hno (j + 1) (by omega) y (by simpa using hy))
theorem reasonL_miss {s : Int} : ∀ (l : List (Int × B)), (∀ (j : Nat) (y : Int × B), l[j]? = some y → y.1 ≠ s) → reasonL l s = []
  | [], _ => rfl
  | a :: l, h => by
    rw [reasonL, if_neg (h 0 a rfl)]
    exact reasonL_miss l (fun j y hy => h (j + 1) y (by simpa using hy))
theorem rs_some {i : Nat} (h : i < 12) : ∃ x, reasonT[i]? = some x := ⟨reasonT[i]'h, List.getElem?_eq_getElem h⟩
set_option maxRecDepth 20000 in
set_option maxHeartbeats 8000000 in
theorem rreason_any (s : Int) (w : World) : Calls Tryd.prog 27 #[.int .i64 s] w fun e w' => e = .returned (.string (str (reasonB s))) ∧ Below w.heap.size w w' := by
  obtain ⟨W1, hW1⟩ : ∃ W1, W1 = (w.alloc (.cells #[.int .i64 200, .int .i64 400, .int .i64 401, .int .i64 403, .int .i64 404, .int .i64 413, .int .i64 417, .int .i64 429, .int .i64 431, .int .i64 502, .int .i64 503, .int .i64 504] 3 (0, 0))).alloc (.cells #[.string ⟨#[79, 75]⟩, .string ⟨#[66, 97, 100, 32, 82, 101, 113, 117, 101, 115, 116]⟩, .string ⟨#[85, 110, 97, 117, 116, 104, 111, 114, 105, 122, 101, 100]⟩, .string ⟨#[70, 111, 114, 98, 105, 100, 100, 101, 110]⟩, .string ⟨#[78, 111, 116, 32, 70, 111, 117, 110, 100]⟩, .string ⟨#[67, 111, 110, 116, 101, 110, 116, 32, 84, 111, 111, 32, 76, 97, 114, 103, 101]⟩, .string ⟨#[69, 120, 112, 101, 99, 116, 97, 116, 105, 111, 110, 32, 70, 97, 105, 108, 101, 100]⟩, .string ⟨#[84, 111, 111, 32, 77, 97, 110, 121, 32, 82, 101, 113, 117, 101, 115, 116, 115]⟩, .string ⟨#[82, 101, 113, 117, 101, 115, 116, 32, 72, 101, 97, 100, 101, 114, 32, 70, 105, 101, 108, 100, 115, 32, 84, 111, 111, 32, 76, 97, 114, 103, 101]⟩, .string ⟨#[66, 97, 100, 32, 71, 97, 116, 101, 119, 97, 121]⟩, .string ⟨#[83, 101, 114, 118, 105, 99, 101, 32, 85, 110, 97, 118, 97, 105, 108, 97, 98, 108, 101]⟩, .string ⟨#[71, 97, 116, 101, 119, 97, 121, 32, 84, 105, 109, 101, 111, 117, 116]⟩] 9 (0, 0)) := ⟨_, rfl⟩
  have HW1 := hid hW1
  have HB1 := hid (show Below w.heap.size w W1 from (two_at hW1).2.2)
  have HC := hid (rs_cells (two_at hW1).1 (two_at hW1).2.1)
  clear hW1
  go_enter Tryd.func27, Tryd.ntmps27
  go_wp2
  rw [← HW1.out]
  go_loopg [5] 13 (fun gk s5 wr => ∃ i : Nat, s5 = .int .i64 (i : Int) ∧ i ≤ 12 ∧ gk = 12 - i + 1 ∧ (∀ j, j < i → ∀ y, reasonT[j]? = some y → y.1 ≠ s) ∧ wr = W1)
  case atStart => exact ⟨0, rfl, by omega, rfl, fun j hj => by omega, rfl⟩
  case round =>
    obtain ⟨i, rfl, hin, rfl, hno, rfl⟩ := hrel
    have HNo := hid hno
    clear hno
    by_cases hlt : i < 12
    · obtain ⟨x, hx⟩ := rs_some hlt
      obtain ⟨k0, k1⟩ := HC.out i x hx
      have hltI : (i : Int) < 12 := by omega
      by_cases hs : x.1 = s
      · have HV := hid (show str (reasonB s) = str x.2 from congrArg str (reasonL_hit reasonT i x hx hs HNo.out))
        rw [hs] at k0
        obtain ⟨V, hV⟩ : ∃ V, str x.2 = V := ⟨_, rfl⟩
        rw [hV] at k1 HV
        clear hV hx hs
        go_wp2
        go_ret
        exact ⟨by rw [HV.out]; rfl, HB1.out⟩
      · have hq : (x.1 == s) = false := by simpa using hs
        have HNx := hid (show ∀ j, j < i + 1 → ∀ y, reasonT[j]? = some y → y.1 ≠ s from fun j hj y hy => by
          rcases Nat.lt_or_ge j i with h | h
          · exact HNo.out j h y hy
          · obtain rfl : j = i := by omega
            rw [hx] at hy
            cases hy
            exact hs)
        obtain ⟨N, hN⟩ : ∃ N, x.1 = N := ⟨_, rfl⟩
        rw [hN] at k0 hq
        clear k1 hN hx hs
        go_wp2
        go_roundg (12 - (i + 1) + 1)
        case measure => omega
        case rel => exact ⟨i + 1, by go_num, by omega, rfl, HNx.out, rfl⟩
    · obtain rfl : i = 12 := by omega
      have HV := hid (show reasonB s = [] from reasonL_miss reasonT (fun j y hy => HNo.out j (List.getElem?_eq_some_iff.1 hy).1 y hy))
      go_wp2
      go_ret
      exact ⟨by rw [HV.out]; rfl, HB1.out⟩
theorem resp_back {w W : World} {c0 c1 c2 c3 : Value} (h : RespAt w W c0 c1 c2 c3) : Below w.heap.size w ((((W.setCell ⟨w.heap.size, 0, none⟩ c0).setCell ⟨w.heap.size, 1, none⟩ c1).setCell ⟨w.heap.size, 2, none⟩ c2).setCell ⟨w.heap.size, 3, none⟩ c3) := below_four h.low _ _ _ _
set_option maxRecDepth 20000 in
set_option maxHeartbeats 8000000 in
theorem rlocal_no1 (s k : Int) (last : Bool) (w : World) (h : reasonB s = []) : Calls Tryd.prog 25 #[.int .i64 s, .int .i64 k, .bool last] w fun e w' => e = .returned (.tuple #[.agg respZ, .slice none 0 0, .int .i64 20]) ∧ Below w.heap.size w w' := by
  have HRe := hid (show ∀ w : World, _ from fun w => rreason_any s w)
  have HR0 := hid (show RespAt w (w.alloc (.cells respZ 26 (0, 0))) (.int .i64 0) (.string ⟨#[]⟩) (.int .i64 0) (.slice none 0 0) from ⟨below_new w _, heap_alloc_new w _⟩)
  unfold respZ at HR0
  rw [h] at HRe

  go_enter Tryd.func25, Tryd.ntmps25
  go_wp2_with (go_at_call 27; (with_reducible refine (HRe.out _).mono ?_); rintro e w1 ⟨rfl, hb⟩; have HR1 := hid (HR0.out.next hb); obtain ⟨y0, y1, y2, y3, yz⟩ := cells4 HR1.out.blk; have yz0 := yz 0; have yz1 := yz 1; have yz2 := yz 2; have yz3 := yz 3; clear hb HR0 yz)
  (try simp only [Exit.inBlock, Exit.then])
  refine bodyPost_ret (results_resp3 rfl _ _ _ 26 _ (0, 0) rfl (fourC HR1.out.blk _ _ _ _) rfl) rfl ?_
  exact ⟨rfl, below_four HR1.out.low _ _ _ _⟩
set_option maxRecDepth 20000 in
set_option maxHeartbeats 8000000 in
theorem rlocal_no2 (s k : Int) (last : Bool) (w : World) (h3 : reasonB s ≠ []) (h : s = 200) : Calls Tryd.prog 25 #[.int .i64 s, .int .i64 k, .bool last] w fun e w' => e = .returned (.tuple #[.agg respZ, .slice none 0 0, .int .i64 20]) ∧ Below w.heap.size w w' := by
  have HRe := hid (show ∀ w : World, _ from fun w => rreason_any s w)
  have HR0 := hid (show RespAt w (w.alloc (.cells respZ 26 (0, 0))) (.int .i64 0) (.string ⟨#[]⟩) (.int .i64 0) (.slice none 0 0) from ⟨below_new w _, heap_alloc_new w _⟩)
  unfold respZ at HR0
  obtain ⟨e3, e4⟩ := str_empty h3
  obtain ⟨S, hS⟩ : ∃ S, str (reasonB s) = S := ⟨_, rfl⟩
  rw [hS] at HRe e3 e4
  clear hS h3
  subst h

  go_enter Tryd.func25, Tryd.ntmps25
  go_wp2_with (go_at_call 27; (with_reducible refine (HRe.out _).mono ?_); rintro e w1 ⟨rfl, hb⟩; have HR1 := hid (HR0.out.next hb); obtain ⟨y0, y1, y2, y3, yz⟩ := cells4 HR1.out.blk; have yz0 := yz 0; have yz1 := yz 1; have yz2 := yz 2; have yz3 := yz 3; clear hb HR0 yz)
  (try simp only [Exit.inBlock, Exit.then])
  refine bodyPost_ret (results_resp3 rfl _ _ _ 26 _ (0, 0) rfl (fourC HR1.out.blk _ _ _ _) rfl) rfl ?_
  exact ⟨rfl, below_four HR1.out.low _ _ _ _⟩
set_option maxRecDepth 20000 in
set_option maxHeartbeats 8000000 in
theorem rlocal_no3 (s k : Int) (last : Bool) (w : World) (h3 : reasonB s ≠ []) (h2 : s ≠ 200) (h : k < 0) : Calls Tryd.prog 25 #[.int .i64 s, .int .i64 k, .bool last] w fun e w' => e = .returned (.tuple #[.agg respZ, .slice none 0 0, .int .i64 20]) ∧ Below w.heap.size w w' := by
  have HRe := hid (show ∀ w : World, _ from fun w => rreason_any s w)
  have HR0 := hid (show RespAt w (w.alloc (.cells respZ 26 (0, 0))) (.int .i64 0) (.string ⟨#[]⟩) (.int .i64 0) (.slice none 0 0) from ⟨below_new w _, heap_alloc_new w _⟩)
  unfold respZ at HR0
  obtain ⟨e3, e4⟩ := str_empty h3
  obtain ⟨S, hS⟩ : ∃ S, str (reasonB s) = S := ⟨_, rfl⟩
  rw [hS] at HRe e3 e4
  clear hS h3
  have e2 : (s == 200) = false := by simpa using h2

  go_enter Tryd.func25, Tryd.ntmps25
  go_wp2_with (go_at_call 27; (with_reducible refine (HRe.out _).mono ?_); rintro e w1 ⟨rfl, hb⟩; have HR1 := hid (HR0.out.next hb); obtain ⟨y0, y1, y2, y3, yz⟩ := cells4 HR1.out.blk; have yz0 := yz 0; have yz1 := yz 1; have yz2 := yz 2; have yz3 := yz 3; clear hb HR0 yz)
  (try simp only [Exit.inBlock, Exit.then])
  refine bodyPost_ret (results_resp3 rfl _ _ _ 26 _ (0, 0) rfl (fourC HR1.out.blk _ _ _ _) rfl) rfl ?_
  exact ⟨rfl, below_four HR1.out.low _ _ _ _⟩
set_option maxRecDepth 20000 in
set_option maxHeartbeats 8000000 in
theorem rlocal_no4 (s k : Int) (last : Bool) (w : World) (h3 : reasonB s ≠ []) (h2 : s ≠ 200) (h0 : ¬ k < 0) (h : 1 < k) : Calls Tryd.prog 25 #[.int .i64 s, .int .i64 k, .bool last] w fun e w' => e = .returned (.tuple #[.agg respZ, .slice none 0 0, .int .i64 20]) ∧ Below w.heap.size w w' := by
  have HRe := hid (show ∀ w : World, _ from fun w => rreason_any s w)
  have HR0 := hid (show RespAt w (w.alloc (.cells respZ 26 (0, 0))) (.int .i64 0) (.string ⟨#[]⟩) (.int .i64 0) (.slice none 0 0) from ⟨below_new w _, heap_alloc_new w _⟩)
  unfold respZ at HR0
  obtain ⟨e3, e4⟩ := str_empty h3
  obtain ⟨S, hS⟩ : ∃ S, str (reasonB s) = S := ⟨_, rfl⟩
  rw [hS] at HRe e3 e4
  clear hS h3
  have e2 : (s == 200) = false := by simpa using h2

  go_enter Tryd.func25, Tryd.ntmps25
  go_wp2_with (go_at_call 27; (with_reducible refine (HRe.out _).mono ?_); rintro e w1 ⟨rfl, hb⟩; have HR1 := hid (HR0.out.next hb); obtain ⟨y0, y1, y2, y3, yz⟩ := cells4 HR1.out.blk; have yz0 := yz 0; have yz1 := yz 1; have yz2 := yz 2; have yz3 := yz 3; clear hb HR0 yz)
  (try simp only [Exit.inBlock, Exit.then])
  refine bodyPost_ret (results_resp3 rfl _ _ _ 26 _ (0, 0) rfl (fourC HR1.out.blk _ _ _ _) rfl) rfl ?_
  exact ⟨rfl, below_four HR1.out.low _ _ _ _⟩
theorem rlocal_no (s k : Int) (last : Bool) (w : World) (hl : locB s k = false) : Calls Tryd.prog 25 #[.int .i64 s, .int .i64 k, .bool last] w fun e w' => e = .returned (.tuple #[.agg respZ, .slice none 0 0, .int .i64 20]) ∧ Below w.heap.size w w' := by
  by_cases h3 : reasonB s = []
  · exact rlocal_no1 s k last w h3
  by_cases h2 : s = 200
  · exact rlocal_no2 s k last w h3 h2
  by_cases h0 : k < 0
  · exact rlocal_no3 s k last w h3 h2 h0
  by_cases h1 : 1 < k
  · exact rlocal_no4 s k last w h3 h2 h0 h1
  · exfalso
    unfold locB minB at hl
    rw [decide_eq_true h2, decide_eq_true h3, decide_eq_true (show k = 0 ∨ k = 1 by omega)] at hl
    cases hl
theorem RespAt.set {w W : World} {c0 c1 c2 c3 : Value} {g j : Nat} (h : RespAt w W c0 c1 c2 c3) (hg : g ≠ w.heap.size) (hlo : w.heap.size ≤ g) (v : Value) : RespAt w (W.setCell ⟨g, j, none⟩ v) c0 c1 c2 c3 := by
  refine ⟨Below.setCell h.low hlo _, ?_⟩
  have := (Only.set (Only.refl (fun x => x = g) W) (show (fun x => x = g) g from rfl) (j := j) v).block w.heap.size (lt_of_heap h.blk) (fun e => hg (by have h9 : w.heap.size = g := e; exact h9.symm))
  rw [this]
  exact h.blk
theorem ownF_set1 {w : World} {g N j : Nat} {v : Value} {fs : List (B × B)} {cs : Array Value} {T : TypeId} {fr : Nat × Nat} (h : OwnF w N v fs) (hg : w.heap[g]? = some (.cells cs T fr)) (ht : T ≠ 43) (x : Value) : OwnF (w.setCell ⟨g, j, none⟩ x) N v fs := by
  refine ownF_only h (Only.set (Only.refl (fun k => k = g) w) (show (fun k => k = g) g from rfl) x) (fun k e hk => ?_)
  subst hk
  exact ht (ownF_type h e hg)
set_option maxRecDepth 20000 in
set_option maxHeartbeats 8000000 in
theorem rlocal_yes_false (s k : Int) (w : World) (hl : locB s k = true) : Calls Tryd.prog 25 #[.int .i64 s, .int .i64 k, .bool false] w fun e w' => ∃ p c g d, e = .returned (.tuple #[.agg #[.int .i64 s, .string (str (reasonB s)), .int .i64 k, .slice p 2 c], .slice (some ⟨g, 0, none⟩) (bodyL s).length d, .int .i64 0]) ∧ FAt w' p (fldL s false) ∧ ArgAt w' (some ⟨g, 0, none⟩) (bodyL s) ∧ Below w.heap.size w w' := by
  have HRe := hid (show ∀ w : World, _ from fun w => rreason_any s w)
  have hp : (s ≠ 200 ∧ reasonB s ≠ []) ∧ minB k = true := by
    unfold locB at hl
    simp only [Bool.and_eq_true, decide_eq_true_eq] at hl
    exact hl
  obtain ⟨⟨h2, h3⟩, h4⟩ := hp
  have e2 : (s == 200) = false := by simpa using h2
  obtain ⟨e3, e4⟩ := str_empty h3
  have hk0 : ¬ k < 0 := by have := minB_or h4; omega
  have hk1 : ¬ 1 < k := by have := minB_or h4; omega
  obtain ⟨⟨st, hst, hs1, hs2⟩, hrl⟩ := reason_bounds h3
  have hd3 : (told 10 s.toNat).length = 3 := by rw [hst]; exact told_len3 hs1 hs2
  have HTh := hid (show ∀ W : World, _ from fun W => three_any st hs1 hs2 W)
  rw [show told 10 st = told 10 s.toNat from by rw [hst]; rfl, ← hst] at HTh
  have hbl : (bodyL s).length ≤ 36 := by unfold bodyL; simp [hd3]; omega
  have HTy := hid (show ∀ W : World, _ from fun W => rtext_any (bodyL s).length W (by omega))
  have HBy := hid (show ∀ W : World, _ from fun W => bytes_of (bodyL s) W)
  have HCat := hid (show ((str (told 10 s.toNat) ++ ⟨#[32]⟩) ++ str (reasonB s)) ++ ⟨#[10]⟩ = str (bodyL s) from by
    rw [show (⟨#[32]⟩ : ByteArray) = str [32] from rfl, show (⟨#[10]⟩ : ByteArray) = str [10] from rfl, str_app, str_app, str_app]
    exact congrArg str (by unfold bodyL; simp))
  have hsd : (str (told 10 s.toNat)).size = 3 := by rw [str_size]; exact hd3
  have hsr : (str (reasonB s)).size ≤ 31 := by rw [str_size]; exact hrl
  have HR0 := hid (show RespAt w (w.alloc (.cells respZ 26 (0, 0))) (.int .i64 0) (.string ⟨#[]⟩) (.int .i64 0) (.slice none 0 0) from ⟨below_new w _, heap_alloc_new w _⟩)
  unfold respZ at HR0
  rw [← HCat.out] at HBy
  have HO7 := hid (show ∀ W : World, OwnF (W.alloc (.cells #[.string ⟨#[67, 111, 110, 116, 101, 110, 116, 45, 84, 121, 112, 101]⟩, .string ⟨#[116, 101, 120, 116, 47, 112, 108, 97, 105, 110]⟩, .string ⟨#[67, 111, 110, 116, 101, 110, 116, 45, 76, 101, 110, 103, 116, 104]⟩, .string (str (told 10 (bodyL s).length))] 43 (0, 0))) W.heap.size (.slice (some ⟨W.heap.size, 0, none⟩) 2 2) (fldL s false) from fun W => own_two W (ctB, tpB) (clB, told 10 (bodyL s).length) W.heap.size (Nat.le_refl _))
  obtain ⟨L, hL⟩ : ∃ L, (bodyL s).length = L := ⟨_, rfl⟩
  rw [hL] at HTy HBy HO7 hbl
  rw [hL]
  obtain ⟨Y, hY⟩ : ∃ Y, str (told 10 L) = Y := ⟨_, rfl⟩
  rw [hY] at HTy HO7
  obtain ⟨D, hD⟩ : ∃ D, str (told 10 s.toNat) = D := ⟨_, rfl⟩
  rw [hD] at HTh HBy hsd
  obtain ⟨S, hS⟩ : ∃ S, str (reasonB s) = S := ⟨_, rfl⟩
  rw [hS] at HRe HBy hsr e3 e4
  rw [hS]
  have hcat1 : (D ++ (⟨#[32]⟩ : ByteArray)).size = 4 := by rw [ByteArray.size_append, hsd]; rfl
  have hcat2 : ((D ++ (⟨#[32]⟩ : ByteArray)) ++ S).size = 4 + S.size := by rw [ByteArray.size_append, hcat1]
  clear hl h2 h3 h4 hst hs1 hs2 hrl hd3 hD hS hL hY HCat
  go_enter Tryd.func25, Tryd.ntmps25
  go_wp2_with (first | (go_at_call 27; (with_reducible refine (HRe.out _).mono ?_); rintro e w1 ⟨rfl, hb⟩; have HR1 := hid (HR0.out.next hb); clear hb HR0) | (go_at_call 43; (with_reducible refine (HTh.out _).mono ?_); rintro e w2 ⟨rfl, hb⟩; have HR2 := hid (HR1.out.next hb); clear hb HR1) | (go_at_call 27; (with_reducible refine (HRe.out _).mono ?_); rintro e w3 ⟨rfl, hb⟩; have HR3 := hid (HR2.out.next hb); have HG3 := hid (lt_of_heap HR3.out.blk); obtain ⟨d4, W4, hcv, hA4, hB4, hz4⟩ := HBy.out w3; have HR4 := hid (HR3.out.next hB4); have HA4 := hid hA4; have HZ4 := hid hz4; clear hb HR2 hA4 hB4 hz4) | (go_at_call 27; clear hcv; (with_reducible refine (HRe.out _).mono ?_); rintro e w5 ⟨rfl, hb⟩; have HR5 := hid (HR4.out.next hb); have HA5 := hid (HA4.out.next hb); have HG5 := hid (show w3.heap.size < w5.heap.size from Nat.lt_of_lt_of_le (by rw [HZ4.out]; omega) hb.size); clear hb HR4) | (go_at_call 51; (with_reducible refine (HTy.out _).mono ?_); rintro e w6 ⟨rfl, hb⟩; have HG6 := hid (show w3.heap.size < w6.heap.size from Nat.lt_of_lt_of_le HG5.out hb.size); have HR8 := hid (((HR5.out.next hb).next (below_new w6 (.cells #[.string ⟨#[67, 111, 110, 116, 101, 110, 116, 45, 84, 121, 112, 101]⟩, .string ⟨#[116, 101, 120, 116, 47, 112, 108, 97, 105, 110]⟩, .string ⟨#[67, 111, 110, 116, 101, 110, 116, 45, 76, 101, 110, 103, 116, 104]⟩, .string Y] 43 (0, 0)))).next (below_new (w6.alloc (.cells #[.string ⟨#[67, 111, 110, 116, 101, 110, 116, 45, 84, 121, 112, 101]⟩, .string ⟨#[116, 101, 120, 116, 47, 112, 108, 97, 105, 110]⟩, .string ⟨#[67, 111, 110, 116, 101, 110, 116, 45, 76, 101, 110, 103, 116, 104]⟩, .string Y] 43 (0, 0))) (.cells #[.int .i64 s, .string S, .int .i64 k, .slice (some ⟨w6.heap.size, 0, none⟩) 2 2] 26 (0, 0)))); have HA8 := hid (((HA5.out.next hb).next (below_new w6 (.cells #[.string ⟨#[67, 111, 110, 116, 101, 110, 116, 45, 84, 121, 112, 101]⟩, .string ⟨#[116, 101, 120, 116, 47, 112, 108, 97, 105, 110]⟩, .string ⟨#[67, 111, 110, 116, 101, 110, 116, 45, 76, 101, 110, 103, 116, 104]⟩, .string Y] 43 (0, 0)))).next (below_new (w6.alloc (.cells #[.string ⟨#[67, 111, 110, 116, 101, 110, 116, 45, 84, 121, 112, 101]⟩, .string ⟨#[116, 101, 120, 116, 47, 112, 108, 97, 105, 110]⟩, .string ⟨#[67, 111, 110, 116, 101, 110, 116, 45, 76, 101, 110, 103, 116, 104]⟩, .string Y] 43 (0, 0))) (.cells #[.int .i64 s, .string S, .int .i64 k, .slice (some ⟨w6.heap.size, 0, none⟩) 2 2] 26 (0, 0)))); have HO8 := hid ((HO7.out w6).alloc (.cells #[.int .i64 s, .string S, .int .i64 k, .slice (some ⟨w6.heap.size, 0, none⟩) 2 2] 26 (0, 0))); have HT8 := hid (heap_alloc_new (w6.alloc (.cells #[.string ⟨#[67, 111, 110, 116, 101, 110, 116, 45, 84, 121, 112, 101]⟩, .string ⟨#[116, 101, 120, 116, 47, 112, 108, 97, 105, 110]⟩, .string ⟨#[67, 111, 110, 116, 101, 110, 116, 45, 76, 101, 110, 103, 116, 104]⟩, .string Y] 43 (0, 0))) (.cells #[.int .i64 s, .string S, .int .i64 k, .slice (some ⟨w6.heap.size, 0, none⟩) 2 2] 26 (0, 0))); clear hb HR5; have HRF := HR8; have HAF := HA8; have HOF := HO8; obtain ⟨y0, y1, y2, y3, yz⟩ := cells4 HR8.out.blk; have yz0 := yz 0; have yz1 := yz 1; have yz2 := yz 2; have yz3 := yz 3; clear yz))
  (try simp only [Exit.inBlock, Exit.then])
  refine bodyPost_ret (results_resp3 rfl _ _ _ 26 _ (0, 0) rfl (fourC HRF.out.blk _ _ _ _) rfl) rfl ?_
  refine ⟨_, _, _, _, rfl, (ownF_set4 HOF.out HRF.out.blk resp_ne _ _ _ _).fat, HAF.out.only (only4 (F := fun x => x = w.heap.size) rfl _ _ _ _) (fun a ha _ hf => ?_), below_four HRF.out.low _ _ _ _⟩
  cases ha
  have h9 : w3.heap.size = w.heap.size := hf
  have := HG3.out
  omega
set_option maxRecDepth 20000 in
set_option maxHeartbeats 8000000 in
theorem rlocal_yes_true (s k : Int) (w : World) (hl : locB s k = true) : Calls Tryd.prog 25 #[.int .i64 s, .int .i64 k, .bool true] w fun e w' => ∃ p c g d, e = .returned (.tuple #[.agg #[.int .i64 s, .string (str (reasonB s)), .int .i64 k, .slice p 3 c], .slice (some ⟨g, 0, none⟩) (bodyL s).length d, .int .i64 0]) ∧ FAt w' p (fldL s true) ∧ ArgAt w' (some ⟨g, 0, none⟩) (bodyL s) ∧ Below w.heap.size w w' := by
  have HRe := hid (show ∀ w : World, _ from fun w => rreason_any s w)
  have hp : (s ≠ 200 ∧ reasonB s ≠ []) ∧ minB k = true := by
    unfold locB at hl
    simp only [Bool.and_eq_true, decide_eq_true_eq] at hl
    exact hl
  obtain ⟨⟨h2, h3⟩, h4⟩ := hp
  have e2 : (s == 200) = false := by simpa using h2
  obtain ⟨e3, e4⟩ := str_empty h3
  have hk0 : ¬ k < 0 := by have := minB_or h4; omega
  have hk1 : ¬ 1 < k := by have := minB_or h4; omega
  obtain ⟨⟨st, hst, hs1, hs2⟩, hrl⟩ := reason_bounds h3
  have hd3 : (told 10 s.toNat).length = 3 := by rw [hst]; exact told_len3 hs1 hs2
  have HTh := hid (show ∀ W : World, _ from fun W => three_any st hs1 hs2 W)
  rw [show told 10 st = told 10 s.toNat from by rw [hst]; rfl, ← hst] at HTh
  have hbl : (bodyL s).length ≤ 36 := by unfold bodyL; simp [hd3]; omega
  have HTy := hid (show ∀ W : World, _ from fun W => rtext_any (bodyL s).length W (by omega))
  have HBy := hid (show ∀ W : World, _ from fun W => bytes_of (bodyL s) W)
  have HCat := hid (show ((str (told 10 s.toNat) ++ ⟨#[32]⟩) ++ str (reasonB s)) ++ ⟨#[10]⟩ = str (bodyL s) from by
    rw [show (⟨#[32]⟩ : ByteArray) = str [32] from rfl, show (⟨#[10]⟩ : ByteArray) = str [10] from rfl, str_app, str_app, str_app]
    exact congrArg str (by unfold bodyL; simp))
  have hsd : (str (told 10 s.toNat)).size = 3 := by rw [str_size]; exact hd3
  have hsr : (str (reasonB s)).size ≤ 31 := by rw [str_size]; exact hrl
  have HR0 := hid (show RespAt w (w.alloc (.cells respZ 26 (0, 0))) (.int .i64 0) (.string ⟨#[]⟩) (.int .i64 0) (.slice none 0 0) from ⟨below_new w _, heap_alloc_new w _⟩)
  unfold respZ at HR0
  rw [← HCat.out] at HBy
  have HO7 := hid (show ∀ W : World, OwnF (W.alloc (.cells #[.string ⟨#[67, 111, 110, 116, 101, 110, 116, 45, 84, 121, 112, 101]⟩, .string ⟨#[116, 101, 120, 116, 47, 112, 108, 97, 105, 110]⟩, .string ⟨#[67, 111, 110, 116, 101, 110, 116, 45, 76, 101, 110, 103, 116, 104]⟩, .string (str (told 10 (bodyL s).length))] 43 (0, 0))) W.heap.size (.slice (some ⟨W.heap.size, 0, none⟩) 2 2) (fldL s false) from fun W => own_two W (ctB, tpB) (clB, told 10 (bodyL s).length) W.heap.size (Nat.le_refl _))
  obtain ⟨L, hL⟩ : ∃ L, (bodyL s).length = L := ⟨_, rfl⟩
  rw [hL] at HTy HBy HO7 hbl
  rw [hL]
  obtain ⟨Y, hY⟩ : ∃ Y, str (told 10 L) = Y := ⟨_, rfl⟩
  rw [hY] at HTy HO7
  obtain ⟨D, hD⟩ : ∃ D, str (told 10 s.toNat) = D := ⟨_, rfl⟩
  rw [hD] at HTh HBy hsd
  obtain ⟨S, hS⟩ : ∃ S, str (reasonB s) = S := ⟨_, rfl⟩
  rw [hS] at HRe HBy hsr e3 e4
  rw [hS]
  have hcat1 : (D ++ (⟨#[32]⟩ : ByteArray)).size = 4 := by rw [ByteArray.size_append, hsd]; rfl
  have hcat2 : ((D ++ (⟨#[32]⟩ : ByteArray)) ++ S).size = 4 + S.size := by rw [ByteArray.size_append, hcat1]
  obtain ⟨j0, hj0, hy0, hy1, hy2⟩ := info_parts infoF
  clear hl h2 h3 h4 hst hs1 hs2 hrl hd3 hD hS hL hY HCat
  go_enter Tryd.func25, Tryd.ntmps25
  go_wp2_with (first | (go_at_call 27; (with_reducible refine (HRe.out _).mono ?_); rintro e w1 ⟨rfl, hb⟩; have HR1 := hid (HR0.out.next hb); clear hb HR0) | (go_at_call 43; (with_reducible refine (HTh.out _).mono ?_); rintro e w2 ⟨rfl, hb⟩; have HR2 := hid (HR1.out.next hb); clear hb HR1) | (go_at_call 27; (with_reducible refine (HRe.out _).mono ?_); rintro e w3 ⟨rfl, hb⟩; have HR3 := hid (HR2.out.next hb); have HG3 := hid (lt_of_heap HR3.out.blk); obtain ⟨d4, W4, hcv, hA4, hB4, hz4⟩ := HBy.out w3; have HR4 := hid (HR3.out.next hB4); have HA4 := hid hA4; have HZ4 := hid hz4; clear hb HR2 hA4 hB4 hz4) | (go_at_call 27; clear hcv; (with_reducible refine (HRe.out _).mono ?_); rintro e w5 ⟨rfl, hb⟩; have HR5 := hid (HR4.out.next hb); have HA5 := hid (HA4.out.next hb); have HG5 := hid (show w3.heap.size < w5.heap.size from Nat.lt_of_lt_of_le (by rw [HZ4.out]; omega) hb.size); clear hb HR4) | (go_at_call 51; (with_reducible refine (HTy.out _).mono ?_); rintro e w6 ⟨rfl, hb⟩; have HG6 := hid (show w3.heap.size < w6.heap.size from Nat.lt_of_lt_of_le HG5.out hb.size); have HR8 := hid (((HR5.out.next hb).next (below_new w6 (.cells #[.string ⟨#[67, 111, 110, 116, 101, 110, 116, 45, 84, 121, 112, 101]⟩, .string ⟨#[116, 101, 120, 116, 47, 112, 108, 97, 105, 110]⟩, .string ⟨#[67, 111, 110, 116, 101, 110, 116, 45, 76, 101, 110, 103, 116, 104]⟩, .string Y] 43 (0, 0)))).next (below_new (w6.alloc (.cells #[.string ⟨#[67, 111, 110, 116, 101, 110, 116, 45, 84, 121, 112, 101]⟩, .string ⟨#[116, 101, 120, 116, 47, 112, 108, 97, 105, 110]⟩, .string ⟨#[67, 111, 110, 116, 101, 110, 116, 45, 76, 101, 110, 103, 116, 104]⟩, .string Y] 43 (0, 0))) (.cells #[.int .i64 s, .string S, .int .i64 k, .slice (some ⟨w6.heap.size, 0, none⟩) 2 2] 26 (0, 0)))); have HA8 := hid (((HA5.out.next hb).next (below_new w6 (.cells #[.string ⟨#[67, 111, 110, 116, 101, 110, 116, 45, 84, 121, 112, 101]⟩, .string ⟨#[116, 101, 120, 116, 47, 112, 108, 97, 105, 110]⟩, .string ⟨#[67, 111, 110, 116, 101, 110, 116, 45, 76, 101, 110, 103, 116, 104]⟩, .string Y] 43 (0, 0)))).next (below_new (w6.alloc (.cells #[.string ⟨#[67, 111, 110, 116, 101, 110, 116, 45, 84, 121, 112, 101]⟩, .string ⟨#[116, 101, 120, 116, 47, 112, 108, 97, 105, 110]⟩, .string ⟨#[67, 111, 110, 116, 101, 110, 116, 45, 76, 101, 110, 103, 116, 104]⟩, .string Y] 43 (0, 0))) (.cells #[.int .i64 s, .string S, .int .i64 k, .slice (some ⟨w6.heap.size, 0, none⟩) 2 2] 26 (0, 0)))); have HO8 := hid ((HO7.out w6).alloc (.cells #[.int .i64 s, .string S, .int .i64 k, .slice (some ⟨w6.heap.size, 0, none⟩) 2 2] 26 (0, 0))); have HT8 := hid (heap_alloc_new (w6.alloc (.cells #[.string ⟨#[67, 111, 110, 116, 101, 110, 116, 45, 84, 121, 112, 101]⟩, .string ⟨#[116, 101, 120, 116, 47, 112, 108, 97, 105, 110]⟩, .string ⟨#[67, 111, 110, 116, 101, 110, 116, 45, 76, 101, 110, 103, 116, 104]⟩, .string Y] 43 (0, 0))) (.cells #[.int .i64 s, .string S, .int .i64 k, .slice (some ⟨w6.heap.size, 0, none⟩) 2 2] 26 (0, 0))); clear hb HR5; have HR9 := hid (HR8.out.next (below_new ((w6.alloc (.cells #[.string ⟨#[67, 111, 110, 116, 101, 110, 116, 45, 84, 121, 112, 101]⟩, .string ⟨#[116, 101, 120, 116, 47, 112, 108, 97, 105, 110]⟩, .string ⟨#[67, 111, 110, 116, 101, 110, 116, 45, 76, 101, 110, 103, 116, 104]⟩, .string Y] 43 (0, 0))).alloc (.cells #[.int .i64 s, .string S, .int .i64 k, .slice (some ⟨w6.heap.size, 0, none⟩) 2 2] 26 (0, 0))) (.cells #[.string ⟨#[67, 111, 110, 110, 101, 99, 116, 105, 111, 110]⟩, .string ⟨#[99, 108, 111, 115, 101]⟩] 43 (0, 0)))); have HA9 := hid (HA8.out.next (below_new ((w6.alloc (.cells #[.string ⟨#[67, 111, 110, 116, 101, 110, 116, 45, 84, 121, 112, 101]⟩, .string ⟨#[116, 101, 120, 116, 47, 112, 108, 97, 105, 110]⟩, .string ⟨#[67, 111, 110, 116, 101, 110, 116, 45, 76, 101, 110, 103, 116, 104]⟩, .string Y] 43 (0, 0))).alloc (.cells #[.int .i64 s, .string S, .int .i64 k, .slice (some ⟨w6.heap.size, 0, none⟩) 2 2] 26 (0, 0))) (.cells #[.string ⟨#[67, 111, 110, 110, 101, 99, 116, 105, 111, 110]⟩, .string ⟨#[99, 108, 111, 115, 101]⟩] 43 (0, 0)))); have HO9 := hid (HO8.out.alloc (.cells #[.string ⟨#[67, 111, 110, 110, 101, 99, 116, 105, 111, 110]⟩, .string ⟨#[99, 108, 111, 115, 101]⟩] 43 (0, 0))); have HT9 := hid (((below_new ((w6.alloc (.cells #[.string ⟨#[67, 111, 110, 116, 101, 110, 116, 45, 84, 121, 112, 101]⟩, .string ⟨#[116, 101, 120, 116, 47, 112, 108, 97, 105, 110]⟩, .string ⟨#[67, 111, 110, 116, 101, 110, 116, 45, 76, 101, 110, 103, 116, 104]⟩, .string Y] 43 (0, 0))).alloc (.cells #[.int .i64 s, .string S, .int .i64 k, .slice (some ⟨w6.heap.size, 0, none⟩) 2 2] 26 (0, 0))) (.cells #[.string ⟨#[67, 111, 110, 110, 101, 99, 116, 105, 111, 110]⟩, .string ⟨#[99, 108, 111, 115, 101]⟩] 43 (0, 0))).block _ (lt_of_heap HT8.out)).trans HT8.out); have HC9 := hid (cells_new ((w6.alloc (.cells #[.string ⟨#[67, 111, 110, 116, 101, 110, 116, 45, 84, 121, 112, 101]⟩, .string ⟨#[116, 101, 120, 116, 47, 112, 108, 97, 105, 110]⟩, .string ⟨#[67, 111, 110, 116, 101, 110, 116, 45, 76, 101, 110, 103, 116, 104]⟩, .string Y] 43 (0, 0))).alloc (.cells #[.int .i64 s, .string S, .int .i64 k, .slice (some ⟨w6.heap.size, 0, none⟩) 2 2] 26 (0, 0))) (fldC [(cnB, coB)]) 43); have HZ7 := hid (show (w6.alloc (.cells #[.string ⟨#[67, 111, 110, 116, 101, 110, 116, 45, 84, 121, 112, 101]⟩, .string ⟨#[116, 101, 120, 116, 47, 112, 108, 97, 105, 110]⟩, .string ⟨#[67, 111, 110, 116, 101, 110, 116, 45, 76, 101, 110, 103, 116, 104]⟩, .string Y] 43 (0, 0))).heap.size = w6.heap.size + 1 from by simp); have HZ8 := hid (show ((w6.alloc (.cells #[.string ⟨#[67, 111, 110, 116, 101, 110, 116, 45, 84, 121, 112, 101]⟩, .string ⟨#[116, 101, 120, 116, 47, 112, 108, 97, 105, 110]⟩, .string ⟨#[67, 111, 110, 116, 101, 110, 116, 45, 76, 101, 110, 103, 116, 104]⟩, .string Y] 43 (0, 0))).alloc (.cells #[.int .i64 s, .string S, .int .i64 k, .slice (some ⟨w6.heap.size, 0, none⟩) 2 2] 26 (0, 0))).heap.size = w6.heap.size + 1 + 1 from by simp); have HZ9 := hid (show (((w6.alloc (.cells #[.string ⟨#[67, 111, 110, 116, 101, 110, 116, 45, 84, 121, 112, 101]⟩, .string ⟨#[116, 101, 120, 116, 47, 112, 108, 97, 105, 110]⟩, .string ⟨#[67, 111, 110, 116, 101, 110, 116, 45, 76, 101, 110, 103, 116, 104]⟩, .string Y] 43 (0, 0))).alloc (.cells #[.int .i64 s, .string S, .int .i64 k, .slice (some ⟨w6.heap.size, 0, none⟩) 2 2] 26 (0, 0))).alloc (.cells #[.string ⟨#[67, 111, 110, 110, 101, 99, 116, 105, 111, 110]⟩, .string ⟨#[99, 108, 111, 115, 101]⟩] 43 (0, 0))).heap.size = w6.heap.size + 1 + 1 + 1 from by simp)) | (at_builtin; refine wpList_append_own_at _ rfl (.tmp 48) (.tmp 50) 22 rfl w6.heap.size 43 j0 _ 2 32 Tryd.underlying22 hj0 hy0 hy1 hy2 rfl (by decide) (.slice (some ⟨w6.heap.size, 0, none⟩) 2 2) 2 (fldC (fldL s false)) (by go_simp) (HO9.out) ⟨w6.heap.size + 1 + 1, 0, none⟩ 1 1 (fldC [(cnB, coB)]) (by go_simp) rfl (by have h8 := HC9.out; rw [HZ8.out] at h8; exact h8) (by simp [fldC, Value.oneCell']) (by unfold maxLen; decide) (by decide) (by rw [HZ9.out]; omega) ?_; intro v' w10 hown hgr _ _; have HB10 := hid (OwnF.below HO9.out (by rw [HZ9.out]; omega) hgr); have HRF := hid (HR9.out.next2 (Nat.lt_trans HG3.out HG6.out) HB10.out); have HAF := hid (argAt_low HA9.out HB10.out HG6.out); have HTF := hid (show w10.heap[w6.heap.size + 1]? = some (.cells #[.int .i64 s, .string S, .int .i64 k, .slice (some ⟨w6.heap.size, 0, none⟩) 2 2] 26 (0, 0)) from by have h8 := HT9.out; rw [HZ7.out] at h8; exact (hgr.block _ (lt_of_heap h8) (fun e => by have h9 := Option.some.inj (show some (w6.heap.size + 1) = some w6.heap.size from e); omega)).trans h8); obtain ⟨p7, c7, rfl⟩ := own_slice hown; have HOF := hid (show OwnF w10 w6.heap.size (.slice p7 3 c7) (fldL s true) from hown); have HRG := hid (RespAt.set (j := 3) HRF.out (show w6.heap.size + 1 ≠ w.heap.size from by have := HG3.out; have := HG6.out; omega) (show w.heap.size ≤ w6.heap.size + 1 from by have := HG3.out; have := HG6.out; omega) (.slice p7 3 c7)); obtain ⟨y0, y1, y2, y3, yz⟩ := cells4 HRG.out.blk; have yz0 := yz 0; have yz1 := yz 1; have yz2 := yz 2; have yz3 := yz 3; obtain ⟨x0, x1, x2, x3, xz⟩ := cells4 HTF.out; have xz3 := xz 3; clear hown hgr yz xz))
  (try simp only [Exit.inBlock, Exit.then])
  refine bodyPost_ret (results_resp3 rfl _ _ _ 26 _ (0, 0) rfl (fourC HRG.out.blk _ _ _ _) rfl) rfl ?_
  refine ⟨_, _, _, _, rfl, (ownF_set4 (ownF_set1 HOF.out HTF.out resp_ne _) HRG.out.blk resp_ne _ _ _ _).fat, (HAF.out.only (Only.set (Only.refl (fun x => x = w6.heap.size + 1) w10) rfl _) (fun a ha _ hf => ?_)).only (only4 (F := fun x => x = w.heap.size) rfl _ _ _ _) (fun a ha _ hf => ?_), below_four HRG.out.low _ _ _ _⟩
  · cases ha
    have h9 : w3.heap.size = w6.heap.size + 1 := hf
    have := HG6.out
    omega
  · cases ha
    have h9 : w3.heap.size = w.heap.size := hf
    have := HG3.out
    omega
end Go.Proofs.YtpcfcpeokkbfmaaDoor
