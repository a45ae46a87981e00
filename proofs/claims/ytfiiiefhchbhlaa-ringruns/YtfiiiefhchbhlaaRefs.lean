/- The document's answers for a ring: New, At, Index, Read, Write. -/
import Derived.Test.YtfiiiefhchbhlaaArgs
import Derived.Test.YtfiiiefhchbhlaaOrder
namespace Go.Proofs.Ytfiiiefhchbhlaa
open Go.RowKit

set_option maxHeartbeats 400000 in
theorem refNew_any (S : Nat) (w : World) (h1 : 1 ≤ S) (h2 : S ≤ 1048576) :
    Calls Try.prog 7 #[.int .i64 S] w fun e w' => e = .returned (.tuple #[.agg #[.int .i64 S, .slice none 0 0], .int .i64 0]) ∧ Below w.heap.size w w' := by
  have h1' : ¬ (S : Int) < 1 := by omega
  have h2' : ¬ (S : Int) > 1048576 := by omega
  go_enter Try.func7, Try.ntmps7
  go_wp2
  exact bodyPost_ret (v := .tuple #[.agg #[.int .i64 S, .slice none 0 0], .int .i64 0]) (by simp [results, go_sem]) rfl ⟨rfl, (Below.refl _ _).alloc (Nat.le_refl _) _⟩
set_option maxHeartbeats 400000 in
theorem refNew_no (n : Int) (w : World) (hn : n < 1 ∨ 1048576 < n) :
    Calls Try.prog 7 #[.int .i64 n] w fun e w' => e = .returned (.tuple #[.agg #[.int .i64 0, .slice none 0 0], .int .i64 1]) ∧ Below w.heap.size w w' := by
  rcases hn with hn | hn
  · go_enter Try.func7, Try.ntmps7
    go_wp2
    exact bodyPost_ret (v := .tuple #[.agg #[.int .i64 0, .slice none 0 0], .int .i64 1]) (by simp [results, go_sem]) rfl ⟨rfl, (Below.refl _ _).alloc (Nat.le_refl _) _⟩
  · have hn' : ¬ n < 1 := by omega
    go_enter Try.func7, Try.ntmps7
    go_wp2
    exact bodyPost_ret (v := .tuple #[.agg #[.int .i64 0, .slice none 0 0], .int .i64 1]) (by simp [results, go_sem]) rfl ⟨rfl, (Below.refl _ _).alloc (Nat.le_refl _) _⟩
/-- The bytes of a slice, its address told. -/
theorem ArgAt.form {w : World} {v : Value} {bs : List Int} (h : ArgAt w v bs) : ∃ pv c, v = .slice pv bs.length c ∧ bs.length ≤ c ∧ c ≤ maxLen ∧ ∀ j, j < bs.length → ∃ b o, pv = some ⟨b, o, none⟩ ∧ b < w.heap.size ∧ w.cell? ⟨b, o + j, none⟩ = some (.int .u8 (bs.getD j 0)) := by
  rcases h with ⟨rfl, rfl⟩ | ⟨b, o, cap, h1, rfl, h3, h4, h5⟩
  · exact ⟨none, 0, rfl, Nat.le_refl _, Nat.zero_le _, fun j hj => by simp at hj⟩
  · exact ⟨_, cap, rfl, h3, h4, fun j hj => ⟨b, o, rfl, h1, h5 j _ (by simp [List.getD, List.getElem?_eq_getElem hj])⟩⟩
def atV (q : List Int) (i : Int) : Int := if 0 ≤ i ∧ i < q.length then q.getD i.toNat 0 else 0
def atB (q : List Int) (i : Int) : Bool := decide (0 ≤ i ∧ i < q.length)
set_option maxHeartbeats 400000 in
theorem refAt_any (S : Int) {v : Value} {q : List Int} (i : Int) (w : World) (hv : ArgAt w v q) :
    Calls Try.prog 26 #[.agg #[.int .i64 S, v], .int .i64 i] w fun e w' => e = .returned (.tuple #[.int .u8 (atV q i), .bool (atB q i)]) ∧ Below w.heap.size w w' := by
  obtain ⟨pv, c, rfl, hc, hm, hcell⟩ := hv.form
  obtain ⟨N, HN⟩ : ∃ N, Hid (q.length = N) := ⟨_, rfl⟩
  rw [HN.out] at hc hcell ⊢
  unfold maxLen at hm
  have HB : Hid (∀ o, Below w.heap.size w (w.alloc o)) := fun o => (Below.refl _ _).alloc (Nat.le_refl _) o
  rcases (by omega : i < 0 ∨ (N : Int) ≤ i ∧ ¬ i < 0 ∨ (0 ≤ i ∧ i < N)) with hi | ⟨hi, hi2⟩ | ⟨hi, hi2⟩
  · have e1 : atV q i = 0 := by unfold atV; rw [if_neg (by omega)]
    have e2 : atB q i = false := by unfold atB; simp; omega
    rw [e1, e2]
    clear hcell
    go_enter Try.func26, Try.ntmps26
    go_wp2
    go_ret2
    exact ⟨rfl, HB.out _⟩
  · have e1 : atV q i = 0 := by unfold atV; rw [HN.out, if_neg (by omega)]
    have e2 : atB q i = false := by unfold atB; rw [HN.out]; simp; omega
    rw [e1, e2]
    clear hcell
    go_enter Try.func26, Try.ntmps26
    go_wp2
    go_ret2
    exact ⟨rfl, HB.out _⟩
  · obtain ⟨j, rfl⟩ : ∃ j : Nat, i = j := ⟨i.toNat, by omega⟩
    obtain ⟨b, o, rfl, hb, hx⟩ := hcell j (by omega)
    have e1 : atV q j = q.getD j 0 := by unfold atV; rw [HN.out, if_pos ⟨by omega, hi2⟩]; simp
    have e2 : atB q j = true := by unfold atB; rw [HN.out]; simp; omega
    rw [e1, e2]
    obtain ⟨x, HX⟩ : ∃ x, Hid (q.getD j 0 = x) := ⟨_, rfl⟩
    rw [HX.out] at hx ⊢
    have hx' : ∀ ob, (w.alloc ob).cell? ⟨b, o + j, none⟩ = some (.int .u8 x) := fun ob => ((HB.out ob).cell (p := ⟨b, o + j, none⟩) hb).trans hx
    clear hcell e1 e2 hx
    go_enter Try.func26, Try.ntmps26
    go_wp2
    go_ret2
    exact ⟨rfl, HB.out _⟩

set_option maxHeartbeats 1000000 in
theorem refIndex_nat (S : Int) {v : Value} {q : List Int} (c : Int) (f : Nat) (w : World) (hv : ArgAt w v q) (hq : q.length ≤ 1048576) (hf : (f : Int) ≤ 9223372036854775807) (R : Int) (hR : R = idx c f (q.drop f)) :
    Calls Try.prog 28 #[.agg #[.int .i64 S, v], .int .u8 c, .int .i64 f] w fun e w' => e = .returned (.int .i64 R) ∧ Below w.heap.size w w' := by
  obtain ⟨pv, cp, rfl, hc, hm, hcell⟩ := hv.form
  obtain ⟨N, HN⟩ : ∃ N, Hid (q.length = N) := ⟨_, rfl⟩
  rw [HN.out] at hc hcell hq ⊢
  unfold maxLen at hm
  have HB : Hid (∀ o, Below w.heap.size w (w.alloc o)) := fun o => (Below.refl _ _).alloc (Nat.le_refl _) o
  have HC := hid hcell
  have HR := hid hR
  have hf0 : (0 : Int) ≤ f := by omega
  clear hv hcell hR
  go_enter Try.func28, Try.ntmps28
  go_wp2
  go_loop [7] (fun i => ∃ k : Nat, i = .int .i64 k ∧ R = idx c k (q.drop k) ∧ (k : Int) ≤ 9223372036854775807) (fun i => N - (intOf i).toNat)
  case atStart => exact ⟨f, rfl, HR.out, hf⟩
  case round =>
    obtain ⟨k, rfl, hk, hk2⟩ := hrel
    have HK := hid hk
    clear hk
    by_cases hlt : k < N
    · obtain ⟨b, o, rfl, hb, hx⟩ := HC.out k hlt
      have hlt' : (k : Int) < N := by omega
      obtain ⟨x, HX⟩ : ∃ x, Hid (q.getD k 0 = x) := ⟨_, rfl⟩
      rw [HX.out] at hx
      have hx' : ∀ ob, (w.alloc ob).cell? ⟨b, o + k, none⟩ = some (.int .u8 x) := fun ob => ((HB.out ob).cell (p := ⟨b, o + k, none⟩) hb).trans hx
      clear hx
      by_cases hxc : x = c
      · have hbe : (x == c) = true := by simpa using hxc
        have HXC := hid hxc
        clear hxc
        go_wp2
        go_ret
        exact ⟨ret_int (by rw [HK.out, idx_hit c q k (by rw [HN.out]; exact hlt) (by rw [HX.out]; exact HXC.out)]), HB.out _⟩
      · have hbe : (x == c) = false := by simpa using hxc
        have HXC := hid hxc
        clear hxc
        go_wp2
        go_round
        case rel => exact ⟨k + 1, by go_num, by rw [HK.out, idx_miss c q k (by rw [HN.out]; exact hlt) (by rw [HX.out]; exact HXC.out)], by omega⟩
        case measure => simp [intOf]; omega
    · have hlt' : ¬ (k : Int) < N := by omega
      go_wp2
      go_ret
      exact ⟨ret_int (by rw [HK.out, idx_end c q k (by rw [HN.out]; omega)]), HB.out _⟩
set_option maxHeartbeats 1000000 in
theorem refIndex_neg (S : Int) {v : Value} {q : List Int} (c : Int) (n : Int) (hn : n < 0) (w : World) (hv : ArgAt w v q) (hq : q.length ≤ 1048576) (R : Int) (hR : R = idx c 0 (q.drop 0)) :
    Calls Try.prog 28 #[.agg #[.int .i64 S, v], .int .u8 c,   .int .i64 n] w fun e w' => e = .returned (.int .i64 R) ∧ Below w.heap.size w w' := by
  obtain ⟨pv, cp, rfl, hc, hm, hcell⟩ := hv.form
  obtain ⟨N, HN⟩ : ∃ N, Hid (q.length = N) := ⟨_, rfl⟩
  rw [HN.out] at hc hcell hq ⊢
  unfold maxLen at hm
  have HB : Hid (∀ o, Below w.heap.size w (w.alloc o)) := fun o => (Below.refl _ _).alloc (Nat.le_refl _) o
  have HC := hid hcell
  have HR := hid hR
  have hn0 : ¬ 0 < n := by omega
  clear hv hcell hR
  go_enter Try.func28, Try.ntmps28
  go_wp2
  go_loop [7] (fun i => ∃ k : Nat, i = .int .i64 k ∧ R = idx c k (q.drop k) ∧ (k : Int) ≤ 9223372036854775807) (fun i => N - (intOf i).toNat)
  case atStart => exact ⟨0, rfl, HR.out, by omega⟩
  case round =>
    obtain ⟨k, rfl, hk, hk2⟩ := hrel
    have HK := hid hk
    clear hk
    by_cases hlt : k < N
    · obtain ⟨b, o, rfl, hb, hx⟩ := HC.out k hlt
      have hlt' : (k : Int) < N := by omega
      obtain ⟨x, HX⟩ : ∃ x, Hid (q.getD k 0 = x) := ⟨_, rfl⟩
      rw [HX.out] at hx
      have hx' : ∀ ob, (w.alloc ob).cell? ⟨b, o + k, none⟩ = some (.int .u8 x) := fun ob => ((HB.out ob).cell (p := ⟨b, o + k, none⟩) hb).trans hx
      clear hx
      by_cases hxc : x = c
      · have hbe : (x == c) = true := by simpa using hxc
        have HXC := hid hxc
        clear hxc
        go_wp2
        go_ret
        exact ⟨ret_int (by rw [HK.out, idx_hit c q k (by rw [HN.out]; exact hlt) (by rw [HX.out]; exact HXC.out)]), HB.out _⟩
      · have hbe : (x == c) = false := by simpa using hxc
        have HXC := hid hxc
        clear hxc
        go_wp2
        go_round
        case rel => exact ⟨k + 1, by go_num, by rw [HK.out, idx_miss c q k (by rw [HN.out]; exact hlt) (by rw [HX.out]; exact HXC.out)], by omega⟩
        case measure => simp [intOf]; omega
    · have hlt' : ¬ (k : Int) < N := by omega
      go_wp2
      go_ret
      exact ⟨ret_int (by rw [HK.out, idx_end c q k (by rw [HN.out]; omega)]), HB.out _⟩
theorem refIndex_any (S : Int) {v : Value} {q : List Int} (c n : Int) (w : World) (hv : ArgAt w v q) (hq : q.length ≤ 1048576) (hn : n ≤ 9223372036854775807) :
    Calls Try.prog 28 #[.agg #[.int .i64 S, v], .int .u8 c, .int .i64 n] w fun e w' => e = .returned (.int .i64 (idxFrom c q n)) ∧ Below w.heap.size w w' := by
  by_cases h : n < 0
  · exact refIndex_neg S c n h w hv hq _ (by unfold idxFrom; rw [show n.toNat = 0 by omega])
  · obtain ⟨f, rfl⟩ : ∃ f : Nat, n = f := ⟨n.toNat, by omega⟩
    exact refIndex_nat S c f w hv hq hn _ (by unfold idxFrom; rw [Int.toNat_natCast])
theorem ArgAt.take {w : World} {pv : Option Addr} {N c : Nat} {q : List Int} (h : ArgAt w (.slice pv N c) q) (hN : q.length = N) (k : Nat) (hk : k ≤ N) : ArgAt w (.slice pv k c) (q.take k) := by
  have hl : (q.take k).length = k := by simp; omega
  rcases h with ⟨h1, rfl⟩ | ⟨b, o, cap, h1, h2, h3, h4, h5⟩
  · simp only [Value.slice.injEq] at h1
    obtain ⟨rfl, rfl, rfl⟩ := h1
    obtain rfl : k = 0 := by omega
    exact .inl ⟨rfl, rfl⟩
  · simp only [Value.slice.injEq] at h2
    obtain ⟨rfl, h6, rfl⟩ := h2
    exact .inr ⟨b, o, c, h1, by rw [hl], by omega, h4, h5.take k⟩
end Go.Proofs.Ytfiiiefhchbhlaa
