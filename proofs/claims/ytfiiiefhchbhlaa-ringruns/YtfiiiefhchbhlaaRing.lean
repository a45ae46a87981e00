/- A ring in memory, and the calls of package ring that only read it or move its marks. -/
import Derived.Test.YtfiiiefhchbhlaaProg
import Derived.Test.YtfiiiefhchbhlaaView
import Derived.WalkKit
import Derived.WalkSpells
import Derived.WalkLawsBesides
import Derived.Lib.Strings
import Derived.Deep.QuietTactic
import Derived.BigQuiet
namespace Go.Proofs.Ytfiiiefhchbhlaa
open Go.RowKit

/-- Block r is a ring of size S whose room is block g, which holds L; its first byte stands at F, it has C bytes. -/
structure RingAt (w : World) (r g S F C : Nat) (L : List Int) : Prop where
  ring : w.heap[r]? = some (.cells #[.slice (some ⟨g, 0, none⟩) S S, .int .i64 F, .int .i64 C] 56 (0, 0))
  room : w.heap[g]? = some (.cells (L.map (Value.int .u8)).toArray 5 (0, 0))
  len : L.length = S
  first : F < S
  count : C ≤ S
  most : S ≤ 1048576
  apart : r ≠ g
/-- Of what lay in memory, nothing but the blocks r and g has turned. -/
structure Turn (r g : Nat) (w w' : World) : Prop where
  os : w'.os = w.os
  tape : w'.tape = w.tape
  output : w'.output = w.output
  size : w.heap.size ≤ w'.heap.size
  block : ∀ k, k < w.heap.size → k ≠ r → k ≠ g → w'.heap[k]? = w.heap[k]?

theorem Turn.refl (r g : Nat) (w : World) : Turn r g w w := ⟨rfl, rfl, rfl, Nat.le_refl _, fun _ _ _ _ => rfl⟩
theorem Turn.trans {r g : Nat} {a b c : World} (h : Turn r g a b) (k : Turn r g b c) : Turn r g a c :=
  ⟨k.os.trans h.os, k.tape.trans h.tape, k.output.trans h.output, Nat.le_trans h.size k.size, fun i hi h1 h2 => (k.block i (Nat.lt_of_lt_of_le hi h.size) h1 h2).trans (h.block i hi h1 h2)⟩
theorem Turn.of_below {r g : Nat} {w w' : World} (h : Below w.heap.size w w') : Turn r g w w' := ⟨h.os, h.tape, h.output, h.size, fun k hk _ _ => h.block k hk⟩
theorem Turn.below {r g B : Nat} {w w' : World} (h : Turn r g w w') (hB : B ≤ w.heap.size) (hr : B ≤ r) (hg : B ≤ g) : Below B w w' :=
  ⟨h.os, h.tape, h.output, h.size, fun k hk => h.block k (by omega) (by omega) (by omega)⟩
theorem lt_of_heap {w : World} {k : Nat} {o : Obj} (h : w.heap[k]? = some o) : k < w.heap.size := (Array.getElem?_eq_some_iff.1 h).1
section
variable {w w' : World} {r g S F C : Nat} {L : List Int}
theorem RingAt.c0 (h : RingAt w r g S F C L) : w.cell? ⟨r, 0, none⟩ = some (.slice (some ⟨g, 0, none⟩) S S) := by simp [World.cell?, h.ring]
theorem RingAt.c1 (h : RingAt w r g S F C L) : w.cell? ⟨r, 1, none⟩ = some (.int .i64 F) := by simp [World.cell?, h.ring]
theorem RingAt.c2 (h : RingAt w r g S F C L) : w.cell? ⟨r, 2, none⟩ = some (.int .i64 C) := by simp [World.cell?, h.ring]
theorem RingAt.fz (h : RingAt w r g S F C L) (j : Nat) : w.frozen? ⟨r, j, none⟩ = false := by simp [World.frozen?, h.ring]
theorem RingAt.at (h : RingAt w r g S F C L) (j : Nat) (hj : j < S) : w.cell? ⟨g, j, none⟩ = some (.int .u8 (L.getD j 0)) := by
  have : j < L.length := by rw [h.len]; exact hj
  simp [World.cell?, h.room, List.getD, List.getElem?_eq_getElem this]
theorem RingAt.rlt (h : RingAt w r g S F C L) : r < w.heap.size := lt_of_heap h.ring
theorem RingAt.glt (h : RingAt w r g S F C L) : g < w.heap.size := lt_of_heap h.room
theorem RingAt.of_heap (h : RingAt w r g S F C L) (hr : w'.heap[r]? = w.heap[r]?) (hg : w'.heap[g]? = w.heap[g]?) : RingAt w' r g S F C L :=
  ⟨hr.trans h.ring, hg.trans h.room, h.len, h.first, h.count, h.most, h.apart⟩
theorem RingAt.below (h : RingAt w r g S F C L) (hb : Below w.heap.size w w') : RingAt w' r g S F C L := h.of_heap (hb.block r h.rlt) (hb.block g h.glt)
theorem RingAt.drewN (h : RingAt w r g S F C L) (n : Nat) : RingAt (w.drewN n) r g S F C L := h.of_heap rfl rfl
end
theorem ret_int {k : IntKind} {a b : Int} (h : a = b) : Ending.returned (.int k a) = .returned (.int k b) := by rw [h]

set_option maxHeartbeats 400000 in
theorem len_any {w : World} {r g S F C : Nat} {L : List Int} (h : RingAt w r g S F C L) :
    Calls Try.prog 19 #[.pointer (some ⟨r, 0, none⟩)] w fun e w' => e = .returned (.int .i64 C) ∧ w' = w := by
  have h2 := h.c2
  go_enter Try.func19, Try.ntmps19
  go_wp2
  go_ret
  exact ⟨rfl, rfl⟩
set_option maxHeartbeats 400000 in
theorem len_nil (w : World) : Calls Try.prog 19 #[.pointer none] w fun e w' => e = .returned (.int .i64 0) ∧ w' = w := by
  go_enter Try.func19, Try.ntmps19
  go_wp2
  go_ret
  exact ⟨rfl, rfl⟩
set_option maxHeartbeats 400000 in
theorem size_any {w : World} {r g S F C : Nat} {L : List Int} (h : RingAt w r g S F C L) :
    Calls Try.prog 27 #[.pointer (some ⟨r, 0, none⟩)] w fun e w' => e = .returned (.int .i64 S) ∧ w' = w := by
  have h2 := h.c0
  go_enter Try.func27, Try.ntmps27
  go_wp2
  go_ret
  exact ⟨rfl, rfl⟩
set_option maxHeartbeats 400000 in
theorem room_any {w : World} {r g S F C : Nat} {L : List Int} (h : RingAt w r g S F C L) :
    Calls Try.prog 21 #[.pointer (some ⟨r, 0, none⟩)] w fun e w' => e = .returned (.int .i64 ((S - C : Nat) : Int)) ∧ w' = w := by
  have h2 := h.most
  have h3 := h.count
  go_enter Try.func21, Try.ntmps21
  go_wp2_with (first | (go_at_call 27; refine (size_any h).mono ?_; rintro e w' ⟨rfl, rfl⟩) | (go_at_call 19; refine (len_any h).mono ?_; rintro e w' ⟨rfl, rfl⟩))
  go_ret
  exact ⟨ret_int (by omega), rfl⟩
/-- n held to what is there. -/
def held (n : Int) (C : Nat) : Nat := if n < 0 then 0 else if n ≤ C then n.toNat else C
theorem held_le (n : Int) (C : Nat) : held n C ≤ C := by unfold held; split; omega; split <;> omega
set_option maxHeartbeats 400000 in
theorem within_any {w : World} {r g S F C : Nat} {L : List Int} (h : RingAt w r g S F C L) (n : Int) :
    Calls Try.prog 30 #[.pointer (some ⟨r, 0, none⟩), .int .i64 n] w fun e w' => e = .returned (.int .i64 (held n C)) ∧ w' = w := by
  rcases (by omega : n < 0 ∨ (0 ≤ n ∧ n ≤ C) ∨ (C : Int) < n) with hn | ⟨hn, hm⟩ | hn
  all_goals
    go_enter Try.func30, Try.ntmps30
    go_wp2_with (go_at_call 19; refine (len_any h).mono ?_; rintro e w' ⟨rfl, rfl⟩)
    all_goals
      go_ret
      refine ⟨ret_int ?_, rfl⟩
      unfold held
      (repeat' split) <;> omega
set_option maxHeartbeats 400000 in
theorem spot_any {w : World} {r g S F C : Nat} {L : List Int} (h : RingAt w r g S F C L) (i : Nat) (hi : i ≤ S) :
    Calls Try.prog 29 #[.pointer (some ⟨r, 0, none⟩), .int .i64 i] w fun e w' => e = .returned (.int .i64 (posn S F i)) ∧ w' = w := by
  have h0 := h.c0
  have h1 := h.c1
  have h2 := h.most
  have h3 := h.first
  by_cases hc : F + i < S
  · have hc' : ¬ ((i : Int) + F ≥ S) := by omega
    go_enter Try.func29, Try.ntmps29
    go_wp2
    go_ret
    exact ⟨ret_int (by unfold posn; rw [if_pos hc]; omega), rfl⟩
  · have hc' : ((i : Int) + F ≥ S) := by omega
    go_enter Try.func29, Try.ntmps29
    go_wp2
    go_ret
    exact ⟨ret_int (by unfold posn; rw [if_neg hc]; omega), rfl⟩

/-- The ring's two marks moved. -/
theorem marks (w : World) (r : Nat) (a b c x y : Value) (t : TypeId) (h : w.heap[r]? = some (.cells #[a, b, c] t (0, 0))) :
    ((w.setCell ⟨r, 1, none⟩ x).setCell ⟨r, 2, none⟩ y).heap[r]? = some (.cells #[a, x, y] t (0, 0)) := by
  simp [World.setCell, Array.getElem?_modify, h]
theorem Turn.setCell {r g : Nat} {w w' : World} (h : Turn r g w w') (j : Nat) (x : Value) : Turn r g w (w'.setCell ⟨r, j, none⟩ x) :=
  h.trans ⟨rfl, rfl, rfl, by simp [World.setCell], fun k _ hr _ => Below.heap_setCell _ _ _ _ hr⟩

set_option maxHeartbeats 400000 in
theorem skip_any {w : World} {r g S F C : Nat} {L : List Int} (h : RingAt w r g S F C L) (n : Int) :
    Calls Try.prog 15 #[.pointer (some ⟨r, 0, none⟩), .int .i64 n] w fun e w' => e = .returned (.int .i64 (held n C)) ∧ Turn r g w w' ∧ w'.heap.size = w.heap.size ∧
      ∃ F', RingAt w' r g S F' (C - held n C) L ∧ view L F' (C - held n C) = (view L F C).drop (held n C) := by
  have hk := held_le n C
  have hS := h.most
  have hC := h.count
  obtain ⟨k, HK⟩ : ∃ k, Hid (held n C = k) := ⟨_, rfl⟩
  rw [HK.out] at hk
  by_cases h0 : k = 0
  · subst h0
    go_enter Try.func15, Try.ntmps15
    go_wp2_with (go_at_call 30; refine (within_any h n).mono ?_; rintro e w' ⟨rfl, rfl⟩; rw [HK.out])
    go_ret
    exact ⟨by rw [HK.out]; rfl, Turn.refl _ _ _, rfl, F, by rw [HK.out]; exact h, by rw [HK.out]; rfl⟩
  · have h1 := h.c1
    have h2 := h.c2
    have f1 := h.fz 1
    have f2 := h.fz 2
    have hne : ¬ (k : Int) = 0 := by omega
    go_enter Try.func15, Try.ntmps15
    go_wp2_with (first | (go_at_call 30; refine (within_any h n).mono ?_; rintro e w' ⟨rfl, rfl⟩; rw [HK.out]) | (go_at_call 29; refine (spot_any h k (by omega)).mono ?_; rintro e w' ⟨rfl, rfl⟩))
    go_ret
    refine ⟨by rw [HK.out]; rfl, ((Turn.refl _ _ _).setCell _ _).setCell _ _, by simp [World.setCell], posn S F k, ?_, ?_⟩
    · rw [HK.out]
      refine ⟨?_, ?_, h.len, posn_lt h.first (by omega), by omega, h.most, h.apart⟩
      · rw [marks _ _ _ _ _ _ _ _ h.ring]
        congr 4
        simp; omega
      · rw [Below.heap_setCell _ _ _ _ (fun e => h.apart e.symm), Below.heap_setCell _ _ _ _ (fun e => h.apart e.symm)]; exact h.room
    · rw [HK.out]
      have hl := h.len
      subst hl
      exact view_skip L F C k h.first h.count hk
set_option maxHeartbeats 400000 in
theorem clear_any {w : World} {r g S F C : Nat} {L : List Int} (h : RingAt w r g S F C L) :
    Calls Try.prog 25 #[.pointer (some ⟨r, 0, none⟩)] w fun e w' => e = .returned (.int .i64 C) ∧ Turn r g w w' ∧ w'.heap.size = w.heap.size ∧
      ∃ F', RingAt w' r g S F' 0 L := by
  have hk : held C C = C := by unfold held; (repeat' split) <;> omega
  go_enter Try.func25, Try.ntmps25
  go_wp2_with (first | (go_at_call 19; refine (len_any h).mono ?_; rintro e w' ⟨rfl, rfl⟩) | (go_at_call 15; refine (skip_any h C).mono ?_; rintro e w' ⟨rfl, ht, hz, F', hr, -⟩; rw [hk]; rw [hk] at hr))
  go_ret
  exact ⟨rfl, ht, hz, F', by simpa using hr⟩
end Go.Proofs.Ytfiiiefhchbhlaa
