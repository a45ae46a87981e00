/- The program's reader of bodies: a fresh one. -/
import Derived.Test.YtnlmjlfoeodleaaGreatDoorBMem
import Derived.Test.YtnlmjlfoeodleaaGreatDoorKCut
namespace Go.Proofs.YtnlmjlfoeodleaaGreatDoor
open Go.RowKit

/-- A fresh block. -/
structure Fresh6 (w w' : World) (C : Array Value) : Prop where
  blk : w'.heap[w.heap.size + 1]? = some (.cells C 82 (0, 0))
  below : Below w.heap.size w w'
  size : w'.heap.size = w.heap.size + 2
theorem fresh6 (w : World) (o : Obj) (C : Array Value) : Fresh6 w ((w.alloc o).alloc (.cells C 82 (0, 0))) C := by
  have h := heap_alloc_new (w.alloc o) (.cells C 82 (0, 0))
  have hs : (w.alloc o).heap.size = w.heap.size + 1 := by simp
  rw [hs] at h
  exact ⟨h, below_out (below_new w o) (below_new _ _), by simp⟩
set_option maxRecDepth 20000 in
set_option maxHeartbeats 8000000 in
theorem begin_1 (N M : Int) (w : World) (z : Bool) (hz : (N == 0) = z) : Calls Tryz.prog 28 #[.agg #[.int .i64 1, .int .i64 N], .int .i64 M] w fun e w' => e = .returned (.tuple #[.pointer (some ⟨w.heap.size + 1, 0, none⟩), .nilIface]) ∧ Fresh6 w w' #[.int .i64 1, .int .i64 N, .pointer none, .int .i64 0, .bool z, .nilIface] := by
  have HF := hid (fun o => fresh6 w o #[.int .i64 1, .int .i64 N, .pointer none, .int .i64 0, .bool z, .nilIface])
  go_enter Tryz.func28, Tryz.ntmps28
  go_wp2
  go_ret2
  exact ⟨rfl, HF.out _⟩
set_option maxRecDepth 20000 in
set_option maxHeartbeats 8000000 in
theorem begin_3 (N M : Int) (w : World) : Calls Tryz.prog 28 #[.agg #[.int .i64 3, .int .i64 N], .int .i64 M] w fun e w' => e = .returned (.tuple #[.pointer (some ⟨w.heap.size + 1, 0, none⟩), .nilIface]) ∧ Fresh6 w w' #[.int .i64 3, .int .i64 M, .pointer none, .int .i64 0, .bool false, .nilIface] := by
  have HF := hid (fun o => fresh6 w o #[.int .i64 3, .int .i64 M, .pointer none, .int .i64 0, .bool false, .nilIface])
  go_enter Tryz.func28, Tryz.ntmps28
  go_wp2
  go_ret2
  exact ⟨rfl, HF.out _⟩
set_option maxRecDepth 20000 in
set_option maxHeartbeats 8000000 in
theorem begin_0 (N M : Int) (w : World) : Calls Tryz.prog 28 #[.agg #[.int .i64 0, .int .i64 N], .int .i64 M] w fun e w' => e = .returned (.tuple #[.pointer (some ⟨w.heap.size + 1, 0, none⟩), .nilIface]) ∧ Fresh6 w w' #[.int .i64 0, .int .i64 0, .pointer none, .int .i64 0, .bool true, .nilIface] := by
  have HF := hid (fun o => fresh6 w o #[.int .i64 0, .int .i64 0, .pointer none, .int .i64 0, .bool true, .nilIface])
  go_enter Tryz.func28, Tryz.ntmps28
  go_wp2
  go_ret2
  exact ⟨rfl, HF.out _⟩
/-- A fresh reader of chunks, and its block. -/
structure FreshK (w w' : World) (m : Nat) : Prop where
  blk : w'.heap[w.heap.size + 2]? = some (.cells #[.int .i64 2, .int .i64 0, .pointer (some ⟨w.heap.size + 1, 0, none⟩), .int .i64 0, .bool false, .nilIface] 82 (0, 0))
  rd : RdAt (fun k => k = w.heap.size + 1) w' (w.heap.size + 1) (newK m)
  below : Below w.heap.size w w'
  size : w'.heap.size = w.heap.size + 3
theorem freshK {w w1 w2 : World} {m : Nat} (h1 : w1.heap.size = w.heap.size + 1) (hb1 : Below w.heap.size w w1) (hr : RdAt (fun k => k = w1.heap.size) w2 w1.heap.size (newK m)) (hb2 : Below w1.heap.size w1 w2) (h2 : w2.heap.size = w1.heap.size + 1) : FreshK w (w2.alloc (.cells #[.int .i64 2, .int .i64 0, .pointer (some ⟨w.heap.size + 1, 0, none⟩), .int .i64 0, .bool false, .nilIface] 82 (0, 0))) m := by
  have h := heap_alloc_new w2 (.cells #[.int .i64 2, .int .i64 0, .pointer (some ⟨w.heap.size + 1, 0, none⟩), .int .i64 0, .bool false, .nilIface] 82 (0, 0))
  rw [h2, h1] at h
  rw [h1] at hr
  exact ⟨h, hr.next (below_new _ _), below_out (below_out hb1 hb2) (below_new _ _), by simp; omega⟩
set_option maxRecDepth 20000 in
set_option maxHeartbeats 8000000 in
theorem begin_2 (N : Int) (M : Nat) (w : World) : Calls Tryz.prog 28 #[.agg #[.int .i64 2, .int .i64 N], .int .i64 (M : Int)] w fun e w' => e = .returned (.tuple #[.pointer (some ⟨w.heap.size + 2, 0, none⟩), .nilIface]) ∧ FreshK w w' (min M 1099511627776) := by
  have hJ : ((min M 1099511627776 : Nat) : Int) = min (M : Int) 1099511627776 := by omega
  have hnw := fun W => new_yes (min M 1099511627776) W (by omega)
  simp only [hJ] at hnw
  have HNw := hid hnw
  have HO := hid (show ∀ o : Obj, (w.alloc o).heap.size = w.heap.size + 1 ∧ Below w.heap.size w (w.alloc o) from fun o => ⟨by simp, below_new w o⟩)
  have HX0 := hid (heap_alloc_new w (frmO 2 N))
  clear hnw hJ
  go_enter Tryz.func28, Tryz.ntmps28
  go_wp2_with (go_at_call 65; (with_reducible refine (HNw.out _).mono ?_); rintro e w2 ⟨rfl, hr, hb, hs⟩; have HFr := hid (freshK (HO.out _).1 (HO.out _).2 hr hb hs); have HS2 := hid hs; obtain ⟨y0, y1, _, _⟩ := cells2 (blk_next HX0.out hb); clear hr hb hs)
  go_ret2
  refine ⟨?_, HFr.out⟩
  rw [HS2.out]
  simp
theorem errI (k : Nat) (h : k ≠ 0) : (.iface 72 (.int .i64 (k : Int)) : Value) = errOf k := (errOf_pos h).symm
/-- What New answers. -/
def NewAns (K N m : Int) (w : World) (e : Ending) (w' : World) : Prop :=
  (newE K N m ≠ 0 ∧ e = .returned (.tuple #[.pointer none, errOf (newE K N m)]) ∧ Below w.heap.size w w') ∨
  (newE K N m = 0 ∧ ∃ g cp, e = .returned (.tuple #[.pointer (some ⟨g, 0, none⟩), .nilIface]) ∧ BdAt (fun k => w.heap.size ≤ k ∧ k < w'.heap.size) w' g (newX K N m) cp ∧ Below w.heap.size w w')
theorem bd_fresh {w w1 w' : World} {C : Array Value} {s : BS} (h : Fresh6 w1 w' C) (hb : Below w.heap.size w w1) (hC : C = bdC s none) (hk : s.kind ≠ 2) : BdAt (fun k => w.heap.size ≤ k ∧ k < w'.heap.size) w' (w1.heap.size + 1) s none := by
  have hs := hb.size
  have h2 := h.size
  refine ⟨by rw [← hC]; exact h.blk, ⟨by omega, by omega⟩, .inr ⟨hk, rfl⟩⟩
theorem bd_freshK {w w1 w' : World} {s : BS} {m : Nat} (h : FreshK w1 w' m) (hb : Below w.heap.size w w1) (hs : s = ⟨2, 0, 0, false, 0, newK m⟩) : BdAt (fun k => w.heap.size ≤ k ∧ k < w'.heap.size) w' (w1.heap.size + 2) s (some ⟨w1.heap.size + 1, 0, none⟩) := by
  have hz := hb.size
  have h2 := h.size
  subst hs
  refine ⟨h.blk, ⟨by omega, by omega⟩, .inl ⟨rfl, _, _, rfl, h.rd, fun k hk => ?_⟩⟩
  have hk : k = w1.heap.size + 1 := hk
  omega
def begX (K N : Int) (M : Nat) : BS := ⟨K.toNat, if K = 1 then N.toNat else if K = 3 then M else 0, 0, decide (K = 0 ∨ (K = 1 ∧ N = 0)), 0, newK (min M 1099511627776)⟩
theorem begin_any (K N : Int) (M : Nat) (w w0 : World) (hb : Below w0.heap.size w0 w) (hk : okFr K N = true) : Calls Tryz.prog 28 #[.agg #[.int .i64 K, .int .i64 N], .int .i64 (M : Int)] w fun e w' => ∃ g cp, e = .returned (.tuple #[.pointer (some ⟨g, 0, none⟩), .nilIface]) ∧ BdAt (fun k => w0.heap.size ≤ k ∧ k < w'.heap.size) w' g (begX K N M) cp ∧ Below w0.heap.size w0 w' := by
  have hk := of_decide_eq_true hk
  have h4 : K = 0 ∨ K = 1 ∨ K = 2 ∨ K = 3 := by omega
  rcases h4 with rfl | rfl | rfl | rfl
  · refine (begin_0 N M w).mono ?_
    rintro e w' ⟨rfl, hf⟩
    exact ⟨_, _, rfl, bd_fresh hf hb rfl (show (_ : Nat) ≠ 2 from by unfold begX; simp), below_out hb hf.below⟩
  · refine (begin_1 N M w (N == 0) rfl).mono ?_
    rintro e w' ⟨rfl, hf⟩
    refine ⟨_, _, rfl, bd_fresh hf hb ?_ (show (_ : Nat) ≠ 2 from by unfold begX; simp), below_out hb hf.below⟩
    have e1 : ((N.toNat : Nat) : Int) = N := by omega
    unfold bdC begX
    simp only [Int.reduceToNat, if_true, e1, errOf_zero]
    rw [show (N == 0) = decide ((1 : Int) = 0 ∨ True ∧ N = 0) from by rw [Bool.eq_iff_iff]; simp]
    rfl
  · refine (begin_2 N M w).mono ?_
    rintro e w' ⟨rfl, hf⟩
    exact ⟨_, _, rfl, bd_freshK hf hb (by unfold begX; simp), below_out hb hf.below⟩
  · refine (begin_3 N M w).mono ?_
    rintro e w' ⟨rfl, hf⟩
    exact ⟨_, _, rfl, bd_fresh hf hb rfl (show (_ : Nat) ≠ 2 from by unfold begX; simp), below_out hb hf.below⟩
set_option maxRecDepth 20000 in
set_option maxHeartbeats 8000000 in
theorem new_any (K N m : Int) (h9 : m ≤ 9223372036854775807) (w : World) (hE : EnvP w) : Calls Tryz.prog 6 #[.agg #[.int .i64 K, .int .i64 N], .int .i64 m] w (NewAns K N m w) := by
  have HFl := hid (show ∀ W : World, Below w.heap.size w W → _ from fun W hb => flds0 K N W (hE.next hb))
  have HX0 := hid (heap_alloc_new w (frmO K N))
  have HB0 := hid (below_new w (frmO K N))
  cases hok : okFr K N with
  | false =>
    have HA := hid (show newE K N m = 1 from by unfold newE; rw [if_pos (by rw [hok]; simp)])
    rw [hok, if_neg (by decide), errOf_pos (by decide)] at HFl
    clear hok hE h9
    go_enter Tryz.func6, Tryz.ntmps6
    go_wp2_with (go_at_call 27; (with_reducible refine (HFl.out _ HB0.out).mono ?_); rintro e w1 ⟨v, rfl, hb⟩; have HB1 := hid (below_out HB0.out hb); clear hb)
    go_ret2
    exact .inl ⟨by rw [HA.out]; decide, by rw [HA.out, errOf_pos (by decide)]; rfl, HB1.out⟩
  | true =>
    rw [hok, if_pos rfl, errOf_zero] at HFl
    have HOk := hid (of_decide_eq_true hok)
    by_cases hm : m < -1
    · have HA := hid (show newE K N m = 1 from by unfold newE; rw [if_pos (fun h => by omega)])
      clear hok hE h9
      go_enter Tryz.func6, Tryz.ntmps6
      go_wp2_with (go_at_call 27; (with_reducible refine (HFl.out _ HB0.out).mono ?_); rintro e w1 ⟨v, rfl, hb⟩; have HB1 := hid (below_out HB0.out hb); clear hb)
      go_ret2
      exact .inl ⟨by rw [HA.out]; decide, by rw [HA.out, errOf_pos (by decide)]; rfl, HB1.out⟩
    · have HBg := hid (fun (M : Nat) (W : World) (hb : Below w.heap.size w W) => begin_any K N M W w hb hok)
      have hN1 : N ≤ 1099511627776 := HOk.out.2.2.2.1
      by_cases h1 : m = -1
      · subst h1
        have HA := hid (show newE K N (-1) = 0 from by unfold newE; rw [if_neg (fun h => h ⟨hok, by omega⟩), if_neg (by unfold topX; rw [if_pos rfl]; omega)])
        have HXn := hid (show newX K N (-1) = begX K N 9223372036854775807 from rfl)
        have hd : decide ((9223372036854775807 : Int) < N) = false := decide_eq_false (by omega)
        have HBt := hid (show ∀ W : World, Below w.heap.size w W → _ from fun W hb => HBg.out 9223372036854775807 W hb)
        clear hok hE h9 hm hN1 HBg
        go_enter Tryz.func6, Tryz.ntmps6
        go_wp2_with (first | (go_at_call 27; (with_reducible refine (HFl.out _ HB0.out).mono ?_); rintro e w1 ⟨v, rfl, hb⟩; have HB1 := hid (below_out HB0.out hb); obtain ⟨y0, y1, _, _⟩ := cells2 (blk_next HX0.out hb); clear hb HFl) | (go_at_call 28; (refine (HBt.out _ HB1.out).mono ?_); rintro e w2 ⟨g, cp, rfl, hd2, hb⟩; have HD := hid hd2; have HB2 := hid hb; clear hd2 hb HBt))
        go_ret2
        exact .inr ⟨HA.out, g, cp, rfl, by rw [HXn.out]; exact HD.out, HB2.out⟩
      · obtain ⟨M, hM⟩ : ∃ M : Nat, m = (M : Int) := ⟨m.toNat, by omega⟩
        subst hM
        have j1 : ((M : Int) == -1) = false := by simp
        have ht : topX (M : Int) = M := by unfold topX; rw [if_neg h1]; omega
        by_cases hl : (M : Int) < N
        · have HA := hid (show newE K N (M : Int) = 33 from by unfold newE; rw [if_neg (fun h => h ⟨hok, by omega⟩), if_pos (by rw [ht]; exact hl)])
          clear hok hE h9 hN1 HBg ht h1
          go_enter Tryz.func6, Tryz.ntmps6
          go_wp2_with (first | (go_at_call 27; (with_reducible refine (HFl.out _ HB0.out).mono ?_); rintro e w1 ⟨v, rfl, hb⟩; have HB1 := hid (below_out HB0.out hb); obtain ⟨y0, y1, _, _⟩ := cells2 (blk_next HX0.out hb); clear hb HFl))
          go_ret2
          exact .inl ⟨by rw [HA.out]; decide, by rw [HA.out, errOf_pos (by decide)]; rfl, HB1.out⟩
        · have HA := hid (show newE K N (M : Int) = 0 from by unfold newE; rw [if_neg (fun h => h ⟨hok, by omega⟩), if_neg (by rw [ht]; exact hl)])
          have HXn := hid (show newX K N (M : Int) = begX K N M from by unfold newX begX; rw [ht])
          have HBt := hid (show ∀ W : World, Below w.heap.size w W → _ from fun W hb => HBg.out M W hb)
          clear hok hE h9 hN1 HBg ht h1
          go_enter Tryz.func6, Tryz.ntmps6
          go_wp2_with (first | (go_at_call 27; (with_reducible refine (HFl.out _ HB0.out).mono ?_); rintro e w1 ⟨v, rfl, hb⟩; have HB1 := hid (below_out HB0.out hb); obtain ⟨y0, y1, _, _⟩ := cells2 (blk_next HX0.out hb); clear hb HFl) | (go_at_call 28; (with_reducible refine (HBt.out _ HB1.out).mono ?_); rintro e w2 ⟨g, cp, rfl, hd2, hb⟩; have HD := hid hd2; have HB2 := hid hb; clear hd2 hb HBt))
          go_ret2
          exact .inr ⟨HA.out, g, cp, rfl, by rw [HXn.out]; exact HD.out, HB2.out⟩
end Go.Proofs.YtnlmjlfoeodleaaGreatDoor
