/- The law ShaParts returns true for every block and every number. -/
import Derived.Test.YthfjbfoipmjckaaDoorSame
import Derived.Test.YthfjbfoipmjckaaDoorAs
namespace Go.Proofs.YthfjbfoipmjckaaDoor
open Go.RowKit

/-- errors.errorType is laid. -/
def ErrAt (w : World) : Prop := w.cell? ⟨1, 0, none⟩ = some (.iface 83 (.agg #[.pointer (some ⟨2, 42, none⟩)]))
theorem ErrAt.lt {w : World} (h : ErrAt w) : 1 < w.heap.size := by
  rcases Nat.lt_or_ge 1 w.heap.size with h' | h'
  · exact h'
  · unfold ErrAt at h
    simp [World.cell?, Array.getElem?_eq_none h'] at h
theorem ErrAt.below {w w' : World} (h : ErrAt w) (hb : Below w.heap.size w w') : ErrAt w' := (hb.cell (p := ⟨1, 0, none⟩) h.lt).trans h
theorem num_at {w : World} (h : ErrAt w) (k : Int) : Calls Tryd.prog 19 #[.iface 61 (.int .i64 k)] w fun e w' => e = .returned (.int .i64 k) ∧ Below w.heap.size w w' := num_err k w h
/-- In the law: the words of both. -/
structure PartP (w W : World) (v : Nat) (pa : Option Addr) (c : Nat) (l : List Int) : Prop where
  below : Below w.heap.size w W
  k : KAt W
  err : ErrAt W
  row : RowAt W v (ws l) 37
  mine : MineW w W pa c l
theorem PartP.next {w W W' : World} {v : Nat} {pa : Option Addr} {c : Nat} {l : List Int} (h : PartP w W v pa c l) (hb : Below W.heap.size W W') : PartP w W' v pa c l :=
  ⟨h.below.trans (hb.mono h.below.size), h.k.below hb, h.err.below hb, h.row.below hb, h.mine.next hb⟩
theorem PartP.drewN {w W : World} {v : Nat} {pa : Option Addr} {c : Nat} {l : List Int} (h : PartP w W v pa c l) (n : Nat) : PartP w (W.drewN n) v pa c l :=
  ⟨below_drewN h.below n, h.k, h.err, h.row, h.mine.drewN n⟩
theorem row_src {W : World} {b : Nat} {l : List Int} (h : RowAt W b (bsv l) 35) : CellsAt W b 0 l := by
  intro j v hj
  rw [Nat.zero_add, h.cell j]
  simp [bsv, hj]
theorem mineW_up {w w1 W : World} {pa : Option Addr} {c : Nat} {l : List Int} (h : MineW w1 W pa c l) (hb : Below w.heap.size w w1) : MineW w W pa c l := by
  refine ⟨hb.trans (h.below.mono hb.size), h.fits, h.most, h.nothing, fun a ha => ?_⟩
  obtain ⟨b, cur, h0, h1, h2⟩ := h.row a ha
  exact ⟨b, cur, h0, Nat.le_trans hb.size h1, h2⟩
set_option maxRecDepth 20000 in
set_option maxHeartbeats 4000000 in
theorem parts_some (blk : List Int) (hl : blk.length = 64) (hbd : ∀ x ∈ blk, 0 ≤ x ∧ x < 256) (n : Int) (w : World) (hK : KAt w) (hE : ErrAt w) :
    Calls Tryd.prog 4 #[.agg (bsv blk), .int .i64 n] w fun e w' => e = .returned (.bool true) ∧ Below w.heap.size w w' := by
  have HB : Hid (blk.length = 64 ∧ (∀ x ∈ blk, 0 ≤ x ∧ x < 256) ∧ KAt w ∧ ErrAt w) := ⟨hl, hbd, hK, hE⟩
  have HR0 : Hid (RowAt (w.alloc (.cells (bsv blk) 35)) w.heap.size (bsv blk) 35) := row_new _ _ _
  clear hl hbd hK hE
  go_enter Tryd.func4, Tryd.ntmps4
  go_wp2_with (first
    | (refine wpList_load_row rfl 35 _ rfl _ rfl 35 (bsv blk) _ _ HR0.out und35 rfl (by rw [size35, bsv_size, HB.out.1]) ?_)
    | (go_at_call 15; (with_reducible refine (schedule_any blk HB.out.1 _).mono ?_); rintro e w1 ⟨rfl, hb1⟩; have HR1 := hid (HR0.out.below hb1); have HB1 := hid ((below_new w _).trans (hb1.mono (below_new w _).size)); clear hb1 HR0)
    | (refine wpList_store_as rfl 37 _ _ rfl _ (ws (sched blk)) rfl rfl 37 (ws (List.replicate 64 0)) (row_new _ _ _) (by rw [size37, ws_size, sched_len]) (by rw [ws_size, ws_size, sched_len]; simp) (ws_one _) ?_; intro w2 hst; have HB2 := hid (hst.below (below_new w1 _) (Nat.le_refl _)); have HV2 := hid hst.row; have HR2 := hid (HR1.out.below HB2.out); clear hst HR1)
    | (go_at_call 16; (with_reducible refine (refSched_any blk HB.out.1 w.heap.size 0 64 (Nat.le_refl _) w2 HR2.out.lt (row_src HR2.out)).mono ?_); rintro e w3 ⟨pa, c, rfl, hm3⟩; rw [sched_same blk HB.out.2.1] at hm3; have HM3 := hid hm3; clear hm3))
  obtain ⟨v, hv⟩ : ∃ v, w1.heap.size = v := ⟨_, rfl⟩
  obtain ⟨bb, rfl, _, _⟩ := HM3.out.cell (k := 0) (by rw [sched_len]; omega)
  have HP0 : Hid (PartP w w3 v (some ⟨bb, 0, none⟩) c (sched blk)) := by
    have b2 : Below w.heap.size w w2 := HB1.out.trans (HB2.out.mono HB1.out.size)
    have m3 := mineW_up HM3.out b2
    subst hv
    exact ⟨m3.below, HB.out.2.2.1.below m3.below, HB.out.2.2.2.below m3.below, HV2.out.below HM3.out.below, m3⟩
  rw [hv]
  clear hv HM3 HV2 HR2 HB1 HB2
  go_loopw [7] (fun i W => ∃ k : Nat, k ≤ 64 ∧ i = .int .i64 k ∧ Hid (PartP w W v (some ⟨bb, 0, none⟩) c (sched blk))) (fun i _ => 64 - (intOf i).toNat)
  case atStart => exact ⟨0, Nat.zero_le _, rfl, HP0⟩
  case round =>
    clear HP0
    obtain ⟨k, hk, rfl, HP⟩ := hrel
    obtain ⟨V, hV⟩ : ∃ V, V = wr := ⟨_, rfl⟩
    rw [← hV] at HP ⊢
    clear hV
    by_cases hlt : k < 64
    · have hlt' : (k : Int) < 64 := by omega
      have cw := (HP.out.row.cell k).trans (ws_get (by rw [sched_len]; exact hlt))
      have cx := HP.out.mine.at (k := k) (by rw [sched_len]; exact hlt)
      obtain ⟨x, HX⟩ : ∃ x, Hid ((sched blk)[k]?.getD 0 = x) := ⟨_, hid rfl⟩
      rw [HX.out] at cw cx
      go_wp2
      go_quiet (fail)
      go_wp2
      go_roundw
      case rel => exact ⟨k + 1, by omega, by go_num, HP.out.drewN _⟩
      case measure => simp [intOf]; omega
    · have hlt' : ¬ (k : Int) < 64 := by omega
      by_cases hn : n < 0 ∨ 1152921504606846976 < n
      · have hc := conv_none
        go_wp2_with (first
          | (go_at_call 17; (with_reducible refine (pad_no n hn _).mono ?_); rintro e w' ⟨rfl, rfl⟩)
          | (go_at_call 18; (with_reducible refine (refPad_no n hn _).mono ?_); rintro e w' ⟨rfl, rfl⟩)
          | (go_at_call 19; (with_reducible refine (num_at HP.out.err 1).mono ?_); rintro e w5 ⟨rfl, hb5⟩; have HP5 := hid (HP.out.next hb5); clear hb5)
          | (go_at_call 14; (with_reducible refine (sure_any HP5.out.k).mono ?_); rintro e w6 ⟨rfl, hb6⟩; have HP6 := hid (HP5.out.next hb6); clear hb6))
        go_ret
        exact ⟨rfl, HP6.out.below⟩
      · obtain ⟨m, rfl⟩ : ∃ m : Nat, n = m := ⟨n.toNat, by omega⟩
        obtain ⟨T, HT⟩ : ∃ T, Hid (strOfNums (padL m) = T) := ⟨_, hid rfl⟩
        have hm : m ≤ 1152921504606846976 := by omega
        have HL : Hid (padLen m ≤ maxLen) := by show _ ≤ _; have := padLen_bd m; unfold maxLen; omega
        clear hn
        go_wp2_with (first
          | (go_at_call 17; (with_reducible refine (pad_any m hm _).mono ?_); rintro e w4 ⟨rfl, hr4, hb4⟩; have HA4 := hid (row_arg hr4 (padL_len m) HL.out); have HP4 := hid (HP.out.next hb4); clear hr4 hb4 HP)
          | (go_at_call 18; (with_reducible refine (refPad_any m hm _).mono ?_); rintro e w5 ⟨qa, qc, rfl, hm5⟩; have hc1 := (HA4.out.below hm5.below).conv; have hc2 := hm5.arg.conv; rw [padL_len] at hc2; rw [HT.out] at hc1 hc2; have HP5 := hid (HP4.out.next hm5.below); clear hm5 HP4 HA4)
          | (go_at_call 19; (with_reducible refine (num_nil _).mono ?_); rintro e w6 ⟨rfl, hb6⟩; have HP6 := hid (HP5.out.next hb6); clear hb6)
          | (go_at_call 14; (with_reducible refine (sure_any HP6.out.k).mono ?_); rintro e w7 ⟨rfl, hb7⟩; have HP7 := hid (HP6.out.next hb7); clear hb7))
        go_ret
        exact ⟨rfl, HP7.out.below⟩
end Go.Proofs.YthfjbfoipmjckaaDoor
