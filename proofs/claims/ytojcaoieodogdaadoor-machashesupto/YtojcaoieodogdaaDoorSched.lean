/- The words of a block: Schedule of package sha. -/
import Derived.Test.YtojcaoieodogdaaDoorArr
import Derived.Deep.RegionHeld3
namespace Go.Proofs.YtojcaoieodogdaaDoor
open Go.RowKit

def s1step (blk l : List Int) (i : Nat) : List Int := l.set (i / 4) (bits .or .u32 (l[i / 4]?.getD 0 * 256 % 4294967296) (blk[i]?.getD 0 % 4294967296))
def sfill (blk : List Int) : Nat → List Int
  | 0 => List.replicate 64 0
  | k + 1 => s1step blk (sfill blk k) k
def s2step (l : List Int) (t : Nat) : List Int := l.set t (add32 (add32 (add32 (ls1 (l[t - 2]?.getD 0)) (l[t - 7]?.getD 0)) (ls0 (l[t - 15]?.getD 0))) (l[t - 16]?.getD 0))
def sgrow (l : List Int) : Nat → List Int
  | 0 => l
  | k + 1 => s2step (sgrow l k) (16 + k)
def sched (blk : List Int) : List Int := sgrow (sfill blk 64) 48
theorem sfill_len (blk : List Int) : ∀ k, (sfill blk k).length = 64
  | 0 => by simp [sfill]
  | k + 1 => by simp [sfill, s1step, sfill_len blk k]
theorem sgrow_len (l : List Int) : ∀ k, (sgrow l k).length = l.length
  | 0 => rfl
  | k + 1 => by simp [sgrow, s2step, sgrow_len l k]
theorem sched_len (blk : List Int) : (sched blk).length = 64 := by rw [sched, sgrow_len, sfill_len]
structure SchedP (w W : World) (l : List Int) : Prop where
  below : Below w.heap.size w W
  out : ∃ c, RowAt W (w.heap.size + 1) c 76 ∧ c.size = 64
  row : RowAt W (w.heap.size + 1 + 1) (ws l) 76
theorem und37 : Tryd.prog.underlying 76 = some (.array 64 56) := by kernel_rfl
theorem size37 : (Tryd.prog.info? 76).map (·.size) = some 64 := by kernel_rfl
theorem und35 : Tryd.prog.underlying 59 = some (.array 64 5) := by kernel_rfl
theorem size35 : (Tryd.prog.info? 59).map (·.size) = some 64 := by kernel_rfl
theorem SchedP.store {w W : World} {l : List Int} (h : SchedP w W l) (k : Nat) (x : Int) : SchedP w (W.setCell ⟨w.heap.size + 1 + 1, k, none⟩ (.int .u32 x)) (l.set k x) := by
  have hz := h.below.size
  obtain ⟨c, hc, hc2⟩ := h.out
  refine ⟨h.below.setCell (by show w.heap.size ≤ w.heap.size + 1 + 1; omega) _, ⟨c, hc.other (by omega) _, hc2⟩, ?_⟩
  have := h.row.set k (.int .u32 x)
  rwa [ws_set] at this
set_option maxRecDepth 20000 in
set_option maxHeartbeats 2000000 in
theorem schedule_any (blk : List Int) (h : blk.length = 64) (w : World) :
    Calls Tryd.prog 55 #[.agg (bsv blk)] w fun e w' => e = .returned (.agg (ws (sched blk))) ∧ Below w.heap.size w w' := by
  have h0 : RowAt ((w.alloc (.cells (bsv blk) 59)).alloc (.cells (ws (List.replicate 64 0)) 76)) w.heap.size (bsv blk) 59 := (row_new w (bsv blk) 59).alloc _
  have h1 := h0.alloc (.cells (ws (List.replicate 64 0)) 76)
  have H1 := hid h1
  clear h0 h1
  go_enter Tryd.func55, Tryd.ntmps55
  go_wp2_with (refine wpList_load_row rfl 59 _ rfl _ rfl 59 (bsv blk) _ _ H1.out und35 rfl (by rw [size35, bsv_size, h]) ?_)
  go_loopw [8] (fun i W => ∃ k : Nat, k ≤ 64 ∧ i = .int .i64 k ∧ Hid (SchedP w W (sfill blk k))) (fun i _ => 64 - (intOf i).toNat)
  case atStart =>
    refine ⟨0, Nat.zero_le _, rfl, ?_⟩
    have b1 := (Below.refl w.heap.size w).alloc (Nat.le_refl _) (.cells (bsv blk) 59)
    refine ⟨(b1.alloc b1.size _).alloc (by simp; omega) _, ⟨ws (List.replicate 64 0), ?_, by simp [ws]⟩, ?_⟩
    · have := (row_new (w.alloc (.cells (bsv blk) 59)) (ws (List.replicate 64 0)) 76)
      rw [World.size_alloc] at this
      exact this.alloc _
    · have := (row_new ((w.alloc (.cells (bsv blk) 59)).alloc (.cells (ws (List.replicate 64 0)) 76)) (ws (List.replicate 64 0)) 76)
      rw [World.size_alloc, World.size_alloc] at this
      exact this
  case round =>
    obtain ⟨k, hk, rfl, HP⟩ := hrel
    rename World => W
    by_cases hlt : k < 64
    · have hlt' : (k : Int) < 64 := by omega
      have q1 : k / 4 < (sfill blk k).length := by rw [sfill_len]; omega
      have c0 := (HP.out.row.cell (k / 4)).trans (ws_get q1)
      have f0 := HP.out.row.fz (k / 4)
      have b0 := index_bytes blk h k hlt W
      obtain ⟨x, HX⟩ : ∃ x, Hid ((sfill blk k)[k / 4]?.getD 0 = x) := ⟨_, rfl⟩
      obtain ⟨y, HY⟩ : ∃ y, Hid (blk[k]?.getD 0 = y) := ⟨_, rfl⟩
      rw [HX.out] at c0
      rw [HY.out] at b0
      clear q1
      go_wp2
      go_roundw
      case rel =>
        refine ⟨k + 1, by omega, by go_num, ?_⟩
        have := HP.out.store (k / 4) (bits .or .u32 (x * 256 % 4294967296) (y % 4294967296))
        rw [← HX.out, ← HY.out] at this ⊢
        exact this
      case measure => simp [intOf]; omega
    · have hlt' : ¬ (k : Int) < 64 := by omega
      obtain rfl : k = 64 := by omega
      clear H1 hlt hlt' hk
      go_wp2
      go_loopw [6] (fun i W => ∃ t k : Nat, t = 16 + k ∧ k ≤ 48 ∧ i = .int .i64 t ∧ Hid (SchedP w W (sgrow (sfill blk 64) k))) (fun i _ => 64 - (intOf i).toNat)
      case atStart => exact ⟨16, 0, rfl, Nat.zero_le _, rfl, HP⟩
      case round =>
        clear HP
        obtain ⟨t, k, ht, hk, rfl, HP⟩ := hrel
        rename World => V
        by_cases hlt : t < 64
        · have hlt' : (t : Int) < 64 := by omega
          have hge : (16 : Int) ≤ t := by omega
          have hl : (sgrow (sfill blk 64) k).length = 64 := by rw [sgrow_len, sfill_len]
          obtain ⟨p2, HP2⟩ : ∃ p, Hid (t - 2 = p) := ⟨_, rfl⟩
          have q2 : (p2 : Int) < 64 := by have := HP2.out; omega
          have v2 : IntKind.i64.wrap ((t : Int) - 2) = (p2 : Int) := by rw [← HP2.out, IntKind.wrap_i64]; omega
          have c2 := (HP.out.row.cell (t - 2)).trans (ws_get (by omega))
          obtain ⟨x2, HX2⟩ : ∃ x, Hid ((sgrow (sfill blk 64) k)[t - 2]?.getD 0 = x) := ⟨_, rfl⟩
          rw [HX2.out, HP2.out] at c2
          have K2 : ∀ v, (V.setCell ⟨w.heap.size + 1 + 1, t, none⟩ v).drew.cell? ⟨w.heap.size + 1 + 1, p2, none⟩ = some (.int .u32 x2) := fun v => HP.out.row.set_far (by have := HP2.out; omega) v c2
          obtain ⟨p7, HP7⟩ : ∃ p, Hid (t - 7 = p) := ⟨_, rfl⟩
          have q7 : (p7 : Int) < 64 := by have := HP7.out; omega
          have v7 : IntKind.i64.wrap ((t : Int) - 7) = (p7 : Int) := by rw [← HP7.out, IntKind.wrap_i64]; omega
          have c7 := (HP.out.row.cell (t - 7)).trans (ws_get (by omega))
          obtain ⟨x7, HX7⟩ : ∃ x, Hid ((sgrow (sfill blk 64) k)[t - 7]?.getD 0 = x) := ⟨_, rfl⟩
          rw [HX7.out, HP7.out] at c7
          have K7 : ∀ v, (V.setCell ⟨w.heap.size + 1 + 1, t, none⟩ v).drew.cell? ⟨w.heap.size + 1 + 1, p7, none⟩ = some (.int .u32 x7) := fun v => HP.out.row.set_far (by have := HP7.out; omega) v c7
          obtain ⟨p15, HP15⟩ : ∃ p, Hid (t - 15 = p) := ⟨_, rfl⟩
          have q15 : (p15 : Int) < 64 := by have := HP15.out; omega
          have v15 : IntKind.i64.wrap ((t : Int) - 15) = (p15 : Int) := by rw [← HP15.out, IntKind.wrap_i64]; omega
          have c15 := (HP.out.row.cell (t - 15)).trans (ws_get (by omega))
          obtain ⟨x15, HX15⟩ : ∃ x, Hid ((sgrow (sfill blk 64) k)[t - 15]?.getD 0 = x) := ⟨_, rfl⟩
          rw [HX15.out, HP15.out] at c15
          have K15 : ∀ v, (V.setCell ⟨w.heap.size + 1 + 1, t, none⟩ v).drew.cell? ⟨w.heap.size + 1 + 1, p15, none⟩ = some (.int .u32 x15) := fun v => HP.out.row.set_far (by have := HP15.out; omega) v c15
          obtain ⟨p16, HP16⟩ : ∃ p, Hid (t - 16 = p) := ⟨_, rfl⟩
          have q16 : (p16 : Int) < 64 := by have := HP16.out; omega
          have v16 : IntKind.i64.wrap ((t : Int) - 16) = (p16 : Int) := by rw [← HP16.out, IntKind.wrap_i64]; omega
          have c16 := (HP.out.row.cell (t - 16)).trans (ws_get (by omega))
          obtain ⟨x16, HX16⟩ : ∃ x, Hid ((sgrow (sfill blk 64) k)[t - 16]?.getD 0 = x) := ⟨_, rfl⟩
          rw [HX16.out, HP16.out] at c16
          have K16 : ∀ v, (V.setCell ⟨w.heap.size + 1 + 1, t, none⟩ v).drew.cell? ⟨w.heap.size + 1 + 1, p16, none⟩ = some (.int .u32 x16) := fun v => HP.out.row.set_far (by have := HP16.out; omega) v c16
          have c0 := (HP.out.row.cell t).trans (ws_get (by omega))
          have f0 := HP.out.row.fz t
          obtain ⟨x0, HX0⟩ : ∃ x, Hid ((sgrow (sfill blk 64) k)[t]?.getD 0 = x) := ⟨_, rfl⟩
          rw [HX0.out] at c0
          have HT := hid ht
          have HL := hid hl
          clear ht hl
          go_wp2
          go_region_held3 (fun U => U.cell? ⟨w.heap.size + 1 + 1, p2, none⟩ = some (.int .u32 x2) ∧ U.cell? ⟨w.heap.size + 1 + 1, p7, none⟩ = some (.int .u32 x7) ∧ U.cell? ⟨w.heap.size + 1 + 1, p15, none⟩ = some (.int .u32 x15) ∧ U.cell? ⟨w.heap.size + 1 + 1, p16, none⟩ = some (.int .u32 x16)) (first | exact ⟨by assumption, by assumption, by assumption, by assumption⟩ | exact ⟨K2 _, K7 _, K15 _, K16 _⟩)
            (first
              | (go_at_call 61; with_reducible refine (ls1_any x2 _).mono ?_; rintro e w' ⟨rfl, rfl⟩)
              | (go_at_call 62; with_reducible refine (ls0_any x15 _).mono ?_; rintro e w' ⟨rfl, rfl⟩))
          go_wp2
          refine ⟨?_, ?measure⟩
          refine ⟨_, _, _, _, _, _, _, _, _, _, _, _, _, _, _, _, _, _, _, _, _, _, _, _, _, _, _, _, ?rel, rfl⟩
          case rel =>
            refine ⟨t + 1, k + 1, by have := HT.out; omega, by have := HT.out; omega, by go_num, ?_⟩
            have := HP.out.store t (add32 (add32 (add32 (ls1 x2) x7) (ls0 x15)) x16)
            have e : sgrow (sfill blk 64) (k + 1) = (sgrow (sfill blk 64) k).set t (add32 (add32 (add32 (ls1 x2) x7) (ls0 x15)) x16) := by
              rw [← HX2.out, ← HX7.out, ← HX15.out, ← HX16.out, HT.out]; rfl
            rw [e]
            exact ⟨this.below.drew, this.out, this.row⟩
          case measure => simp [intOf]; omega
        · have hlt' : ¬ (t : Int) < 64 := by omega
          obtain ⟨c, hc, hc2⟩ := HP.out.out
          obtain rfl : k = 48 := by omega
          have HS : Hid (RowAt V (w.heap.size + 1 + 1) (ws (sched blk)) 76) := HP.out.row
          have HC := hid hc
          have HC2 := hid hc2
          clear hc hc2
          go_wp2_with (first
            | (refine wpList_load_row rfl 76 _ rfl _ rfl 76 (ws (sched blk)) _ _ HS.out und37 rfl (by rw [size37, ws_size, sched_len]) ?_)
            | (refine wpList_store_row rfl 76 _ _ rfl _ (ws (sched blk)) rfl rfl 76 c HC.out (by rw [size37, ws_size, sched_len]) (by rw [HC2.out, ws_size, sched_len]) (ws_one _) ?_))
          refine bodyPost_ret (results_cell_row rfl _ _ _ 76 (ws (sched blk)) _ _ rfl (HC.out.setRow _) und37 rfl (by rw [size37, ws_size, sched_len])) rfl ?_
          exact ⟨rfl, below_setRow HP.out.below (by omega) _⟩
end Go.Proofs.YtojcaoieodogdaaDoor
