/- Text of package sha. -/
import Derived.Test.YtojcaoieodogdaaDoorArgs
import Derived.Laws.BitsAll
namespace Go.Proofs.YtojcaoieodogdaaDoor
open Go.RowKit

def hexd (x : Int) : Int := if x < 10 then 48 + x else 87 + x
def textB (s : List Int) : List Int := (List.range 64).map fun j => if j % 2 = 0 then hexd (s[j / 2]?.getD 0 / 16) else hexd (s[j / 2]?.getD 0 % 16)
theorem textB_len (s : List Int) : (textB s).length = 64 := by simp [textB]
theorem textB_even (s : List Int) (k : Nat) (h : k < 32) : (textB s)[2 * k]?.getD 0 = hexd (s[k]?.getD 0 / 16) := by
  unfold textB
  rw [List.getElem?_map, List.getElem?_range (by omega)]
  simp
theorem textB_odd (s : List Int) (k : Nat) (h : k < 32) : (textB s)[2 * k + 1]?.getD 0 = hexd (s[k]?.getD 0 % 16) := by
  unfold textB
  rw [List.getElem?_map, List.getElem?_range (by omega)]
  simp [show (2 * k + 1) % 2 = 1 by omega, show (2 * k + 1) / 2 = k by omega]
theorem hexAt (n : Nat) (h : n < 16) (W : World) : (Instr.index 9 (.string { data := #[48, 49, 50, 51, 52, 53, 54, 55, 56, 57, 97, 98, 99, 100, 101, 102] }) (.int .u8 n)).run Tryd.prog W = .ok (.int .u8 (hexd n)) W := by
  have hn : n = 0 ∨ n = 1 ∨ n = 2 ∨ n = 3 ∨ n = 4 ∨ n = 5 ∨ n = 6 ∨ n = 7 ∨ n = 8 ∨ n = 9 ∨ n = 10 ∨ n = 11 ∨ n = 12 ∨ n = 13 ∨ n = 14 ∨ n = 15 := by omega
  clear h
  rcases hn with rfl | rfl | rfl | rfl | rfl | rfl | rfl | rfl | rfl | rfl | rfl | rfl | rfl | rfl | rfl | rfl
  all_goals (simp [Instr.index, asIntOf, run_underlying Tryd.underlying9, hexd]; rfl)
theorem hexInt (x : Int) (h0 : 0 ≤ x) (h : x < 16) (W : World) : (Instr.index 9 (.string { data := #[48, 49, 50, 51, 52, 53, 54, 55, 56, 57, 97, 98, 99, 100, 101, 102] }) (.int .u8 x)).run Tryd.prog W = .ok (.int .u8 (hexd x)) W := by
  obtain ⟨n, rfl⟩ : ∃ n : Nat, x = n := ⟨x.toNat, by omega⟩
  exact hexAt n (by omega) W
theorem index_sum (l : List Int) (h : l.length = 32) (k : Nat) (hk : k < 32) (W : World) : (Instr.index 24 (.agg (bsv l)) (.int .i64 k)).run Tryd.prog W = .ok (.int .u8 (l[k]?.getD 0)) W := by
  have hv := bsv_get (l := l) (k := k) (by omega)
  have hi : (0 : Int) ≤ k ∧ (k : Int) < (32 : Nat) := by omega
  have hs : (Tryd.prog.info? 5).map (·.size) = some 1 := by kernel_rfl
  cases hq : Tryd.prog.info? 5 with
  | none => simp [hq] at hs
  | some i =>
    have hz : i.size = 1 := by simpa [hq] using hs
    simp [Instr.index, asIntOf, run_underlying und24, hi, sizeOf, typeInfo, hq, hz, part, hv]
    omega
structure TextP (w W : World) (l : List Int) : Prop where
  below : Below w.heap.size w W
  row : RowAt W (w.heap.size + 1) (bsv l) 59
theorem TextP.set {w W : World} {l : List Int} (h : TextP w W l) (k : Nat) (x : Int) : TextP w (W.setCell ⟨w.heap.size + 1, k, none⟩ (.int .u8 x)) (l.set k x) := by
  refine ⟨h.below.setCell (by show w.heap.size ≤ w.heap.size + 1; omega) _, ?_⟩
  have := h.row.set k (.int .u8 x)
  rwa [bsv_set] at this
set_option maxRecDepth 20000 in
set_option maxHeartbeats 1000000 in
theorem text_any (s : List Int) (h : s.length = 32) (hs : ∀ x ∈ s, 0 ≤ x ∧ x < 256) (w : World) :
    Calls Tryd.prog 11 #[.agg (bsv s)] w fun e w' => e = .returned (.string (strOfNums (textB s))) ∧ Below w.heap.size w w' := by
  have H0 : Hid (RowAt ((w.alloc (.cells (bsv s) 24)).alloc (.cells (bsv (List.replicate 64 0)) 59)) w.heap.size (bsv s) 24) := (row_new _ _ _).alloc _
  have HS := hid hs
  clear hs
  go_enter Tryd.func11, Tryd.ntmps11
  go_wp2_with (refine wpList_load_row rfl 24 _ rfl _ rfl 24 (bsv s) _ _ H0.out und24 rfl (by rw [size24, bsv_size, h]) ?_)
  go_loopw [7] (fun i W => ∃ k : Nat, k ≤ 32 ∧ i = .int .i64 k ∧ Hid (TextP w W (fillTo (textB s) (2 * k)))) (fun i _ => 32 - (intOf i).toNat)
  case atStart =>
    refine ⟨0, Nat.zero_le _, rfl, ((Below.refl w.heap.size w).alloc (Nat.le_refl _) _).alloc (by simp) _, ?_⟩
    have := (row_new (w.alloc (.cells (bsv s) 24)) (bsv (List.replicate 64 0)) 59)
    rw [World.size_alloc] at this
    have e : fillTo (textB s) (2 * 0) = List.replicate 64 0 := by simp [fillTo, textB_len]
    rw [e]
    exact this
  case round =>
    obtain ⟨k, hk, rfl, HP⟩ := hrel
    obtain ⟨V, hV⟩ : ∃ V, V = wr := ⟨_, rfl⟩
    rw [← hV] at HP ⊢
    clear hV
    by_cases hlt : k < 32
    · have hlt' : (k : Int) < 32 := by omega
      have b0 := index_sum s h k hlt V
      obtain ⟨c, HC⟩ : ∃ c, Hid (s[k]?.getD 0 = c) := ⟨_, hid rfl⟩
      rw [HC.out] at b0
      have hc : 0 ≤ c ∧ c < 256 := by
        rw [← HC.out, List.getElem?_eq_getElem (by omega)]
        exact HS.out _ (List.getElem_mem _)
      have hc0 := hc.1
      have hc1 := hc.2
      have e1 := hexInt (c / 16) (by omega) (by omega) V
      have e2 := hexInt (c % 16) (by omega) (by omega)
      have hl : (fillTo (textB s) (2 * k)).length = 64 := by rw [fillTo_len _ _ (by rw [textB_len]; omega), textB_len]
      have c0 := (HP.out.row.cell (2 * k)).trans (bsv_get (by omega))
      have f0 := HP.out.row.fz (2 * k)
      have P1 := HP.out.set (2 * k) (hexd (c / 16))
      have c1 := (P1.row.cell (2 * k + 1)).trans (bsv_get (by rw [List.length_set]; omega))
      have f1 := P1.row.fz (2 * k + 1)
      have HP1 := hid P1
      obtain ⟨x0, HX0⟩ : ∃ x, Hid ((fillTo (textB s) (2 * k))[2 * k]?.getD 0 = x) := ⟨_, hid rfl⟩
      obtain ⟨x1, HX1⟩ : ∃ x, Hid (((fillTo (textB s) (2 * k)).set (2 * k) (hexd (c / 16)))[2 * k + 1]?.getD 0 = x) := ⟨_, hid rfl⟩
      rw [HX0.out] at c0
      rw [HX1.out] at c1
      clear P1 hl hc
      go_wp2
      go_roundw
      case rel =>
        refine ⟨k + 1, by omega, by go_num, ?_⟩
        have h2 := HP1.out.set (2 * k + 1) (hexd (c % 16))
        rw [← HC.out, ← textB_even s k hlt, ← textB_odd s k hlt, fillTo_set _ _ (by rw [textB_len]; omega), fillTo_set _ _ (by rw [textB_len]; omega)] at h2
        rw [← HC.out, ← textB_even s k hlt, ← textB_odd s k hlt]
        exact h2
      case measure => simp [intOf]; omega
    · have hlt' : ¬ (k : Int) < 32 := by omega
      have hr := HP.out.row
      rw [fillTo_all _ _ (by rw [textB_len]; omega)] at hr
      have hcl : CellsAt V (w.heap.size + 1) 0 (textB s) := fun j v hj => by
        rw [Nat.zero_add, hr.cell j]
        simp [bsv, hj]
      have hcv := conv_src (cap := 64) hcl
      rw [textB_len] at hcv
      go_wp2
      go_ret
      exact ⟨rfl, HP.out.below⟩
end Go.Proofs.YtojcaoieodogdaaDoor
