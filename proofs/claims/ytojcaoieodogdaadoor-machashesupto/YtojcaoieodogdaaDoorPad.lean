/- The bytes behind a message: padding of package sha. -/
import Derived.Test.YtojcaoieodogdaaDoorArr
namespace Go.Proofs.YtojcaoieodogdaaDoor
open Go.RowKit

def padLen (n : Nat) : Nat := 9 + (64 - (n % 64 + 9) % 64) % 64
def padTo (n k : Nat) : List Int := (List.range (padLen n)).map fun j => if j = 0 then 128 else if padLen n - k ≤ j then (n : Int) * 8 / 2 ^ (8 * (padLen n - 1 - j)) % 256 else 0
def padL (n : Nat) : List Int := padTo n 8
theorem padLen_bd (n : Nat) : 9 ≤ padLen n ∧ padLen n ≤ 72 := by unfold padLen; omega
theorem padLen_mod (n : Nat) : (n + padLen n) % 64 = 0 := by unfold padLen; omega
theorem padTo_len (n k : Nat) : (padTo n k).length = padLen n := by simp [padTo]
theorem padTo_set (n k : Nat) (h : k < 8) : (padTo n k).set (padLen n - 1 - k) ((n : Int) * 8 / 2 ^ (8 * k) % 256) = padTo n (k + 1) := by
  have hb := padLen_bd n
  apply List.ext_getElem?
  intro j
  rw [List.getElem?_set, padTo_len]
  unfold padTo
  simp only [List.getElem?_map]
  by_cases hj : padLen n - 1 - k = j
  · subst hj
    rw [if_pos rfl, if_pos (by omega), List.getElem?_range (by omega)]
    simp only [Option.map_some]
    rw [if_neg (by omega), if_pos (by omega), show padLen n - 1 - (padLen n - 1 - k) = k by omega]
  · rw [if_neg hj]
    by_cases hl : j < padLen n
    · rw [List.getElem?_range hl]
      simp only [Option.map_some]
      by_cases h0 : j = 0
      · rw [if_pos h0, if_pos h0]
      · rw [if_neg h0, if_neg h0]
        by_cases h1 : padLen n - k ≤ j
        · rw [if_pos h1, if_pos (by omega)]
        · rw [if_neg h1, if_neg (by omega)]
    · rw [List.getElem?_eq_none (by simp; omega)]
      rfl
def zeroRow (n : Nat) : Array Value := ((List.replicate n (0 : Int)).map (Value.int .u8)).toArray
theorem info5 : (Tryd.prog.info? 5).map (fun i => (i.zero, i.size, i.bytes)) = some (some (.int .u8 0), 1, 1) := by kernel_rfl
set_option maxRecDepth 20000 in
theorem make_bytes (n : Nat) (h : n ≤ 1048576) (w : World) : (Instr.makeSlice 22 (.int .i64 n) (.int .i64 n)).run Tryd.prog w = .ok (.slice (some ⟨w.heap.size, 0, none⟩) n n) (w.alloc (.cells (zeroRow n) 5)) := by
  obtain ⟨i, h2, h3, h4, h5⟩ := info_parts info5
  have := run_make (P := Tryd.prog) w 22 5 i (.int .u8 0) (by kernel_rfl) h2 h3 .i64 .i64 n n (by omega) (by omega) (by rw [h5]; omega) (by omega)
  rw [this]
  simp only [Int.toNat_natCast, h4, Nat.mul_one]
  congr 4
  apply Array.toList_inj.1
  apply List.ext_getElem
  · simp [madeCells, zeroRow]
  · intro j _ _
    simp [madeCells, zeroRow, Value.cells, Nat.mod_one]
theorem padTo_zero (n : Nat) : (List.replicate (padLen n) (0 : Int)).set 0 128 = padTo n 0 := by
  have hb := padLen_bd n
  apply List.ext_getElem?
  intro j
  rw [List.getElem?_set, List.length_replicate]
  unfold padTo
  simp only [List.getElem?_map]
  by_cases hj : 0 = j
  · subst hj
    rw [if_pos rfl, if_pos (by omega), List.getElem?_range (by omega)]
    rfl
  · rw [if_neg hj, List.getElem?_replicate]
    by_cases hl : j < padLen n
    · rw [if_pos hl, List.getElem?_range hl]
      simp only [Option.map_some]
      rw [if_neg (by omega), if_neg (by omega)]
    · rw [if_neg hl, List.getElem?_eq_none (by simp; omega)]
      rfl
structure PadP (w W : World) (l : List Int) : Prop where
  below : Below w.heap.size w W
  row : RowAt W w.heap.size (bsv l) 5
set_option maxRecDepth 20000 in
set_option maxHeartbeats 1000000 in
theorem padding_any (n : Nat) (hn : n ≤ 1152921504606846976) (w : World) :
    Calls Tryd.prog 42 #[.int .i64 n] w fun e w' => e = .returned (.slice (some ⟨w.heap.size, 0, none⟩) (padLen n) (padLen n)) ∧ RowAt w' w.heap.size (bsv (padL n)) 5 ∧ Below w.heap.size w w' := by
  have hb := padLen_bd n
  obtain ⟨L, hL⟩ : ∃ L, padLen n = L := ⟨_, rfl⟩
  rw [hL] at hb
  have hmk : ∀ W : World, (Instr.makeSlice 22 (.int .i64 (9 + -(((n : Int) + 9) % 64) % 64)) (.int .i64 (9 + -(((n : Int) + 9) % 64) % 64))).run Tryd.prog W = .ok (.slice (some ⟨W.heap.size, 0, none⟩) L L) (W.alloc (.cells (zeroRow L) 5)) := by
    intro W
    rw [show 9 + -(((n : Int) + 9) % 64) % 64 = (L : Int) by rw [← hL]; unfold padLen; omega]
    exact make_bytes L (by omega) W
  have hn' : (n : Int) ≤ 1152921504606846976 := by omega
  have hL0 : (0 : Int) < L := by omega
  have r0 : RowAt (w.alloc (.cells (zeroRow L) 5)) w.heap.size (bsv (List.replicate L 0)) 5 := row_new w (zeroRow L) 5
  have c0 := (r0.cell 0).trans (bsv_get (by simp; omega))
  have f0 := r0.fz 0
  obtain ⟨z, hz⟩ : ∃ z, ((List.replicate L (0 : Int))[0]?.getD 0) = z := ⟨_, rfl⟩
  rw [hz] at c0
  clear r0 hz
  go_enter Tryd.func42, Tryd.ntmps42
  go_wp2
  go_loopw [21] (fun i W => ∃ k : Nat, k ≤ 8 ∧ i = .int .i64 k ∧ Hid (PadP w W (padTo n k))) (fun i _ => 8 - (intOf i).toNat)
  case atStart =>
    refine ⟨0, Nat.zero_le _, rfl, (Below.refl w.heap.size w).alloc (Nat.le_refl _) _, ?_⟩
    have e : (zeroRow L).setIfInBounds 0 (.int .u8 128) = bsv (padTo n 0) := by
      have := bsv_set (List.replicate L 0) 0 128
      rw [← padTo_zero, hL]
      exact this
    rw [e]
    exact row_new _ _ _
  case round =>
    obtain ⟨k, hk, rfl, HP⟩ := hrel
    obtain ⟨V, hV⟩ : ∃ V, V = wr := ⟨_, rfl⟩
    rw [← hV] at HP ⊢
    clear hV
    by_cases hlt : k < 8
    · have hlt' : (k : Int) < 8 := by omega
      have hlt2 : (k : Int) < L := by omega
      obtain ⟨p, HQ⟩ : ∃ p, Hid (L - 1 - k = p) := ⟨_, hid rfl⟩
      have hp : (p : Int) < L := by have := HQ.out; omega
      have w1 : IntKind.i64.wrap (IntKind.i64.wrap ((L : Int) - 1) - k) = (p : Int) := by have := HQ.out; rw [IntKind.wrap_i64, IntKind.wrap_i64]; omega
      have w2 : (L : Int) - 1 - k = (p : Int) := by have := HQ.out; omega
      have c1 := (HP.out.row.cell p).trans (bsv_get (by rw [padTo_len, hL]; omega))
      have f1 := HP.out.row.fz p
      obtain ⟨x, HX⟩ : ∃ x, Hid ((padTo n k)[p]?.getD 0 = x) := ⟨_, hid rfl⟩
      rw [HX.out] at c1
      go_wp2
      go_roundw
      case rel =>
        refine ⟨k + 1, by omega, by go_num, HP.out.below.setCell (Nat.le_refl _) _, ?_⟩
        have := HP.out.row.set p (.int .u8 ((n : Int) * 8 / 2 ^ (8 * k) % 256))
        rw [bsv_set, ← HQ.out, ← hL, padTo_set n k hlt] at this
        rw [← HQ.out, ← hL]
        exact this
      case measure => simp [intOf]; omega
    · have hlt' : ¬ (k : Int) < 8 := by omega
      obtain rfl : k = 8 := by omega
      go_wp2
      go_ret
      exact ⟨rfl, HP.out.row, HP.out.below⟩
end Go.Proofs.YtojcaoieodogdaaDoor
