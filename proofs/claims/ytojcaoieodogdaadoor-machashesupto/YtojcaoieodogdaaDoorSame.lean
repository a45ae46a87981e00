/- The words of a block, the program's and the document's, are the same. -/
import Derived.Test.YtojcaoieodogdaaDoorRSched
import Derived.Laws.BitsAll
namespace Go.Proofs.YtojcaoieodogdaaDoor
open Go.RowKit

theorem or_join (x y : Int) (i : Nat) (hx0 : 0 ≤ x) (hx1 : x < 4294967296) (hx : x % 2 ^ i = 0) (hy0 : 0 ≤ y) (hy1 : y < 4294967296) (hy : y < 2 ^ i) : bits .or .u32 x y = x + y := by
  rw [u32_or x y hx0 hx1 hy0 hy1]
  obtain ⟨a, rfl⟩ : ∃ a : Nat, x = a := ⟨x.toNat, by omega⟩
  obtain ⟨b, rfl⟩ : ∃ b : Nat, y = b := ⟨y.toNat, by omega⟩
  simp only [Int.toNat_natCast]
  rw [nat_join i a b (by exact_mod_cast hx) (by exact_mod_cast hy)]
  push_cast
  rfl
def part4 (blk : List Int) (j : Nat) : Nat → Int
  | 0 => 0
  | n + 1 => bits .or .u32 (part4 blk j n * 256 % 4294967296) (blk[4 * j + n]?.getD 0 % 4294967296)
theorem sfill_at (blk : List Int) : ∀ k, k ≤ 64 → ∀ j, j < 16 → (sfill blk k)[j]?.getD 0 = part4 blk j (min 4 (k - 4 * j))
  | 0, _, j, hj => by
    have : (sfill blk 0)[j]?.getD 0 = 0 := by
      show (List.replicate 64 (0 : Int))[j]?.getD 0 = 0
      rw [List.getElem?_replicate, if_pos (by omega)]
      rfl
    rw [this, show min 4 (0 - 4 * j) = 0 by omega]
    rfl
  | k + 1, hk, j, hj => by
    have ih := sfill_at blk k (by omega)
    have hl := sfill_len blk k
    show (s1step blk (sfill blk k) k)[j]?.getD 0 = _
    unfold s1step
    by_cases h : k / 4 = j
    · rw [List.getElem?_set, if_pos h, if_pos (by omega)]
      simp only [Option.getD_some]
      rw [h, ih j hj, show min 4 (k + 1 - 4 * j) = min 4 (k - 4 * j) + 1 by omega]
      show _ = bits .or .u32 (part4 blk j (min 4 (k - 4 * j)) * 256 % 4294967296) (blk[4 * j + min 4 (k - 4 * j)]?.getD 0 % 4294967296)
      rw [show 4 * j + min 4 (k - 4 * j) = k by omega]
    · rw [List.getElem?_set, if_neg h, ih j hj]
      congr 1
      omega
theorem word_same (blk : List Int) (hb : ∀ x ∈ blk, 0 ≤ x ∧ x < 256) (j : Nat) : part4 blk j 4 = rword blk j := by
  have hx : ∀ i : Nat, 0 ≤ (blk[i]?.getD 0 : Int) ∧ (blk[i]?.getD 0 : Int) < 256 := by
    intro i
    cases h : blk[i]? with
    | none => simp
    | some x => exact hb x (List.mem_of_getElem? h)
  have h0 := hx (4 * j + 0)
  have h1 := hx (4 * j + 1)
  have h2 := hx (4 * j + 2)
  have h3 := hx (4 * j + 3)
  unfold rword
  simp only [part4, IntKind.wrap_u32']
  generalize blk[4 * j + 0]?.getD 0 = a at *
  generalize blk[4 * j + 1]?.getD 0 = b at *
  generalize blk[4 * j + 2]?.getD 0 = c at *
  generalize blk[4 * j + 3]?.getD 0 = d at *
  rw [or_join (0 * 256 % 4294967296) (a % 4294967296) 8 (by omega) (by omega) (by omega) (by omega) (by omega) (by omega)]
  rw [or_join ((0 * 256 % 4294967296 + a % 4294967296) * 256 % 4294967296) (b % 4294967296) 8 (by omega) (by omega) (by omega) (by omega) (by omega) (by omega)]
  rw [or_join (((0 * 256 % 4294967296 + a % 4294967296) * 256 % 4294967296 + b % 4294967296) * 256 % 4294967296) (c % 4294967296) 8 (by omega) (by omega) (by omega) (by omega) (by omega) (by omega)]
  rw [or_join ((((0 * 256 % 4294967296 + a % 4294967296) * 256 % 4294967296 + b % 4294967296) * 256 % 4294967296 + c % 4294967296) * 256 % 4294967296) (d % 4294967296) 8 (by omega) (by omega) (by omega) (by omega) (by omega) (by omega)]
  rw [or_join (a % 4294967296 * 16777216 % 4294967296) (b % 4294967296 * 65536 % 4294967296) 24 (by omega) (by omega) (by omega) (by omega) (by omega) (by omega)]
  rw [or_join (a % 4294967296 * 16777216 % 4294967296 + b % 4294967296 * 65536 % 4294967296) (c % 4294967296 * 256 % 4294967296) 16 (by omega) (by omega) (by omega) (by omega) (by omega) (by omega)]
  rw [or_join (a % 4294967296 * 16777216 % 4294967296 + b % 4294967296 * 65536 % 4294967296 + c % 4294967296 * 256 % 4294967296) (d % 4294967296) 8 (by omega) (by omega) (by omega) (by omega) (by omega) (by omega)]
  omega
theorem grow_same (l r : List Int) (hl : l.length = 64) (hr : r.length = 16) (h : ∀ i, i < 16 → l[i]?.getD 0 = r[i]?.getD 0) : ∀ k, k ≤ 48 → ∀ i, i < 16 + k → (sgrow l k)[i]?.getD 0 = (rgrow r k)[i]?.getD 0
  | 0, _, i, hi => h i hi
  | k + 1, hk, i, hi => by
    have ih := grow_same l r hl hr h k (by omega)
    have h1 := sgrow_len l k
    have h2 := rgrow_len r k
    show (s2step (sgrow l k) (16 + k))[i]?.getD 0 = (rstep (rgrow r k) (16 + k))[i]?.getD 0
    unfold s2step rstep
    rw [ih (16 + k - 2) (by omega), ih (16 + k - 7) (by omega), ih (16 + k - 15) (by omega), ih (16 + k - 16) (by omega)]
    by_cases he : i = 16 + k
    · subst he
      rw [List.getElem?_set, if_pos rfl, if_pos (by omega), List.getElem?_append_right (by omega), show 16 + k - (rgrow r k).length = 0 by omega]
      rfl
    · rw [List.getElem?_set, if_neg (by omega), List.getElem?_append_left (by omega)]
      exact ih i (by omega)
theorem sched_same (blk : List Int) (hb : ∀ x ∈ blk, 0 ≤ x ∧ x < 256) : rsched blk = sched blk := by
  apply List.ext_getElem
  · rw [rsched, rgrow_len, rfill_len, sched_len]
  · intro i h1 h2
    rw [sched_len] at h2
    have := grow_same (sfill blk 64) (rfill blk 16) (sfill_len blk 64) (rfill_len blk 16) (fun j hj => by
      rw [sfill_at blk 64 (Nat.le_refl _) j hj, show min 4 (64 - 4 * j) = 4 by omega, word_same blk hb j]
      simp [rfill, hj]) 48 (Nat.le_refl _) i (by omega)
    have e1 : (sched blk)[i]?.getD 0 = (rsched blk)[i]?.getD 0 := this
    rw [List.getElem?_eq_getElem h1, List.getElem?_eq_getElem (by rw [sched_len]; exact h2)] at e1
    exact e1.symm
end Go.Proofs.YtojcaoieodogdaaDoor
