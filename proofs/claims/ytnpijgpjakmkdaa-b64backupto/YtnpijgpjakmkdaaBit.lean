/- Bits of whole numbers. -/
import Derived.Test.YtnpijgpjakmkdaaDigit
namespace Go.Proofs.Ytnpijgpjakmkdaa
open Go.RowKit

theorem wraps_i64 (n : Int) (h0 : 0 ≤ n) (h1 : n < 2 ^ 62) : IntKind.i64.wrap n = n := by rw [IntKind.wrap_i64]; omega
theorem wraps_u32 (n : Int) (h0 : 0 ≤ n) (h1 : n < 2 ^ 32) : IntKind.u32.wrap n = n := by rw [IntKind.wrap_u32]; omega
theorem and1 (y : Int) (h0 : 0 ≤ y) (h1 : y < 256) : bits .and .i64 y 1 = y % 2 := bits_mask .i64 62 (by decide) wraps_i64 1 (by decide) y h0 (by omega)
theorem and63 (y : Int) (h0 : 0 ≤ y) (h1 : y < 4294967296) : bits .and .u32 y 63 = y % 64 := bits_mask .u32 32 (by decide) wraps_u32 6 (by decide) y h0 (by omega)
theorem or8 (B c : Int) (h0 : 0 ≤ c) (h1 : c < 256) : bits .or .u32 (B * 256 % 4294967296) c = B * 256 % 4294967296 + c :=
  bits_join .u32 32 (by decide) wraps_u32 8 _ c (by omega) (by omega) (by omega) h0 (by omega) (by omega)
theorem or6 (B c : Int) (h0 : 0 ≤ c) (h1 : c < 64) : bits .or .u32 (B * 64 % 4294967296) c = B * 64 % 4294967296 + c :=
  bits_join .u32 32 (by decide) wraps_u32 6 _ c (by omega) (by omega) (by omega) h0 (by omega) (by omega)
theorem or6i (p c : Int) (hp : 0 ≤ p) (hp1 : p < 65536) (h0 : 0 ≤ c) (h1 : c < 64) : bits .or .i64 (p * 64) c = p * 64 + c :=
  bits_join .i64 62 (by decide) wraps_i64 6 _ c (by omega) (by omega) (by omega) h0 (by omega) (by omega)
theorem textL_len (bs : List Int) : (textL bs).length = (8 * bs.length + 5) / 6 := by simp [textL, (enc_len bs).1]
theorem getD_bd {bs : List Int} (h : Oct bs) (k : Nat) : 0 ≤ bs.getD k 0 ∧ bs.getD k 0 < 256 := by
  rw [List.getD_eq_getElem?_getD]
  cases hk : bs[k]? with
  | none => simp
  | some x => simpa using h x (List.mem_of_getElem? hk)
end Go.Proofs.Ytnpijgpjakmkdaa
