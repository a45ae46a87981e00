/- The document's texts without codes, and parts of a query. -/
import Derived.Test.YtbdbmlklijmefabDoorRRow
namespace Go.Proofs.YtbdbmlklijmefabDoor
open Go.RowKit

theorem dec_plain {c : UInt8} (h : c ≠ 37) : ∀ l : B, decodeB (c :: l) = (decodeB l).map (c :: ·)
  | [] => by simp [decodeB, h]
  | [d] => by simp only [decodeB]; rw [if_neg h]
  | a :: b :: r => by rw [decodeB, if_neg h]
theorem dec_at : ∀ l : B, decodeB (37 :: l) = if codeI (37 :: l) < 0 then none else (decodeB (l.drop 2)).map (UInt8.ofNat (codeI (37 :: l)).toNat :: ·)
  | [] => by rw [codeI_short (by simp)]; simp [decodeB]
  | [d] => by rw [codeI_short (by simp)]; simp [decodeB]
  | a :: b :: r => by
    rw [decodeB, if_pos rfl]
    cases hv : codeOf 37 a b with
    | none => rw [codeI_none hv]; simp
    | some v =>
      rw [codeI_some hv]
      rw [if_neg (by omega)]
      simp
/-- A text or the error. -/
def decV (r : Option B) : Value := match r with
  | some t => .tuple #[.string (str t), .int .i64 0]
  | none => .tuple #[.string (str []), .int .i64 23]
theorem u8_wrap (Z : Nat) (h : Z < 256) : IntKind.u8.wrap (Z : Int) = (Z : Int) := by
  have key : ∀ K : Fin 256, IntKind.u8.wrap (K.val : Int) = (K.val : Int) := by decide +kernel
  exact key ⟨Z, h⟩
theorem of_cell (Z : Nat) (h : Z < 256) : Lib.byteCells [UInt8.ofNat Z] = [.int .u8 (Z : Int)] := by
  rw [one_cell]
  simp
  omega
theorem decV_fst (r : Option B) : ∃ k : Int, decV r = .tuple #[.string (str (r.getD [])), .int .i64 k] := by
  cases r with
  | none => exact ⟨23, rfl⟩
  | some t => exact ⟨0, rfl⟩
end Go.Proofs.YtbdbmlklijmefabDoor
