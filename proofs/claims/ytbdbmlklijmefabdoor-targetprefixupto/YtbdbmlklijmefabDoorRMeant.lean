/- The document's texts in codes, and as they are meant. -/
import Derived.Test.YtbdbmlklijmefabDoorRDec
import Derived.Test.YtbdbmlklijmefabDoorOrder
namespace Go.Proofs.YtbdbmlklijmefabDoor
open Go.RowKit

abbrev greatT : ByteArray := ⟨#[48, 49, 50, 51, 52, 53, 54, 55, 56, 57, 65, 66, 67, 68, 69, 70]⟩
theorem great_at (i : Nat) (hi : i < 16) : ∀ (j : Nat) (h : j < greatT.size), j = i → (greatT[j]'h).toNat = (greatD i).toNat := by
  intro j h e
  subst e
  have key : ∀ K : Fin 16, greatT.data[K.val]? = some (greatD K.val) := by decide
  have h2 : greatT.data[j]? = some (greatD j) := key ⟨j, hi⟩
  have h3 : greatT.data[j]? = some (greatT.data[j]'h) := Array.getElem?_eq_getElem h
  have h4 : greatT.data[j]'h = greatD j := Option.some.inj (h3.symm.trans h2)
  exact congrArg UInt8.toNat h4
theorem quo16 (X : Nat) (h : X < 256) : IntKind.u8.wrap ((X : Int) / 16) = (X : Int) / 16 := by
  have key : ∀ K : Fin 256, IntKind.u8.wrap ((K.val : Int) / 16) = (K.val : Int) / 16 := by decide +kernel
  exact key ⟨X, h⟩
theorem rem16 (X : Nat) (h : X < 256) : (X : Int).tmod 16 = (X : Int) % 16 := by
  have key : ∀ K : Fin 256, (K.val : Int).tmod 16 = (K.val : Int) % 16 := by decide +kernel
  exact key ⟨X, h⟩
theorem quo16i (X : Nat) (h : X < 256) : IntKind.i64.wrap ((X : Int) / 16) = (X : Int) / 16 := by rw [IntKind.wrap_i64]; omega
theorem new_drew (w : World) (o : Obj) : Below w.heap.size w (w.alloc o).drew := ⟨(below_new w o).os, (below_new w o).tape, (below_new w o).output, (below_new w o).size, (below_new w o).block⟩
theorem three_cells (a b : UInt8) : Lib.byteCells [37, a, b] = [.int .u8 37, .int .u8 (a.toNat : Int), .int .u8 (b.toNat : Int)] := by simp [Lib.byteCells]
theorem ofNat_nat (Y : Nat) (h : Y < 256) : (UInt8.ofNat Y).toNat = Y := by simp; omega
theorem enc_len (s : B) : (encodeB s).length ≤ 3 * s.length := by
  unfold encodeB
  induction s with
  | nil => simp
  | cons c l ih =>
    rw [List.flatMap_cons, List.length_append, List.length_cons]
    have : (if unres c = true then [c] else codeB c).length ≤ 3 := by split <;> simp [codeB]
    omega
theorem meant_none : ∀ {c : UInt8} {l : B}, codeI (c :: l) < 0 → meantB (c :: l) = c :: meantB l
  | c, [], _ => by simp [meantB]
  | c, [d], _ => by simp [meantB]
  | c, a :: b :: r, h => by
    rw [meantB]
    cases hv : codeOf c a b with
    | none => rfl
    | some v => rw [codeI_some hv] at h; omega
theorem meant_some : ∀ {c : UInt8} {l : B}, ¬ codeI (c :: l) < 0 → meantB (c :: l) = (if unres (UInt8.ofNat (codeI (c :: l)).toNat) then [UInt8.ofNat (codeI (c :: l)).toNat] else codeB (UInt8.ofNat (codeI (c :: l)).toNat)) ++ meantB (l.drop 2)
  | c, [], h => absurd (by rw [codeI_short (by simp)]; omega) h
  | c, [d], h => absurd (by rw [codeI_short (by simp)]; omega) h
  | c, a :: b :: r, h => by
    rw [meantB]
    cases hv : codeOf c a b with
    | none => rw [codeI_none hv] at h; omega
    | some v =>
      rw [codeI_some hv]
      simp
end Go.Proofs.YtbdbmlklijmefabDoor
