/- The program's reader: its small functions. -/
import Derived.Test.YtnlmjlfoeodleaaGreatDoorPMem
import Derived.Test.YtnlmjlfoeodleaaGreatDoorPRel
import Derived.Maps.AppendAt
namespace Go.Proofs.YtnlmjlfoeodleaaGreatDoor
open Go.RowKit

def verA : ByteArray := { data := #[72, 84, 84, 80, 47, 49, 46] }
theorem ver_byte (n : Nat) (h2 : n < ({ data := #[72, 84, 84, 80, 47, 49, 46] } : ByteArray).size) : ver0[n]? = some (({ data := #[72, 84, 84, 80, 47, 49, 46] } : ByteArray)[n]'h2) := by
  have h : n < 7 := h2
  have : n = 0 ∨ n = 1 ∨ n = 2 ∨ n = 3 ∨ n = 4 ∨ n = 5 ∨ n = 6 := by omega
  rcases this with rfl | rfl | rfl | rfl | rfl | rfl | rfl <;> rfl
theorem ver_at (n : Nat) (h : n < 7) (h2 : n < ({ data := #[72, 84, 84, 80, 47, 49, 46] } : ByteArray).size) (c : UInt8) : ((c.toNat : Int) == ((({ data := #[72, 84, 84, 80, 47, 49, 46] } : ByteArray)[n]'h2).toNat : Int)) = verAt n c := by
  unfold verAt
  rw [if_pos h, ver_byte n h2, Bool.eq_iff_iff, decide_eq_true_iff, beq_iff_eq]
  constructor
  · intro e
    congr 1
    exact UInt8.toNat_inj.1 (by omega)
  · intro e
    rw [Option.some.inj e]
end Go.Proofs.YtnlmjlfoeodleaaGreatDoor
/- The program's reader: a part that is read is kept. -/
namespace Go.Proofs.YtnlmjlfoeodleaaGreatDoor
open Go.RowKit

theorem Own.none_of {w : World} {N n c : Nat} {p : Option Addr} {acc : B} (h : Own w N (.slice p n c) acc) : Own w N (.slice p 0 c) [] := by
  have := Own.less (a := []) (b := acc) (by simpa using h)
  simpa using this
theorem slice_part {w : World} {N n c : Nat} {p : Option Addr} {acc : B} (h : Own w N (.slice p n c) acc) : acc.length = n := by
  rcases h.2 with ⟨h1, h2⟩ | ⟨g, cap, cur, h1, _⟩
  · cases h1; exact h2
  · cases h1; rfl
theorem foot_part {F : Nat → Prop} {g n c : Nat} {p : Option Addr} {f : Value} (h : Foot F g (.slice p n c) f) (m : Nat) : Foot F g (.slice p m c) f := by
  cases p with
  | none => exact ⟨h.g, h.p, h.f⟩
  | some a => exact ⟨h.g, h.p, h.f⟩
end Go.Proofs.YtnlmjlfoeodleaaGreatDoor
/- The program's reader: a row of bytes goes on or ends. -/
namespace Go.Proofs.YtnlmjlfoeodleaaGreatDoor
open Go.RowKit

theorem u8_ne {c x : UInt8} (h : c ≠ x) : ((c.toNat : Int) == (x.toNat : Int)) = false := by
  rw [beq_eq_false_iff_ne]
  exact fun e => h (UInt8.toNat_inj.1 (by omega))
end Go.Proofs.YtnlmjlfoeodleaaGreatDoor
/- The program's reader: the end of a line. -/
namespace Go.Proofs.YtnlmjlfoeodleaaGreatDoor
open Go.RowKit

structure RdE (U : World) (g : Nat) (c6 c7 c13 : Value) : Prop where
  a6 : U.cell? ⟨g, 6, none⟩ = some c6
  a7 : U.cell? ⟨g, 7, none⟩ = some c7
  a13 : U.cell? ⟨g, 13, none⟩ = some c13
theorem RdE.below {U V : World} {g : Nat} {c6 c7 c13 : Value} (h : RdE U g c6 c7 c13) (hb : Below U.heap.size U V) : RdE V g c6 c7 c13 := ⟨cell_keep hb h.a6, cell_keep hb h.a7, cell_keep hb h.a13⟩
theorem two_cells {V : World} {g : Nat} {a b : Value} {T : TypeId} (h : V.heap[g]? = some (.cells #[a, b] T (0, 0))) : ∀ j u, [a, b][j]? = some u → V.cell? ((⟨g, 0, none⟩ : Addr).add j) = some u := by
  intro j u hj
  rw [add_off]
  simp only [World.cell?, h]
  simpa using hj
theorem sliceF_len {w : World} {N n c : Nat} {p : Option Addr} {acc : List (B × B)} (h : OwnF w N (.slice p n c) acc) : acc.length = n := by
  rcases h.2 with ⟨h1, h2⟩ | ⟨g, cap, cur, h1, _⟩
  · cases h1; exact h2
  · cases h1; rfl
end Go.Proofs.YtnlmjlfoeodleaaGreatDoor
/- The program's reader: a step. -/
namespace Go.Proofs.YtnlmjlfoeodleaaGreatDoor
open Go.RowKit

end Go.Proofs.YtnlmjlfoeodleaaGreatDoor
