/- The law's own functions: the number of an error, fields compared. -/
import Derived.Test.YtnlmjlfoeodleaaGreatDoorWReq
namespace Go.Proofs.YtnlmjlfoeodleaaGreatDoor
open Go.RowKit

theorem assertE (v : Value) (w : World) : (Instr.typeAssert (.iface 72 v) 29 72 true).run Tryz.prog w = .ok (.tuple #[v, .bool true]) w := by kernel_rfl
structure RdL2 (U : World) (g o g' o' : Nat) (N V N' V' : ByteArray) : Prop where
  a0 : U.cell? ⟨g, o, none⟩ = some (.string N)
  a1 : U.cell? ⟨g, o + 1, none⟩ = some (.string V)
  b0 : U.cell? ⟨g', o', none⟩ = some (.string N')
  b1 : U.cell? ⟨g', o' + 1, none⟩ = some (.string V')
theorem take_next {fs fs' : List (B × B)} {i : Nat} {f f' : B × B} (h : fs.take i = fs'.take i) (hf : fs[i]? = some f) (hf' : fs'[i]? = some f') (e : f = f') : fs.take (i + 1) = fs'.take (i + 1) := by
  rw [List.take_add_one, List.take_add_one, h, hf, hf', e]
end Go.Proofs.YtnlmjlfoeodleaaGreatDoor
