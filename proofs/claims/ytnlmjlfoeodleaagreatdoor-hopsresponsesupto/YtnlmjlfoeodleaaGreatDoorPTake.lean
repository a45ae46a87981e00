/- The program's reader: a byte is taken. -/
import Derived.Test.YtnlmjlfoeodleaaGreatDoorPStep
import Derived.Test.YtnlmjlfoeodleaaGreatDoorPRead
namespace Go.Proofs.YtnlmjlfoeodleaaGreatDoor
open Go.RowKit

structure RdT (U : World) (g : Nat) (c1 c2 : Value) : Prop where
  a1 : U.cell? ⟨g, 1, none⟩ = some c1
  a2 : U.cell? ⟨g, 2, none⟩ = some c2
theorem Only.drew {F : Nat → Prop} {w w' : World} (h : Only F w w') : Only F w w'.drew := ⟨h.os, h.tape, h.output, h.size, h.block⟩
theorem take_size {s : PS} {c : UInt8} (h : s.most < (s.taken : Int) + 1) : takeP s c = spoilP (s.taken + 1) 22 := by unfold takeP; rw [if_pos h]
theorem take_none {s : PS} {c : UInt8} (h : ¬ s.most < (s.taken : Int) + 1) (hs : stepP { s with taken := s.taken + 1 } c = none) : takeP s c = spoilP (s.taken + 1) (faultN s.st) := by unfold takeP; rw [if_neg h, hs]
theorem take_many {s s' : PS} {c : UInt8} (h : ¬ s.most < (s.taken : Int) + 1) (hs : stepP { s with taken := s.taken + 1 } c = some s') (h64 : 64 < s'.fields.length) : takeP s c = spoilP (s.taken + 1) 22 := by unfold takeP; rw [if_neg h, hs]; dsimp only; rw [if_pos h64]
theorem take_some {s s' : PS} {c : UInt8} (h : ¬ s.most < (s.taken : Int) + 1) (hs : stepP { s with taken := s.taken + 1 } c = some s') (h64 : ¬ 64 < s'.fields.length) : takeP s c = s' := by unfold takeP; rw [if_neg h, hs]; dsimp only; rw [if_neg h64]
theorem fault_ne (n : Nat) : faultN n ≠ 0 := by unfold faultN; split <;> simp
end Go.Proofs.YtnlmjlfoeodleaaGreatDoor
