/- The program's reader: a part that is read is kept. -/
import Derived.Test.YtnlmjlfoeodleaaDoorPSmall
import Derived.Test.YtnlmjlfoeodleaaDoorPRel
namespace Go.Proofs.YtnlmjlfoeodleaaDoor
open Go.RowKit

theorem Own.none_of {w : World} {N n c : Nat} {p : Option Addr} {acc : B} (h : Own w N (.slice p n c) acc) : Own w N (.slice p 0 c) [] := by
  have := Own.less (a := []) (b := acc) (by simpa using h)
  simpa using this
theorem slice_part {w : World} {N n c : Nat} {p : Option Addr} {acc : B} (h : Own w N (.slice p n c) acc) : acc.length = n := by
  rcases h.2 with ⟨h1, h2⟩ | ⟨g, cap, cur, h1, _⟩
  · cases h1; exact h2
  · cases h1; rfl
theorem foot_part {F : Nat → Prop} {g n c : Nat} {p : Option Addr} {f : Value} (h : Foot F g (.slice p n c) f) (m : Nat) : Foot F g (.slice p m c) f := by
  cases p with
  | none => exact ⟨h.g, h.p, h.f⟩
  | some a => exact ⟨h.g, h.p, h.f⟩
end Go.Proofs.YtnlmjlfoeodleaaDoor
