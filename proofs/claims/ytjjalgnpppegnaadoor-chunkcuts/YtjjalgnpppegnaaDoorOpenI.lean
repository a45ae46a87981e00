/- What was handed in: whole numbers. -/
import Derived.Test.YtjjalgnpppegnaaDoorOpenK
import Derived.Test.YtjjalgnpppegnaaDoorLCuts
namespace Go.Proofs.YtjjalgnpppegnaaDoor
open Go.RowKit Go.ChangeShapes Go.WideShapes

theorem open_intsK {H : Type} {enc : TypeId × Value → H} {W : World} {sp : Nat → Bool} {held : Bool} (fuel : Nat) (p : Option Addr) (n c : Nat) (x : DataW H × List MemPlace) (h : DataW.trod enc Tryd.prog W 0 sp held fuel 36 [.slice p n c] = some x) : IntsAt W p n := by
  have c1 : Tryd.prog.cellsOf 3 = 1 := by kernel_rfl
  rcases open_ints Tryd.underlying36 Tryd.underlying3 c1 h with ⟨hcs, _⟩ | ⟨a, len, cap, zs, hcs, h1, h2, h3, h4, h5, h6, h7⟩
  · simp only [List.cons.injEq, and_true, Value.slice.injEq] at hcs
    obtain ⟨_, rfl, _⟩ := hcs
    exact fun k hk => absurd hk (by omega)
  · simp only [List.cons.injEq, and_true, Value.slice.injEq] at hcs
    obtain ⟨rfl, rfl, rfl⟩ := hcs
    have hle : n ≤ zs.length := by rw [h4]; split <;> omega
    intro k hk
    have hc := h6 k (by omega)
    have hsp : a.spot = none := World.cell?_spot (h6 0 (by omega))
    obtain ⟨g, off, spot⟩ := a
    simp only at hsp
    subst hsp
    rw [Go.WideShapes.add_plain] at hc
    exact ⟨g, off, _, rfl, by simpa using hc⟩
end Go.Proofs.YtjjalgnpppegnaaDoor
