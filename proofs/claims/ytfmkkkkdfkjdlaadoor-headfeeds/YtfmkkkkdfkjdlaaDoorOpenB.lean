/- Bytes that were handed in. -/
import Derived.Test.YtfmkkkkdfkjdlaaDoorRows
import Derived.Test.YtfmkkkkdfkjdlaaDoorPFeed
import Derived.OpenShut
import Derived.ChangeArms
namespace Go.Proofs.YtfmkkkkdfkjdlaaDoor
open Go.RowKit Go.ChangeShapes Go.WideShapes

theorem u8_back {z : Int} (h : 0 ≤ z ∧ z ≤ 255) : (((UInt8.ofNat z.toNat).toNat : Nat) : Int) = z := by
  rw [UInt8.toNat_ofNat']
  omega
theorem open_bytes {H : Type} {enc : TypeId × Value → H} {W : World} {sp : Nat → Bool} {held : Bool} (fuel : Nat) (d : Value) (x : DataW H × List MemPlace) (h : DataW.trod enc Tryd.prog W 0 sp held fuel 22 [d] = some x) : ∃ (L : B) (p : Option Addr) (c : Nat), d = .slice p L.length c ∧ (p = none → c = 0) ∧ ArgAt W p L := by
  have c1 : Tryd.prog.cellsOf 5 = 1 := by kernel_rfl
  rcases open_ints Tryd.underlying22 Tryd.underlying5 c1 h with ⟨hcs, _⟩ | ⟨a, len, cap, zs, hcs, h1, h2, h3, h4, h5, h6, h7⟩
  · simp only [List.cons.injEq, and_true] at hcs
    exact ⟨[], none, 0, hcs, fun _ => rfl, fun i y hi => by simp at hi⟩
  · simp only [List.cons.injEq, and_true] at hcs
    have hle : len ≤ zs.length := by rw [h4]; split <;> omega
    refine ⟨(zs.take len).map (fun z => UInt8.ofNat z.toNat), some a, cap, ?_, (fun e => by cases e), fun i y hi => ?_⟩
    · rw [List.length_map, List.length_take, Nat.min_eq_left hle]
      exact hcs
    · rw [List.getElem?_map] at hi
      cases hz : (zs.take len)[i]? with
      | none => rw [hz] at hi; cases hi
      | some z =>
        rw [hz] at hi
        obtain rfl := Option.some.inj hi
        rw [List.getElem?_take] at hz
        split at hz
        · have hlt : i < zs.length := (List.getElem?_eq_some_iff.1 hz).1
          have hc := h6 i hlt
          rw [List.getD_eq_getElem?_getD, hz] at hc
          have hsp : a.spot = none := World.cell?_spot (h6 0 (by omega))
          obtain ⟨g, off, spot⟩ := a
          simp only at hsp
          subst hsp
          refine ⟨g, off, rfl, ?_⟩
          rw [Go.WideShapes.add_plain] at hc
          rw [u8_back (bounds_u8 (h7 z (List.mem_of_getElem? hz)))]
          simpa using hc
        · cases hz
end Go.Proofs.YtfmkkkkdfkjdlaaDoor
