/- What was handed in: bytes; the library's table. -/
import Derived.Test.YtjjalgnpppegnaaDoorRows
import Derived.Test.YtjjalgnpppegnaaDoorKSl
import Derived.OpenShut
import Derived.ChangeArms
import Derived.LaidMore
import Derived.Lib.LaidTab
namespace Go.Proofs.YtjjalgnpppegnaaDoor
open Go.RowKit Go.ChangeShapes Go.WideShapes

theorem u8_back {z : Int} (h : 0 ≤ z ∧ z ≤ 255) : (((UInt8.ofNat z.toNat).toNat : Nat) : Int) = z := by
  rw [UInt8.toNat_ofNat']
  omega
theorem open_bytesK {H : Type} {enc : TypeId × Value → H} {W : World} {sp : Nat → Bool} {held : Bool} (fuel : Nat) (d : Value) (x : DataW H × List MemPlace) (h : DataW.trod enc Tryd.prog W 0 sp held fuel 24 [d] = some x) : ∃ (L : B) (p : Option Addr) (c : Nat), d = .slice p L.length c ∧ SlOk p L.length c L ∧ ArgAt W p L := by
  have c1 : Tryd.prog.cellsOf 5 = 1 := by kernel_rfl
  rcases open_ints Tryd.underlying24 Tryd.underlying5 c1 h with ⟨hcs, _⟩ | ⟨a, len, cap, zs, hcs, h1, h2, h3, h4, h5, h6, h7⟩
  · simp only [List.cons.injEq, and_true] at hcs
    exact ⟨[], none, 0, hcs, ⟨rfl, Nat.zero_le _, fun _ => rfl, fun a e => by cases e⟩, fun i y hi => by simp at hi⟩
  · simp only [List.cons.injEq, and_true] at hcs
    have hle : len ≤ zs.length := by rw [h4]; split <;> omega
    have hll : ((zs.take len).map (fun z => UInt8.ofNat z.toNat)).length = len := by rw [List.length_map, List.length_take, Nat.min_eq_left hle]
    have hA : ArgAt W (some a) ((zs.take len).map (fun z => UInt8.ofNat z.toNat)) := fun i y hi => by
      rw [List.getElem?_map] at hi
      cases hz : (zs.take len)[i]? with
      | none => rw [hz] at hi; cases hi
      | some z =>
        rw [hz] at hi
        obtain rfl := Option.some.inj hi
        rw [List.getElem?_take] at hz
        split at hz
        · have hlt : i < zs.length := (List.getElem?_eq_some_iff.1 hz).1
          have hc := h6 i hlt
          rw [List.getD_eq_getElem?_getD, hz] at hc
          have hsp : a.spot = none := World.cell?_spot (h6 0 (by omega))
          obtain ⟨g, off, spot⟩ := a
          simp only at hsp
          subst hsp
          refine ⟨g, off, rfl, ?_⟩
          rw [Go.WideShapes.add_plain] at hc
          rw [u8_back (bounds_u8 (h7 z (List.mem_of_getElem? hz)))]
          simpa using hc
        · cases hz
    exact ⟨_, some a, cap, by rw [hll]; exact hcs, ⟨rfl, by rw [hll]; omega, (fun e => by cases e), hA.plain⟩, hA⟩
def bitTab : List Int := [0, 1, 56, 2, 57, 49, 28, 3, 61, 58, 42, 50, 38, 29, 17, 4, 62, 47, 59, 36, 45, 43, 51, 22, 53, 39, 33, 30, 24, 18, 12, 5, 63, 55, 48, 27, 60, 41, 37, 16, 46, 35, 44, 21, 52, 32, 23, 11, 54, 26, 40, 15, 34, 20, 31, 10, 25, 14, 19, 9, 13, 8, 7, 6]
theorem gBit : Tryd.prog.globalNamed "math/bits.deBruijn64tab" = some 2 := by kernel_rfl
theorem tBit : (Tryd.prog.globals[2]?).map (·.type) = some 88 := by kernel_rfl
end Go.Proofs.YtjjalgnpppegnaaDoor
