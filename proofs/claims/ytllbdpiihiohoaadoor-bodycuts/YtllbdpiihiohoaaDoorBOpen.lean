/- What was handed in: bytes, framings; what the listed variables of the library hold. -/
import Derived.Test.YtllbdpiihiohoaaDoorRows
import Derived.Test.YtllbdpiihiohoaaDoorBLaw
import Derived.OpenShut
import Derived.ChangeArms
import Derived.Shelf.Vars
import Derived.LaidMore
import Derived.LaidHandle
import Derived.Lib.LaidTab
import Derived.Stop.LaidErr
import Derived.LaidLaws
namespace Go.Proofs.YtllbdpiihiohoaaDoor
open Go.RowKit Go.ChangeShapes Go.WideShapes

theorem u8_back {z : Int} (h : 0 ≤ z ∧ z ≤ 255) : (((UInt8.ofNat z.toNat).toNat : Nat) : Int) = z := by
  rw [UInt8.toNat_ofNat']
  omega
theorem bulk_lits {H : Type} : ∀ l : List Int, Rows.uptoBulkAll (lits (H := H) .u8 l) = l.length
  | [] => rfl
  | x :: l => by
    have e : lits (H := H) .u8 (x :: l) = .lit (.int .u8 x) :: lits .u8 l := rfl
    rw [e]
    simp only [Rows.uptoBulkAll, Rows.uptoBulk, List.length_cons]
    rw [bulk_lits l]
    omega
theorem bytesU8 : Tryd.prog.bytesOf 5 = 1 := by kernel_rfl
theorem open_bytesX {H : Type} {enc : TypeId × Value → H} {W : World} {sp : Nat → Bool} {held : Bool} (_hh : held = true) (fuel : Nat) (d : Value) (x : DataW H × List MemPlace) (h : DataW.trod enc Tryd.prog W 0 sp held fuel 24 [d] = some x) : ∃ (L : B) (p : Option Addr) (c : Nat), d = .slice p L.length c ∧ SlOk p L.length c L ∧ ArgAt W p L ∧ L.length + 1 ≤ Rows.uptoBulk x.1 := by
  have c1 : Tryd.prog.cellsOf 5 = 1 := by kernel_rfl
  rcases open_ints Tryd.underlying24 Tryd.underlying5 c1 h with ⟨hcs, hx0⟩ | ⟨a, len, cap, zs, hcs, h1, h2, h3, h4, h5, h6, h7⟩
  · simp only [List.cons.injEq, and_true] at hcs
    refine ⟨[], none, 0, hcs, ⟨rfl, Nat.zero_le _, fun _ => rfl, fun a e => by cases e⟩, fun i y hi => by simp at hi, ?_⟩
    rw [hx0]
    simp [Rows.uptoBulk]
  · simp only [List.cons.injEq, and_true] at hcs
    have hle : len ≤ zs.length := by rw [h4]; split <;> omega
    have hll : ((zs.take len).map (fun z => UInt8.ofNat z.toNat)).length = len := by rw [List.length_map, List.length_take, Nat.min_eq_left hle]
    have hA : ArgAt W (some a) ((zs.take len).map (fun z => UInt8.ofNat z.toNat)) := fun i y hi => by
      rw [List.getElem?_map] at hi
      cases hz : (zs.take len)[i]? with
      | none => rw [hz] at hi; cases hi
      | some z =>
        rw [hz] at hi
        obtain rfl := Option.some.inj hi
        rw [List.getElem?_take] at hz
        split at hz
        · have hlt : i < zs.length := (List.getElem?_eq_some_iff.1 hz).1
          have hc := h6 i hlt
          rw [List.getD_eq_getElem?_getD, hz] at hc
          have hsp : a.spot = none := World.cell?_spot (h6 0 (by omega))
          obtain ⟨g, off, spot⟩ := a
          simp only at hsp
          subst hsp
          refine ⟨g, off, rfl, ?_⟩
          rw [Go.WideShapes.add_plain] at hc
          rw [u8_back (bounds_u8 (h7 z (List.mem_of_getElem? hz)))]
          simpa using hc
        · cases hz
    refine ⟨_, some a, cap, by rw [hll]; exact hcs, ⟨rfl, by rw [hll]; omega, (fun e => by cases e), hA.plain⟩, hA, ?_⟩
    rw [hll, h5]
    simp only [Rows.uptoBulk]
    rw [bulk_lits, bulk_lits, List.length_take, List.length_drop]
    omega
theorem open_len {H : Type} {enc : TypeId × Value → H} {W : World} {fuel : Nat} {q : Option Addr} {n c : Nat} {y : DataW H × List MemPlace} (h : DataW.trod enc Tryd.prog W 0 (fun _ => true) true fuel 24 [.slice q n c] = some y) (hw : ∀ x ∈ y.1.weights Tryd.prog 24, x ≤ reachBytes) : n ≤ 140737488351232 := by
  rcases DataW.trod_slice Tryd.underlying24 h with ⟨e, rfl⟩ | ⟨a, len2, cap2, elems, rest, n2, rfl, e, rfl, _, hcp, _, hlen, hel, _, _⟩
  · simp only [List.cons.injEq, and_true, Value.slice.injEq] at e
    omega
  · simp only [List.cons.injEq, and_true, Value.slice.injEq] at e
    have hl := hw ((elems.length + rest.length) * Tryd.prog.bytesOf 5) (by
      simp only [DataW.weights, Tryd.underlying24, List.mem_cons, List.length_map]
      exact .inl trivial)
    rw [bytesU8] at hl
    have : (elems.length + rest.length) * 1 ≤ 140737488351232 := Nat.le_trans hl (by decide)
    omega
set_option maxHeartbeats 2000000 in
theorem open_frame {H : Type} {enc : TypeId × Value → H} {W : World} {sp : Nat → Bool} {held : Bool} (fuel : Nat) (cs : List Value) (x : DataW H × List MemPlace) (h : DataW.trod enc Tryd.prog W 0 sp held fuel 23 cs = some x) : ∃ (K N : Int), cs = [.int .i64 K, .int .i64 N] ∧ 1 ≤ Rows.uptoBulk x.1 := by
  obtain ⟨xs, n, rfl, rfl, hl, hx, hf⟩ := DataW.trod_struct Tryd.underlying23 h
  have c2 : Tryd.prog.cellsOf 23 = 2 := by kernel_rfl
  have c3 : Tryd.prog.cellsOf 3 = 1 := by kernel_rfl
  rw [c2] at hl
  have hx2 : xs.length = 2 := by rw [hx]; rfl
  rcases cs with _ | ⟨d0, _ | ⟨d1, _ | ⟨d2, r⟩⟩⟩ <;> simp at hl
  rcases xs with _ | ⟨y0, _ | ⟨y1, _ | ⟨y2, r⟩⟩⟩ <;> simp at hx2
  have f0 : DataW.trod enc Tryd.prog W 0 sp held n 3 (([d0, d1].drop 0).take (Tryd.prog.cellsOf 3)) = some y0 := hf 0 _ rfl
  rw [c3] at f0
  replace f0 : DataW.trod enc Tryd.prog W 0 sp held n 3 [d0] = some y0 := f0
  have f1 : DataW.trod enc Tryd.prog W 0 sp held n 3 (([d0, d1].drop 1).take (Tryd.prog.cellsOf 3)) = some y1 := hf 1 _ rfl
  rw [c3] at f1
  replace f1 : DataW.trod enc Tryd.prog W 0 sp held n 3 [d1] = some y1 := f1
  obtain ⟨s0, e0, rfl, _⟩ := DataW.trod_int Tryd.underlying3 f0
  obtain ⟨s1, e1, rfl, _⟩ := DataW.trod_int Tryd.underlying3 f1
  simp only [List.cons.injEq, and_true] at e0 e1
  subst e0 e1
  refine ⟨s0, s1, rfl, ?_⟩
  simp [Rows.uptoBulk, Rows.uptoBulkAll]
  try omega
theorem gErr : Tryd.prog.globalNamed "errors.errorType" = some 0 := by kernel_rfl
theorem rtyp : (Tryd.prog.cutTypes.find? (·.1 == "internal/reflectlite.rtype")).map (·.2) = some 80 := by kernel_rfl
theorem oneRow : ((List.range 146).filter fun t => Tryd.prog.rowNamed t [101, 114, 114, 111, 114]) = [27] := by kernel_rfl
theorem typesSize : Tryd.prog.types.size = 146 := by kernel_rfl
set_option maxRecDepth 100000 in
theorem env_of {W : World} (h : handlesMet Tryd.prog [("errors.errorType", Rows.laid_errors_errorType)] W) : EnvE W := by
  obtain ⟨name, u, ty, e1, e2, e3, e4, e5⟩ := h _ (List.mem_singleton.2 rfl)
  have en : name = [101, 114, 114, 111, 114] := (Option.some.inj e1).symm
  subst en
  obtain rfl := Option.some.inj (rtyp.symm.trans e2)
  have hm : ty ∈ (List.range 146).filter fun t => Tryd.prog.rowNamed t [101, 114, 114, 111, 114] := List.mem_filter.2 ⟨List.mem_range.2 (by rw [← typesSize]; exact e3), e4⟩
  rw [oneRow] at hm
  obtain rfl := List.mem_singleton.1 hm
  have hh : typeHandle Tryd.prog 27 = .pointer (some ⟨4, 27, none⟩) := by kernel_rfl
  rw [hh] at e5
  unfold EnvE
  simpa using World.var?_cell gErr e5 0
theorem gPow : Tryd.prog.globalNamed "internal/strconv.uint64pow10" = some 1 := by kernel_rfl
theorem tPow : (Tryd.prog.globals[1]?).map (·.type) = some 111 := by kernel_rfl
theorem env_pow {W : World} (h : laidMet Tryd.prog [("internal/strconv.uint64pow10", Lib.tabData .u64 Lib.pow10Tab)] W) : EnvP W :=
  Lib.tabIs_of_head gPow tPow Tryd.underlying111 Tryd.underlying74 (by kernel_rfl) (by kernel_rfl) h
end Go.Proofs.YtllbdpiihiohoaaDoor
