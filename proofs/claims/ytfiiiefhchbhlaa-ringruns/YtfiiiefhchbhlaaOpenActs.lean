/- A slice of acts that came in. -/
import Derived.Test.YtfiiiefhchbhlaaOpen
import Derived.Test.YtfiiiefhchbhlaaRunsWalk
import Derived.Deep.Strs
namespace Go.Proofs.Ytfiiiefhchbhlaa
open Go.ChangeShapes Go.WideShapes Go.ChangeAt Go.RowKit Go.Deep

theorem weights_mem {H : Type} {e : TypeId} {d : DataW H} : ∀ {l : List (DataW H)}, d ∈ l → ∀ x ∈ d.weights Try.prog e, x ∈ DataW.weightsAll Try.prog e l
  | [], hd, _, _ => by simp at hd
  | c :: r, hd, x, hx => by
    simp only [DataW.weightsAll, List.mem_append]
    rcases List.mem_cons.1 hd with rfl | hd
    · exact .inl hx
    · exact .inr (weights_mem hd x hx)
theorem bytes5 : Try.prog.bytesOf 5 = 1 := by kernel_rfl
theorem cells38 : Try.prog.cellsOf 38 = 3 := by kernel_rfl
theorem cells28 : Try.prog.cellsOf 28 = 1 := by kernel_rfl
theorem cell_place {W : World} {a : Addr} {v : Value} (h : W.cell? a = some v) : a.spot = none ∧ a.block < W.heap.size := by
  unfold World.cell? at h
  split at h
  · rename_i c t f hh
    refine ⟨?_, lt_of_heap hh⟩
    cases hs : a.spot with
    | none => rfl
    | some s => simp [hs] at h
  · simp at h
theorem cells3_of {W : World} {b o base : Nat} {cs : List Value} (h : W.cells? base ⟨b, o, none⟩ 3 = some cs) : ∃ x y z, cs = [x, y, z] ∧ W.cell? ⟨b, o, none⟩ = some x ∧ W.cell? ⟨b, o + 1, none⟩ = some y ∧ W.cell? ⟨b, o + 2, none⟩ = some z := by
  unfold World.cells? at h
  split at h
  · have hr : List.range 3 = [0, 1, 2] := rfl
    rw [hr] at h
    simp only [List.mapM_cons, List.mapM_nil, Option.bind_eq_bind, Option.bind_eq_some_iff, Option.pure_def, Option.some.injEq, add_plain] at h
    obtain ⟨x, hx, l1, ⟨y, hy, l2, ⟨z, hz, l3, rfl, rfl⟩, rfl⟩, rfl⟩ := h
    exact ⟨x, y, z, rfl, hx, hy, hz⟩
  · simp at h
/-- The bytes of one act. -/
theorem open_vb {H : Type} {enc : TypeId × Value → H} {W : World} {fuel : Nat} {v : Value} {y : DataW H × List MemPlace} (h : DataW.trod enc Try.prog W 0 (fun _ => true) true fuel 28 [v] = some y) (hw : ∀ x ∈ y.1.weights Try.prog 28, x ≤ reachBytes) :
    ∃ pb nb cb bs, v = .slice pb nb cb ∧ OldB W (.slice pb nb cb) bs ∧ bs.length = nb ∧ nb ≤ 140737488355328 := by
  rcases open_ints Try.underlying28 Try.underlying5 cells5 h with ⟨hcs, _⟩ | ⟨a, len, cap, zs, hcs, h1, h2, h3, h4, h5, h6, h7⟩
  · obtain rfl : v = .slice none 0 0 := by simpa using hcs
    exact ⟨none, 0, 0, [], rfl, .inl (.inl ⟨rfl, rfl⟩), rfl, by omega⟩
  · obtain rfl : v = .slice (some a) len cap := by simpa using hcs
    simp only [if_true] at h4
    subst h5
    have hlen : len ≤ 140737488355328 := by
      have := hw ((len + (cap - len)) * 1) (by
        simp only [DataW.weights, Try.underlying28, bytes5]
        simp [Go.ChangeShapes.lits, h4]
        left
        omega)
      unfold reachBytes at this
      omega
    by_cases hc : cap = 0
    · obtain rfl : len = 0 := by omega
      subst hc
      exact ⟨some a, 0, 0, [], rfl, .inr ⟨a, rfl, rfl⟩, rfl, by omega⟩
    · have h0 := h6 0 (by omega)
      obtain ⟨hs, hb⟩ := cell_place h0
      obtain ⟨b, o, sp⟩ := a
      have hs' : sp = none := by
        cases sp with
        | none => rfl
        | some s => simp [Addr.add] at hs
      subst hs'
      rw [add_plain] at hb
      have hl : (zs.take len).length = len := by simp; omega
      refine ⟨some ⟨b, o, none⟩, len, cap, zs.take len, rfl, .inl (.inr ⟨b, o, cap, hb, by rw [hl], by omega, h3, ?_⟩), hl, hlen⟩
      intro j x hj
      rw [List.getElem?_take] at hj
      split at hj
      · have := h6 j (by omega)
        rw [add_plain] at this
        rw [this]
        simp [List.getD, hj]
      · simp at hj
set_option maxRecDepth 100000 in
theorem open_acts {H : Type} {enc : TypeId × Value → H} {W : World} {base : Nat} {v : Value} {d : DataW H} {p : List MemPlace} (hv : Value.okWide Try.prog W .any base 22 v) (h : DataW.Trod enc Try.prog W 0 (fun _ => true) true 22 v d p) (hw : ∀ x ∈ d.weights Try.prog 22, x ≤ reachBytes) :
    ∃ (pc : Option Addr) (M c : Nat), v = .slice pc M c ∧ ActsAt W pc M := by
  obtain ⟨pa, len0, cap0, rfl⟩ := okWide_slice Try.underlying22 hv
  obtain ⟨fuel, hf⟩ := h
  rcases DataW.trod_slice Try.underlying22 hf with ⟨hcs, _⟩ | ⟨a, len, cap, elems, rest, n, _, hcs, hd, h1, h2, h3, h4, h5, h6, h7⟩
  · simp only [Value.cells] at hcs
    obtain ⟨rfl, rfl, rfl⟩ : pa = none ∧ len0 = 0 ∧ cap0 = 0 := by simpa using hcs
    exact ⟨none, 0, 0, rfl, fun k hk => by omega⟩
  · simp only [Value.cells] at hcs
    obtain ⟨rfl, rfl, rfl⟩ : pa = some a ∧ len0 = len ∧ cap0 = cap := by simpa using hcs
    obtain ⟨hs, hb⟩ := slice_place Try.underlying22 hv
    obtain ⟨b, o, sp⟩ := a
    simp only at hs hb
    subst hs
    obtain ⟨rfl, _⟩ := Prod.mk.inj hd
    refine ⟨some ⟨b, o, none⟩, len0, cap0, rfl, ?_⟩
    intro k hk
    have h8 := h5 k hk
    rw [cells38, add_plain] at h8
    obtain ⟨y, hy⟩ : ∃ y, elems[k]? = some y := ⟨_, List.getElem?_eq_getElem (by omega)⟩
    rw [hy, Option.bind_eq_some_iff] at h8
    obtain ⟨cs, hc, ht⟩ := h8
    obtain ⟨x0, x1, x2, rfl, e0, e1, e2⟩ := cells3_of hc
    obtain ⟨y0, y1, y2, n', rfl, _, t0, t1, t2⟩ := trod_struct3 Try.underlying38 ht
    have t0' : DataW.trod enc Try.prog W 0 (fun _ => true) true n' 3 [x0] = some y0 := by simpa [cells3i] using t0
    have t1' : DataW.trod enc Try.prog W 0 (fun _ => true) true n' 3 [x1] = some y1 := by simpa [cells3i] using t1
    have t2' : DataW.trod enc Try.prog W 0 (fun _ => true) true n' 28 [x2] = some y2 := by simpa [cells28] using t2
    obtain ⟨kind, hx0, _, _⟩ := DataW.trod_int Try.underlying3 t0'
    obtain ⟨m, hx1, _, wm⟩ := DataW.trod_int Try.underlying3 t1'
    have hwt : ∀ x ∈ y2.1.weights Try.prog 28, x ≤ reachBytes := by
      intro x hx
      refine hw x ?_
      simp only [DataW.weights, Try.underlying22, List.mem_cons, List.mem_append]
      right; left
      refine weights_mem (List.mem_map.2 ⟨_, List.mem_of_getElem? hy, rfl⟩) x ?_
      simp only [DataW.weights, Try.underlying38, DataW.weightsEach, List.map_cons, List.map_nil, List.mem_append]
      simp [hx]
    obtain ⟨pb, nb, cb, bs, hx2, hold, hl, hl2⟩ := open_vb t2' hwt
    simp only [List.cons.injEq, and_true] at hx0 hx1
    subst hx0
    subst hx1
    subst hx2
    exact ⟨b, o, kind, m, pb, nb, cb, bs, rfl, hb, e0, e1, e2, (bounds_i64 wm).2, hold, hl, hl2⟩
end Go.Proofs.Ytfiiiefhchbhlaa
