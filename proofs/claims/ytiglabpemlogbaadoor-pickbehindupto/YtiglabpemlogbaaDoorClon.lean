/- A row of texts, or of values, is copied into memory of its own. -/
import Derived.Test.YtiglabpemlogbaaDoorFew
namespace Go.Proofs.YtiglabpemlogbaaDoor
open Go.RowKit

theorem lt_of_block {w : World} {a : Addr} {v : Value} (h : w.cell? a = some v) : a.block < w.heap.size := by
  rcases Nat.lt_or_ge a.block w.heap.size with h2 | h2
  · exact h2
  · simp [World.cell?, Array.getElem?_eq_none h2] at h
theorem names_none {w : World} {ns : List B} (h : NamesOn w ns none) : ns = [] := by
  cases ns with
  | nil => rfl
  | cons x xs =>
    obtain ⟨g, o, e, _⟩ := h 0 x rfl
    cases e
theorem cloneN_any {w : World} {ns : List B} {p : Option Addr} {c : Nat} (h : NamesOn w ns p) (hn : ns.length ≤ 1048576) : Calls Tryd.prog 28 #[.slice p ns.length c] w fun e w' => ∃ q d, e = .returned (.slice q ns.length d) ∧ w'.ownsRow w.heap.size 9 1 (.slice q ns.length d) ns.length (strC ns) ∧ Below w.heap.size w w' := by
  cases p with
  | none =>
    obtain rfl := names_none h
    refine (Tryd.slices_Clone_string_nil 0 c w).mono ?_
    rintro e w' ⟨rfl, rfl⟩
    exact ⟨none, 0, rfl, World.ownsRow_nil _ _ _ _, Below.refl _ _⟩
  | some a =>
    cases ns with
    | nil =>
      refine (Tryd.slices_Clone_string_zero a c w).mono ?_
      rintro e w' ⟨v', rfl, ho, _, hb⟩
      obtain ⟨q, d, rfl⟩ := own_form ho
      exact ⟨q, d, rfl, ho, hb⟩
    | cons x xs =>
      obtain ⟨g, o, e, _⟩ := h 0 x rfl
      obtain rfl := Option.some.inj e
      refine (Tryd.slices_Clone_string g o (x :: xs).length c ((x :: xs).map str) w (by simp) (by omega) (names_list h)).mono ?_
      rintro e w' ⟨v', rfl, ho, _, hb⟩
      obtain ⟨q, d, rfl⟩ := own_form ho
      rw [take_map] at ho
      rw [List.map_map] at ho
      exact ⟨q, d, rfl, ho, hb⟩
theorem infoV : (Tryd.prog.info? 25).map (fun i => (i.zero, i.size, i.bytes)) = some (some (.agg #[.int .i64 0, .bool false, .string ⟨#[]⟩, .int .i64 0, .bool false, .slice none 0 0, .slice none 0 0]), 7, 96) := by kernel_rfl
theorem parts_none {w : World} {N : Nat} {ls : List JV} (h : PartsB w N ls none) : ls = [] := by
  cases ls with
  | nil => rfl
  | cons x xs =>
    obtain ⟨g, o, cs, e, _⟩ := h 0 x rfl
    cases e
theorem part_cell {w : World} {N : Nat} {ls : List JV} {g o j : Nat} (h : PartsB w N ls (some ⟨g, o, none⟩)) (hj : j < 7 * ls.length) : ∃ c, w.cell? ⟨g, o + j, none⟩ = some c ∧ c.oneCell' = true := by
  have hi : j / 7 < ls.length := by omega
  obtain ⟨g', o', cs, e, _, hv, hc⟩ := h (j / 7) ls[j / 7] (List.getElem?_eq_getElem hi)
  simp only [Option.some.injEq, Addr.mk.injEq] at e
  obtain ⟨rfl, rfl, _⟩ := e
  obtain ⟨k1, k2, k3, k4, k5, k6, k7, k8, k9, k10, k11, rfl⟩ := hv.form
  have hr : j % 7 < 7 := Nat.mod_lt _ (by decide)
  have e2 : o + j / 7 * 7 + j % 7 = o + j := by omega
  obtain ⟨r, hr2⟩ : ∃ r, j % 7 = r := ⟨_, rfl⟩
  rw [hr2] at hr e2
  have key : ∀ c, [Value.int .i64 k1, .bool k2, .string (str k3), .int .i64 k4, .bool k5, .slice k6 k7 k8, .slice k9 k10 k11][r]? = some c → c.oneCell' = true → ∃ c, w.cell? ⟨g, o + j, none⟩ = some c ∧ c.oneCell' = true := fun c h1 h2 => ⟨c, by rw [← e2]; exact hc r c h1, h2⟩
  rcases r with _ | _ | _ | _ | _ | _ | _ | r
  · exact key _ rfl rfl
  · exact key _ rfl rfl
  · exact key _ rfl rfl
  · exact key _ rfl rfl
  · exact key _ rfl rfl
  · exact key _ rfl rfl
  · exact key _ rfl rfl
  · omega
/-- The cells of a row of values. -/
def flatC (w : World) (g o n : Nat) : List Value := (List.range (7 * n)).map fun j => (w.cell? ⟨g, o + j, none⟩).getD undef
theorem flat_get {w : World} {g o n j : Nat} (h : j < 7 * n) : (flatC w g o n)[j]? = some ((w.cell? ⟨g, o + j, none⟩).getD undef) := by
  simp [flatC, List.getElem?_range h]
/-- What a copied row of values holds: the cells of the old one. -/
def Laid7 (N : Nat) (w w' : World) (ls : List JV) (gl : Nat) : Prop := (∃ cur, w'.heap[gl]? = some (.cells cur 25 (0, 0))) ∧ ∀ i x, ls[i]? = some x → ∃ cs, ValB w N x cs ∧ ∀ j c, cs[j]? = some c → w'.cell? ⟨gl, i * 7 + j, none⟩ = some c
set_option maxRecDepth 20000 in
set_option maxHeartbeats 8000000 in
theorem cloneV_any {w : World} {N : Nat} {ls : List JV} {p : Option Addr} {c : Nat} (h : PartsB w N ls p) (hn : ls.length ≤ 1048576) : Calls Tryd.prog 29 #[.slice p ls.length c] w fun e w' => ∃ q d gl, e = .returned (.slice q ls.length d) ∧ ls.length ≤ d ∧ (0 < ls.length → q = some ⟨gl, 0, none⟩ ∧ w.heap.size ≤ gl ∧ Laid7 N w w' ls gl) ∧ Below w.heap.size w w' := by
  have qn : ∀ (w : World) (a : Option Addr) (n c n' c' : Nat), (binOp .eql 22 (.slice a n c) (.slice none n' c')).run Tryd.prog w = .ok (.bool a.isNone) w := fun w a n c n' c' => Lib.run_eql_slice_nil w _ _ a n c n' c' Tryd.underlying22
  cases p with
  | none =>
    obtain rfl := parts_none h
    clear h hn
    go_enter Tryd.func29, Tryd.ntmps29
    go_wp2
    go_ret
    exact ⟨none, 0, 0, rfl, Nat.le_refl _, fun h => absurd h (by simp), Below.refl _ _⟩
  | some a =>
    obtain ⟨i0, hi0, hz0, hz1, hz2⟩ := info_parts infoV
    obtain ⟨n, e1⟩ : ∃ n, ls.length = n := ⟨_, rfl⟩
    obtain ⟨news, hl, hnews, hone, hcs⟩ : ∃ news : List Value, news.length = n * 7 ∧ (∀ j u, news[j]? = some u → w.cell? (a.add j) = some u) ∧ (∀ u ∈ news, u.oneCell' = true) ∧ (∀ i x, ls[i]? = some x → ∃ cs, ValB w N x cs ∧ ∀ j c, cs[j]? = some c → news[i * 7 + j]? = some c) := by
      cases ls with
      | nil =>
        refine ⟨[], by simp at e1; simp [← e1], fun j u hj => by simp at hj, fun u hu => by simp at hu, fun i x hi => by simp at hi⟩
      | cons y ys =>
        obtain ⟨g, o, _, e, _⟩ := h 0 y rfl
        obtain rfl := Option.some.inj e
        have hadd : ∀ j, (⟨g, o, none⟩ : Addr).add j = ⟨g, o + j, none⟩ := fun j => by unfold Addr.add; split <;> simp_all
        refine ⟨flatC w g o n, by simp [flatC]; omega, fun j u hj => ?_, fun u hu => ?_, fun i x hi => ?_⟩
        · have hlt : j < 7 * n := by
            have := (List.getElem?_eq_some_iff.1 hj).1
            simpa [flatC] using this
          rw [flat_get hlt] at hj
          obtain ⟨c, hc, _⟩ := part_cell h (by rw [e1]; exact hlt)
          rw [hc] at hj
          simp only [Option.getD_some, Option.some.injEq] at hj
          rw [hadd, hc, hj]
        · obtain ⟨j, hj, rfl⟩ := List.mem_map.1 hu
          have hlt : j < 7 * n := List.mem_range.1 hj
          obtain ⟨c, hc, h1⟩ := part_cell h (by rw [e1]; exact hlt)
          rw [hc]
          exact h1
        · obtain ⟨g', o', cs, e, _, hv, hc⟩ := h i x hi
          simp only [Option.some.injEq, Addr.mk.injEq] at e
          obtain ⟨rfl, rfl, _⟩ := e
          refine ⟨cs, hv, fun j c hj => ?_⟩
          have hi2 : i < n := by rw [← e1]; exact (List.getElem?_eq_some_iff.1 hi).1
          have hj7 : j < 7 := by
            obtain ⟨k1, k2, k3, k4, k5, k6, k7, k8, k9, k10, k11, rfl⟩ := hv.form
            have := (List.getElem?_eq_some_iff.1 hj).1
            simpa using this
          rw [flat_get (by omega), show o + (i * 7 + j) = o + i * 7 + j by omega, hc j c hj]
          rfl
    have HH := hid (And.intro hl (And.intro hnews (And.intro hone hcs)))
    have HLs := hid e1
    rw [e1] at hn ⊢
    clear h e1 hl hnews hone hcs
    go_enter Tryd.func29, Tryd.ntmps29
    go_wp2_with (at_builtin; refine wpList_append_own_at (w.alloc (.cells #[] 25 (0, 0))) rfl (.tmp 5) (.tmp 6) 22 rfl w.heap.size 25 i0 _ 7 96 Tryd.underlying22 hi0 hz0 hz1 hz2 rfl (by decide) (.slice (some ⟨w.heap.size, 0, none⟩) 0 0) 0 [] (by go_simp) (⟨rfl, .inr ⟨w.heap.size, 0, #[], rfl, Nat.le_refl _, heap_alloc_new _ _, Nat.le_refl _, Nat.zero_le _, rfl, rfl⟩⟩) a n c news (by go_simp) HH.out.1 (fun j u hj => by have := HH.out.2.1 j u hj; rw [(below_new w _).cell (lt_of_block this)]; exact this) HH.out.2.2.1 (by unfold maxLen; omega) (by omega) (below_new _ _).size ?_; intro v' w' hown hgr _ _; rw [Nat.zero_add, List.nil_append] at hown; obtain ⟨q, d, rfl⟩ := own_form hown; have HOw := hid hown; have HBw := hid ((below_new w (.cells #[] 25 (0, 0))).trans (show Below w.heap.size (w.alloc (.cells #[] 25 (0, 0))) w' from ⟨hgr.os, hgr.tape, hgr.output, hgr.size, fun k hk => hgr.block k (by simp; omega) (by simp [Value.ownBlock]; omega)⟩)); clear hown hgr)
    go_ret
    rcases HOw.out.2 with ⟨h1, h2⟩ | ⟨g, cap, cur, h1, h2, h3, h4, _, h6, h7⟩
    · exact ⟨q, d, 0, rfl, by omega, fun h => by omega, HBw.out⟩
    · simp only [Value.slice.injEq] at h1
      obtain ⟨rfl, _, rfl⟩ := h1
      refine ⟨_, _, g, rfl, h4, fun _ => ⟨rfl, h2, ⟨cur, h3⟩, fun i x hi => ?_⟩, HBw.out⟩
      obtain ⟨cs, hv, hc⟩ := HH.out.2.2.2 i x hi
      refine ⟨cs, hv, fun j c hj => ?_⟩
      have e := hc j c hj
      have hlt : i * 7 + j < n * 7 := by
        have := (List.getElem?_eq_some_iff.1 e).1
        rw [HH.out.1] at this
        exact this
      rw [← h7, List.getElem?_take, if_pos hlt] at e
      simp only [World.cell?, h3]
      simpa using e
end Go.Proofs.YtiglabpemlogbaaDoor
