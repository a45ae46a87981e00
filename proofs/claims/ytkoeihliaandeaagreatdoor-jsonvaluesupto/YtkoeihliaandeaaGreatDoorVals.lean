/- Values that lie in memory, opened part by part. -/
import Derived.Test.YtkoeihliaandeaaGreatDoorParse
import Derived.Test.YtkoeihliaandeaaGreatDoorSpec
namespace Go.Proofs.YtkoeihliaandeaaGreatDoor
open Go.RowKit

/-- These cells are the value; all that they lead to lies in memory. -/
def ValOn (w : World) (t : JV) (cs : List Value) : Prop := ∃ F : Nat → Prop, (∀ k, F k → k < w.heap.size) ∧ ValIs w F t cs
/-- The parts of a list. -/
def PartsOn (w : World) (ls : List JV) (p : Option Addr) : Prop := ∀ i t, ls[i]? = some t → ∃ g o cs, p = some ⟨g, o, none⟩ ∧ ValOn w t cs ∧ ∀ j c, cs[j]? = some c → w.cell? ⟨g, o + i * 7 + j, none⟩ = some c
/-- The names of an object. -/
def NamesOn (w : World) (ns : List B) (p : Option Addr) : Prop := ∀ j t, ns[j]? = some t → ∃ g o, p = some ⟨g, o, none⟩ ∧ w.cell? ⟨g, o + j, none⟩ = some (.string (str t))
theorem ValOn.below {w w' : World} {t : JV} {cs : List Value} (h : ValOn w t cs) (hb : Below w.heap.size w w') : ValOn w' t cs := by
  obtain ⟨F, h1, h2⟩ := h
  exact ⟨F, fun k hk => Nat.lt_of_lt_of_le (h1 k hk) hb.size, ValIs.keep (fun k hk => hb.block k (h1 k hk)) (fun _ h => h) _ _ h2⟩
theorem ValOn.of {w' : World} {a : Nat} {t : JV} {cs : List Value} (h : ValIs w' (fun k => a ≤ k ∧ k < w'.heap.size) t cs) : ValOn w' t cs := ⟨_, fun _ hk => hk.2, h⟩
theorem PartsOn.below {w w' : World} {ls : List JV} {p : Option Addr} (h : PartsOn w ls p) (hb : Below w.heap.size w w') : PartsOn w' ls p := by
  intro i t hi
  obtain ⟨g, o, cs, h1, h2, h3⟩ := h i t hi
  refine ⟨g, o, cs, h1, h2.below hb, fun j c hj => ?_⟩
  have := h3 j c hj
  rw [hb.cell (by exact lt_of_cell this)]
  exact this
theorem NamesOn.below {w w' : World} {ns : List B} {p : Option Addr} (h : NamesOn w ns p) (hb : Below w.heap.size w w') : NamesOn w' ns p := by
  intro j t hj
  obtain ⟨g, o, h1, h2⟩ := h j t hj
  refine ⟨g, o, h1, ?_⟩
  rw [hb.cell (by exact lt_of_cell h2)]
  exact h2
theorem vals_get {w : World} {F : Nat → Prop} {g : Nat} : ∀ (ls : List JV) (o : Nat), ValsIs w F ls g o → ∀ i t, ls[i]? = some t → ∃ cs, ValIs w F t cs ∧ ∀ j c, cs[j]? = some c → w.cell? ⟨g, o + 7 * i + j, none⟩ = some c
  | [], o, _, i, t, hi => by simp at hi
  | x :: xs, o, h, i, t, hi => by
    simp only [ValsIs] at h
    obtain ⟨⟨cs, h1, h2⟩, h3⟩ := h
    cases i with
    | zero =>
      simp only [List.getElem?_cons_zero, Option.some.injEq] at hi
      subst hi
      exact ⟨cs, h1, fun j c hj => by simpa using h2 j c hj⟩
    | succ i =>
      obtain ⟨cs', a1, a2⟩ := vals_get xs (o + 7) h3 i t (by simpa using hi)
      refine ⟨cs', a1, fun j c hj => ?_⟩
      rw [show o + 7 * (i + 1) + j = o + 7 + 7 * i + j by omega]
      exact a2 j c hj
theorem ValOn.open {w : World} {k : Int} {b : Bool} {t : B} {n : Int} {hh : Bool} {ls : List JV} {ns : List B} {cs : List Value} (h : ValOn w (.mk k b t n hh ls ns) cs) :
    ∃ p1 c1 p2 c2, cs = [.int .i64 k, .bool b, .string (str t), .int .i64 n, .bool hh, .slice p1 ls.length c1, .slice p2 ns.length c2] ∧ PartsOn w ls p1 ∧ NamesOn w ns p2 := by
  obtain ⟨F, h0, h⟩ := h
  simp only [ValIs] at h
  obtain ⟨lv, nv, rfl, ⟨p1, c1, rfl, _, h1⟩, ⟨p2, c2, rfl, _, h2⟩⟩ := h
  refine ⟨p1, c1, p2, c2, rfl, fun i t hi => ?_, fun j t hj => ?_⟩
  · have hlt : i < ls.length := (List.getElem?_eq_some_iff.1 hi).1
    obtain ⟨g, o, e, hF, hv⟩ := h1 (by omega)
    obtain ⟨cs, a1, a2⟩ := vals_get ls o hv i t hi
    exact ⟨g, o, cs, e, ⟨F, h0, a1⟩, fun j c hj => by rw [show o + i * 7 + j = o + 7 * i + j by omega]; exact a2 j c hj⟩
  · have hlt : j < ns.length := (List.getElem?_eq_some_iff.1 hj).1
    obtain ⟨g, o, e, hF, hv⟩ := h2 (by omega)
    exact ⟨g, o, e, hv j t hj⟩
theorem ValOn.cap {w : World} {t : JV} {cs : List Value} (h : ValOn w t cs) : ∀ p n c, cs[6]? = some (.slice p n c) → n ≤ c := by
  cases t with
  | mk k b tx m hh ls ns =>
    obtain ⟨F, h0, h⟩ := h
    simp only [ValIs] at h
    obtain ⟨lv, nv, rfl, _, ⟨p2, c2, rfl, hc, _⟩⟩ := h
    intro p n c e
    simp only [vcells, List.getElem?_cons_succ, List.getElem?_cons_zero, Option.some.injEq, Value.slice.injEq] at e
    omega
theorem ValOn.close {w : World} {k : Int} {b : Bool} {t : B} {n : Int} {hh : Bool} : ValOn w (.mk k b t n hh [] []) [.int .i64 k, .bool b, .string (str t), .int .i64 n, .bool hh, .slice none 0 0, .slice none 0 0] :=
  ⟨fun _ => False, fun _ h => h.elim, flat_val _ _ _ _ _ _ _⟩
/-- Seven cells in a row. -/
structure Row7 (w : World) (g o : Nat) (c0 c1 c2 c3 c4 c5 c6 : Value) : Prop where
  a0 : w.cell? ⟨g, o, none⟩ = some c0
  a1 : w.cell? ⟨g, o + 1, none⟩ = some c1
  a2 : w.cell? ⟨g, o + 2, none⟩ = some c2
  a3 : w.cell? ⟨g, o + 3, none⟩ = some c3
  a4 : w.cell? ⟨g, o + 4, none⟩ = some c4
  a5 : w.cell? ⟨g, o + 5, none⟩ = some c5
  a6 : w.cell? ⟨g, o + 6, none⟩ = some c6
theorem row7 {w : World} {g o : Nat} {c0 c1 c2 c3 c4 c5 c6 : Value} (h : ∀ j c, [c0, c1, c2, c3, c4, c5, c6][j]? = some c → w.cell? ⟨g, o + j, none⟩ = some c) : Row7 w g o c0 c1 c2 c3 c4 c5 c6 :=
  ⟨h 0 c0 rfl, h 1 c1 rfl, h 2 c2 rfl, h 3 c3 rfl, h 4 c4 rfl, h 5 c5 rfl, h 6 c6 rfl⟩
theorem Row7.below {w w' : World} {g o : Nat} {c0 c1 c2 c3 c4 c5 c6 : Value} (h : Row7 w g o c0 c1 c2 c3 c4 c5 c6) (hb : Below w.heap.size w w') : Row7 w' g o c0 c1 c2 c3 c4 c5 c6 :=
  have e : ∀ j, w'.cell? ⟨g, j, none⟩ = w.cell? ⟨g, j, none⟩ := fun _ => hb.cell (by exact lt_of_cell h.a0)
  ⟨(e _).trans h.a0, (e _).trans h.a1, (e _).trans h.a2, (e _).trans h.a3, (e _).trans h.a4, (e _).trans h.a5, (e _).trans h.a6⟩
theorem ValOn.form {w : World} {t : JV} {cs : List Value} (h : ValOn w t cs) : ∃ k b tx n hh p1 n1 q1 p2 n2 q2, cs = [.int .i64 k, .bool b, .string (str tx), .int .i64 n, .bool hh, .slice p1 n1 q1, .slice p2 n2 q2] := by
  obtain ⟨F, _, h⟩ := h
  exact h.form
/-- How many parts and names a value may have: as many as an int tells. -/
def maxI : Nat := 140737488355328
theorem maxI_le {n : Nat} (h : n ≤ maxI) : n ≤ 9223372036854775807 := by unfold maxI at h; omega
mutual
def Fits : JV → Prop
  | .mk _ _ t _ _ ls ns => t.length ≤ maxI ∧ ls.length ≤ maxI ∧ ns.length ≤ maxI ∧ (∀ z ∈ ns, z.length ≤ maxI) ∧ FitsL ls
def FitsL : List JV → Prop
  | [] => True
  | x :: xs => Fits x ∧ FitsL xs
end
theorem fitsL_iff : ∀ ls : List JV, FitsL ls ↔ ∀ x ∈ ls, Fits x
  | [] => by simp [FitsL]
  | x :: xs => by simp [FitsL, fitsL_iff xs]
/-! ### slices.Equal -/
theorem names_list {w : World} {ns : List B} {g o : Nat} (h : NamesOn w ns (some ⟨g, o, none⟩)) : ∀ j, j < (ns.map str).length → w.cell? ⟨g, o + j, none⟩ = some (.string ((ns.map str).getD j ByteArray.empty)) := by
  intro j hj
  have hj2 : j < ns.length := by simpa using hj
  obtain ⟨g', o', e, hc⟩ := h j ns[j] (List.getElem?_eq_getElem hj2)
  simp only [Option.some.injEq, Addr.mk.injEq] at e
  obtain ⟨rfl, rfl, _⟩ := e
  rw [hc]
  simp [hj2]
theorem str_inj {a b : B} (h : str a = str b) : a = b := by
  have := congrArg (fun x : ByteArray => x.data.toList) h
  simpa using this
theorem map_str_inj : ∀ {a b : List B}, a.map str = b.map str → a = b
  | [], [], _ => rfl
  | [], _ :: _, h => by simp at h
  | _ :: _, [], h => by simp at h
  | x :: xs, y :: ys, h => by
    simp only [List.map_cons, List.cons.injEq] at h
    rw [str_inj h.1, map_str_inj h.2]
theorem take_map (ns : List B) : (ns.map str).take ns.length = ns.map str := by
  rw [List.take_of_length_le (by simp)]
set_option maxRecDepth 20000 in
theorem equal_lens (a1 a2 : Option Addr) (n c m d : Nat) (w : World) (hne : n ≠ m) :
    Calls Tryz.prog 28 #[.slice a1 n c, .slice a2 m d] w fun e w' => e = .returned (.bool false) ∧ w' = w := by
  have h1 : ((n : Int) == (m : Int)) = false := by simp only [beq_eq_false_iff_ne, ne_eq]; omega
  have h2 : (n == m) = false := by simp only [beq_eq_false_iff_ne, ne_eq]; omega
  go_enter Tryz.func28, Tryz.ntmps28
  go_wp2
  go_ret
  exact ⟨rfl, rfl⟩
theorem equal_names {w : World} {ns ms : List B} {p1 p2 : Option Addr} {c1 c2 : Nat} (h1 : NamesOn w ns p1) (h2 : NamesOn w ms p2) (hn : ns.length ≤ maxI) (hm : ms.length ≤ maxI) :
    Calls Tryz.prog 28 #[.slice p1 ns.length c1, .slice p2 ms.length c2] w fun e w' => e = .returned (.bool (ns == ms)) ∧ Below w.heap.size w w' := by
  by_cases hl : ns.length = ms.length
  · cases ns with
    | nil =>
      cases ms with
      | cons y ys => simp at hl
      | nil =>
        refine (Tryz.slices_Equal_string_empty p1 p2 c1 0 c2 w (by decide)).mono ?_
        rintro e w' ⟨rfl, rfl⟩
        exact ⟨rfl, Below.refl _ _⟩
    | cons x xs =>
      cases ms with
      | nil => simp at hl
      | cons y ys =>
        obtain ⟨g, o, rfl, _⟩ := h1 0 x rfl
        obtain ⟨g2, o2, rfl, _⟩ := h2 0 y rfl
        refine (Tryz.slices_Equal_string g o (x :: xs).length c1 g2 o2 (y :: ys).length c2 ((x :: xs).map str) ((y :: ys).map str) w (by simp) (by simp) (maxI_le hn) (maxI_le hm) (names_list h1) (names_list h2)).mono ?_
        rintro e w' ⟨rfl, q, rfl⟩
        refine ⟨?_, below_drew (Below.refl _ _) q⟩
        rw [take_map, take_map]
        congr 2
        by_cases e : x :: xs = y :: ys
        · rw [e]; simp
        · rw [decide_eq_false (fun h => e (map_str_inj h)), (beq_eq_false_iff_ne).2 e]
  · refine (equal_lens p1 p2 _ c1 _ c2 w hl).mono ?_
    rintro e w' ⟨rfl, rfl⟩
    refine ⟨?_, Below.refl _ _⟩
    rw [(beq_eq_false_iff_ne).2 (fun e => hl (by rw [e]))]
end Go.Proofs.YtkoeihliaandeaaGreatDoor
