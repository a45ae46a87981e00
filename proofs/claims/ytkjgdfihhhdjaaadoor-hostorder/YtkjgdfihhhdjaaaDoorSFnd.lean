/- A table and the document's row side by side. -/
import Derived.Test.YtkjgdfihhhdjaaaDoorSDFind
namespace Go.Proofs.YtkjgdfihhhdjaaaDoor
open Go.RowKit Go.Maps

/-- A table made since w with the patterns of P, and the document's row of R, apart. -/
def FndS (w W : World) (t : Nat) (P R : List (B × Int)) (v : Value) : Prop := ∃ m v1 v2 L, Tab W t P m v1 v2 L ∧ (∀ i, Ft t m v1 v2 i → w.heap.size ≤ i) ∧ Below w.heap.size w W ∧ OwnP W w.heap.size v R ∧ ∀ g, v.ownBlock = some g → ¬ Ft t m v1 v2 g
section
variable {w W W' : World} {t : Nat} {P R : List (B × Int)} {v : Value}
theorem FndS.below (h : FndS w W t P R v) : Below w.heap.size w W := by
  obtain ⟨m, v1, v2, L, h1, h2, h3, h4⟩ := h
  exact h3
theorem FndS.next (h : FndS w W t P R v) (hb : Below W.heap.size W W') : FndS w W' t P R v := by
  obtain ⟨m, v1, v2, L, h1, h2, h3, h4, h5⟩ := h
  exact ⟨m, v1, v2, L, h1.next hb, h2, below_out h3 hb, h4.keep hb, h5⟩
theorem FndS.row (h : FndS w W t P R v) : OwnP W w.heap.size v R := by
  obtain ⟨m, v1, v2, L, h1, h2, h3, h4, h5⟩ := h
  exact h4
theorem FndS.fine (h : FndS w W t P R v) : ∀ x ∈ P, ∃ z, patH x.1 = some z := by
  obtain ⟨m, v1, v2, L, h1, h2, h3, h4, h5⟩ := h
  exact fun x hx => (h1.fine x hx).1
theorem FndS.len (h : FndS w W t P R v) : P.length ≤ 64 := by
  obtain ⟨m, v1, v2, L, h1, h2, h3, h4, h5⟩ := h
  exact h1.len
end
theorem fnd_new (w : World) : Calls Tryd.prog 20 #[] w fun e w' => e = .returned (.pointer (some ⟨w.heap.size, 0, none⟩)) ∧ FndS w w' w.heap.size [] [] (.slice none 0 0) := by
  refine (new_any w).mono ?_
  rintro e w' ⟨rfl, h, hb⟩
  exact ⟨rfl, none, _, _, [], h, fun i hi => by rw [ft_new hi]; exact Nat.le_refl _, hb, OwnR.nil _ _, fun g e => by cases e⟩
theorem fnd_tadd {w W : World} {t : Nat} {P R : List (B × Int)} {v : Value} (h : FndS w W t P R v) (hmx : MxAt w) (p : B) (hp : p.length ≤ 9223372036854775807) (id : Int) (hw : (Lit.int .i64 id).wf = true) :
    Calls Tryd.prog 22 #[.pointer (some ⟨t, 0, none⟩), .string (str p), .int .i64 id] W fun e W' => e = .returned (errOf (addE P p)) ∧ FndS w W' t (addP P p id) R v := by
  obtain ⟨m, v1, v2, L, h1, h2, h3, h4, h5⟩ := h
  refine (add_any h1 (hmx.next h3) p hp id hw).mono ?_
  rintro e W' ⟨rfl, m', v1', v2', L', hT, hG⟩
  refine ⟨rfl, m', v1', v2', L', hT, fun i hi => ?_, h3.trans (hG.kept.below h3.size h2), h4.keepB (fun g e => hG.kept.block g (h4.lt e) (h5 g e)), fun g e hf => ?_⟩
  · rcases hG.fp i hi with e | e
    · exact h2 i e
    · exact Nat.le_trans h3.size e
  · rcases hG.fp g hf with e1 | e1
    · exact h5 g e e1
    · have := h4.lt e
      omega
theorem fnd_radd {w W : World} {t : Nat} {P : List (B × Int)} {pr : Option Addr} {n c : Nat} (h : FndS w W t P P (.slice pr n c)) (p : B) (hp : p.length ≤ 9223372036854775807) (id : Int) :
    Calls Tryd.prog 21 #[.slice pr n c, .string (str p), .int .i64 id] W fun e W' => ∃ q n' d, e = .returned (.tuple #[.slice q n' d, .int .i64 (addE P p : Int)]) ∧ FndS w W' t P (addP P p id) (.slice q n' d) := by
  have h0 := h
  obtain ⟨m, v1, v2, L, h1, h2, h3, h4, h5⟩ := h
  have hn : P.length = n := (row_lenH h4).symm
  refine (radd_any P (by have := h1.len; omega) p hp id pr n c w.heap.size hn W h4).mono ?_
  rintro e W' ⟨hb, ⟨h6, rfl⟩ | ⟨h6, q, d, rfl, ho⟩⟩
  · refine ⟨pr, n, c, rfl, ?_⟩
    rw [show addP P p id = P from by unfold addP; rw [if_neg h6]]
    exact h0.next hb
  · refine ⟨q, P.length + 1, d, by rw [h6]; rfl, ?_⟩
    rw [show addP P p id = P ++ [(lowH p, id)] from by unfold addP; rw [if_pos h6]]
    refine ⟨m, v1, v2, L, h1.next hb, h2, below_out h3 hb, ho.lower h3.size, fun g e hf => ?_⟩
    have e1 := h1.tab.lt hf
    have e2 := own_ge ho e
    omega
theorem fnd_find {w W : World} {t : Nat} {P R : List (B × Int)} {v : Value} (h : FndS w W t P R v) (hmx : MxAt w) (host : B) (hh : host.length ≤ 9223372036854775807) :
    Calls Tryd.prog 25 #[.pointer (some ⟨t, 0, none⟩), .string (str host)] W fun e W' => e = .returned (.tuple #[.int .i64 (findN P host).1, errOf (findN P host).2]) ∧ FndS w W' t P R v := by
  have h0 := h
  obtain ⟨m, v1, v2, L, h1, h2, h3, h4⟩ := h
  refine (find_num h1 (hmx.next h3) host hh).mono ?_
  rintro e W' ⟨rfl, hb⟩
  exact ⟨rfl, h0.next hb⟩
theorem fnd_len {w W : World} {t : Nat} {P R : List (B × Int)} {v : Value} (h : FndS w W t P R v) :
    Calls Tryd.prog 24 #[.pointer (some ⟨t, 0, none⟩)] W fun e W' => e = .returned (.int .i64 (P.length : Int)) ∧ W' = W := by
  obtain ⟨m, v1, v2, L, h1, h2, h3, h4⟩ := h
  exact len_any h1
theorem fnd_all {w W : World} {t : Nat} {P R : List (B × Int)} {v : Value} (h : FndS w W t P R v) :
    Calls Tryd.prog 23 #[.pointer (some ⟨t, 0, none⟩)] W fun e W' => ∃ q d, e = .returned (.slice q P.length d) ∧ LbAt W' q (P.map (·.1)) ∧ FndS w W' t P R v := by
  have h0 := h
  obtain ⟨m, v1, v2, L, h1, h2, h3, h4⟩ := h
  refine (all_any h1).mono ?_
  rintro e W' ⟨q, d, rfl, hl, hb⟩
  exact ⟨q, d, rfl, hl, h0.next hb⟩
/-- What the document's Find answers: the place, whose number is the program's, and the number of an error. -/
theorem fnd_rfind {w W : World} {t : Nat} {P : List (B × Int)} {pr : Option Addr} {n c : Nat} (h : FndS w W t P P (.slice pr n c)) (host : B) (hh : host.length ≤ 9223372036854775807) :
    Calls Tryd.prog 26 #[.slice pr n c, .string (str host)] W fun e W' => FndS w W' t P P (.slice pr n c) ∧ ((e = .returned (.tuple #[.int .i64 (-1), .int .i64 ((findN P host).2 : Int)]) ∧ (findN P host).1 = 0) ∨ ∃ (b : Nat) (p : B × Int), P[b]? = some p ∧ e = .returned (.tuple #[.int .i64 (b : Int), .int .i64 ((findN P host).2 : Int)]) ∧ (findN P host).1 = p.2) := by
  have hn : P.length = n := (row_lenH h.row).symm
  have hl := h.len
  refine (rfind_any P h.fine host hh pr n c hn (by omega) W (OwnP.pt h.row)).mono ?_
  rintro e W' ⟨hb, h2⟩
  refine ⟨h.next hb, ?_⟩
  unfold findN
  cases hl : labsH false host with
  | none =>
    rw [hl] at h2
    exact .inl ⟨h2, rfl⟩
  | some y =>
    rw [hl] at h2
    dsimp only at h2 ⊢
    rcases h2 with ⟨h3, rfl⟩ | ⟨b, p, hp, h3, rfl⟩
    · rw [h3]
      exact .inl ⟨rfl, rfl⟩
    · rw [h3]
      exact .inr ⟨b, p, hp, rfl, rfl⟩
/-- As it comes out, ahead of the call. -/
theorem fnd_rfind2 (P : List (B × Int)) (host : B) (hh : host.length ≤ 9223372036854775807) :
    ((findN P host).1 = 0 ∧ ∀ (w W : World) (t : Nat) (pr : Option Addr) (n c : Nat), FndS w W t P P (.slice pr n c) → Calls Tryd.prog 26 #[.slice pr n c, .string (str host)] W fun e W' => FndS w W' t P P (.slice pr n c) ∧ e = .returned (.tuple #[.int .i64 (-1), .int .i64 ((findN P host).2 : Int)])) ∨
    (∃ p : B × Int, (findN P host).1 = p.2 ∧ ∀ (w W : World) (t : Nat) (pr : Option Addr) (n c : Nat), FndS w W t P P (.slice pr n c) → Calls Tryd.prog 26 #[.slice pr n c, .string (str host)] W fun e W' => FndS w W' t P P (.slice pr n c) ∧ ∃ b : Nat, P[b]? = some p ∧ e = .returned (.tuple #[.int .i64 (b : Int), .int .i64 ((findN P host).2 : Int)])) := by
  unfold findN
  cases hl : labsH false host with
  | none =>
    refine .inl ⟨rfl, fun w W t pr n c h => ?_⟩
    have hn : P.length = n := (row_lenH h.row).symm
    have hl9 := h.len
    refine (rfind_any P h.fine host hh pr n c hn (by omega) W (OwnP.pt h.row)).mono ?_
    rintro e W' ⟨hb, h2⟩
    rw [hl] at h2
    exact ⟨h.next hb, h2⟩
  | some y =>
    dsimp only
    cases hbf : bestF y P with
    | none =>
      refine .inl ⟨rfl, fun w W t pr n c h => ?_⟩
      have hn : P.length = n := (row_lenH h.row).symm
      have hl9 := h.len
      refine (rfind_any P h.fine host hh pr n c hn (by omega) W (OwnP.pt h.row)).mono ?_
      rintro e W' ⟨hb, h2⟩
      rw [hl] at h2
      dsimp only at h2
      rw [hbf] at h2
      rcases h2 with ⟨_, rfl⟩ | ⟨b, p, hp, h3, rfl⟩
      · exact ⟨h.next hb, rfl⟩
      · cases h3
    | some p0 =>
      refine .inr ⟨p0, rfl, fun w W t pr n c h => ?_⟩
      have hn : P.length = n := (row_lenH h.row).symm
      have hl9 := h.len
      refine (rfind_any P h.fine host hh pr n c hn (by omega) W (OwnP.pt h.row)).mono ?_
      rintro e W' ⟨hb, h2⟩
      rw [hl] at h2
      dsimp only at h2
      rw [hbf] at h2
      rcases h2 with ⟨h3, _⟩ | ⟨b, p, hp, h3, rfl⟩
      · cases h3
      · have := Option.some.inj h3
        subst this
        exact ⟨h.next hb, b, hp, rfl⟩
theorem findN_le (P : List (B × Int)) (host : B) : (findN P host).2 ≤ 1000 := by
  unfold findN
  cases labsH false host with
  | none => exact (by decide : 3 ≤ 1000)
  | some y =>
    dsimp only
    cases bestF y P with
    | none => exact (by decide : 8 ≤ 1000)
    | some p => exact Nat.zero_le _
theorem addE_le (P : List (B × Int)) (p : B) : addE P p ≤ 1000 := by
  unfold addE
  split
  · decide
  · split
    · decide
    · split
      · decide
      · decide
theorem n_a : labsH false [97] = some [[97]] ∧ patH [97] = some [[97]] ∧ patH [97, 32, 98] = none := by decide
end Go.Proofs.YtkjgdfihhhdjaaaDoor
