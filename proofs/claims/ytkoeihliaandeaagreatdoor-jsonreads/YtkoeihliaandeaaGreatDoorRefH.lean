/- The document's reading: the parts of a list, of an object. -/
import Derived.Test.YtkoeihliaandeaaGreatDoorRefG
namespace Go.Proofs.YtkoeihliaandeaaGreatDoor
open Go.RowKit

/-- The parts' row with one part more. -/
theorem VObj.part {V U : World} {v base n : Nat} {kd : Int} {ls : List JV} {ns : List B} {lv lv' nv : Value} {xs cs : List Value} {F F1 : Nat → Prop} {t : JV}
    (hO : VObj V v base kd ls ns lv nv xs F) (hn : ls.length = n) (hg : V.grownBy U lv.ownBlock) (hloc : lv'.ownBlock = lv.ownBlock ∨ lv'.ownBlock = some V.heap.size)
    (hown : U.ownsRow base 25 7 lv' (n + 1) (xs ++ cs)) (hcs : cs.length = 7) (ht : ValIs V F1 t cs) (hF1 : ∀ k, F1 k → base ≤ k ∧ k < V.heap.size ∧ lv.ownBlock ≠ some k ∧ nv.ownBlock ≠ some k) :
    VObj (U.setCell ⟨v, 5, none⟩ lv') v base kd (ls ++ [t]) ns lv' nv (xs ++ cs) (fun k => F k ∨ F1 k) := by
  have hlt := hO.lt
  have hle := hO.le
  have hxs : xs.length = ls.length * 7 := hO.list.1
  have set : ∀ k, k ≠ v → (U.setCell ⟨v, 5, none⟩ lv').heap[k]? = U.heap[k]? := fun k hk => Below.heap_setCell _ _ _ _ hk
  have nge : ∀ g, lv.ownBlock = some g → base ≤ g := fun g hk => own_ge hO.list hk
  have hvb : some v ≠ lv.ownBlock := fun e => by have := nge v e.symm; omega
  have foot : ∀ j, (F j ∨ F1 j) → base ≤ j ∧ j < V.heap.size ∧ lv.ownBlock ≠ some j ∧ nv.ownBlock ≠ some j := by
    rintro j (hj | hj)
    · exact hO.foot j hj
    · exact hF1 j hj
  have key : ∀ j, base ≤ j → j < V.heap.size → lv.ownBlock ≠ some j → (U.setCell ⟨v, 5, none⟩ lv').heap[j]? = V.heap[j]? := fun j h1 h2 h3 => by
    rw [set j (by omega), hg.block j h2 (fun e => h3 e.symm)]
  refine ⟨?_, ?_, ?_, ⟨by simp [hxs, hcs]; omega, fun i y hi => ?_⟩, fun j hj => ?_, hlt, ?_⟩
  · have h1 := (hg.block v (by omega) hvb).trans hO.row
    simp [World.setCell, Array.getElem?_modify, h1]
  · rw [List.length_append, hn]
    refine ⟨hown.1, ?_⟩
    rcases hown.2 with h1 | ⟨g, cap, cur, h1, h2, h3, h4⟩
    · exact .inl h1
    · exact .inr ⟨g, cap, cur, h1, h2, by rw [set g (by omega)]; exact h3, h4⟩
  · refine ⟨hO.names.1, ?_⟩
    rcases hO.names.2 with h1 | ⟨g, cap, cur, h1, h2, h3, h4⟩
    · exact .inl h1
    · right
      refine ⟨g, cap, cur, h1, h2, ?_, h4⟩
      rw [set g (by omega), hg.block g (lt_of_heap h3) ?_]
      · exact h3
      · intro e
        rcases hO.list.2 with ⟨h7, _⟩ | ⟨g3, cap3, cur3, h7, _, h8, _⟩
        · rw [h7] at e; simp [Value.ownBlock] at e
        · rw [h7] at e
          simp [Value.ownBlock] at e
          subst e
          rw [h8] at h3
          simp at h3
  · have keep := fun (y : JV) (zs : List Value) (G : Nat → Prop) (hG : ∀ k, G k → F k ∨ F1 k) (hy : ValIs V G y zs) => ValIs.keep (w' := U.setCell ⟨v, 5, none⟩ lv') (F' := fun k => F k ∨ F1 k) (fun j hj => key j (foot j (hG j hj)).1 (foot j (hG j hj)).2.1 (foot j (hG j hj)).2.2.1) hG y zs hy
    rcases Nat.lt_or_ge i ls.length with hlt2 | hge
    · rw [List.getElem?_append_left hlt2] at hi
      have e : ((xs ++ cs).drop (7 * i)).take 7 = (xs.drop (7 * i)).take 7 := by
        rw [List.drop_append_of_le_length (by omega), List.take_append_of_le_length (by simp; omega)]
      rw [e]
      exact keep y _ F (fun k hk => .inl hk) (hO.vals.2 i y hi)
    · have hi2 : i = ls.length := by
        have := (List.getElem?_eq_some_iff.1 hi).1
        simp at this
        omega
      subst hi2
      simp at hi
      subst hi
      have e : ((xs ++ cs).drop (7 * ls.length)).take 7 = cs := by
        rw [show 7 * ls.length = xs.length by omega, List.drop_left, List.take_of_length_le (by omega)]
      rw [e]
      exact keep t cs F1 (fun k hk => .inr hk) ht
  · obtain ⟨a, b, c, d⟩ := foot j hj
    refine ⟨a, by rw [size_set]; exact Nat.lt_of_lt_of_le b hg.size, ?_, d⟩
    rcases hloc with h | h
    · rw [h]; exact c
    · rw [h]; simp; omega
  · rw [size_set]; exact Nat.le_trans hle hg.size
/-- A reading, the blocks of what is handed out, and the value that is being put together. -/
structure PA (w W : World) (s : ByteArray) (p k : Int) (kd : Int) (x : St) : Prop where
  r : W.heap[w.heap.size]? = some (.cells #[.string s, .int .i64 p, .int .i64 k] 49 (0, 0))
  o1 : W.heap[w.heap.size + 1]? = some (.cells #[.string ⟨#[]⟩, .int .i64 0, .int .i64 0] 49 (0, 0))
  o2 : W.heap[w.heap.size + 2]? = some (.cells #[.int .i64 0, .bool false, .string ⟨#[]⟩, .int .i64 0, .bool false, .slice none 0 0, .slice none 0 0] 25 (0, 0))
  obj : ∃ lv nv xs F, VObj W (w.heap.size + 3) (w.heap.size + 4) kd x.2 x.1 lv nv xs F
  low : Below w.heap.size w W
theorem PA.below {w W V : World} {s : ByteArray} {p k kd : Int} {x : St} (h : PA w W s p k kd x) (hb : Below W.heap.size W V) : PA w V s p k kd x := by
  obtain ⟨lv, nv, xs, F, hO⟩ := h.obj
  exact ⟨(hb.block _ (lt_of_heap h.r)).trans h.r, (hb.block _ (lt_of_heap h.o1)).trans h.o1, (hb.block _ (lt_of_heap h.o2)).trans h.o2, ⟨lv, nv, xs, F, hO.same hb.size fun j hj _ => hb.block j hj⟩, h.low.trans (hb.mono h.low.size)⟩
theorem PA.put {w W : World} {s : ByteArray} {p k kd : Int} {x : St} (h : PA w W s p k kd x) (s' : ByteArray) (q j : Int) : PA w (((W.setCell ⟨w.heap.size, 0, none⟩ (.string s')).setCell ⟨w.heap.size, 1, none⟩ (.int .i64 q)).setCell ⟨w.heap.size, 2, none⟩ (.int .i64 j)) s' q j kd x := by
  obtain ⟨lv, nv, xs, F, hO⟩ := h.obj
  refine ⟨three_put (has_three h.r) _ _ _, (three_other (by omega) _ _ _).trans h.o1, (three_other (by omega) _ _ _).trans h.o2, ⟨lv, nv, xs, F, hO.turn ((((Turn.refl w.heap.size W).setCell _ _).setCell _ _).setCell _ _) (by omega) (by omega)⟩, ?_⟩
  iterate 3 refine Below.setCell ?_ (show w.heap.size ≤ w.heap.size from Nat.le_refl _) _
  exact h.low
theorem PA.move {w W : World} {s : ByteArray} {p k kd : Int} {x : St} (h : PA w W s p k kd x) (q z : Int) (hz : z = q) : PA w (W.setCell ⟨w.heap.size, 1, none⟩ (.int .i64 z)) s q k kd x := by
  subst hz
  obtain ⟨lv, nv, xs, F, hO⟩ := h.obj
  refine ⟨?_, ?_, ?_, ⟨lv, nv, xs, F, hO.turn ((Turn.refl w.heap.size W).setCell _ _) (by omega) (by omega)⟩, h.low.setCell (show w.heap.size ≤ w.heap.size from Nat.le_refl _) _⟩
  · simp [World.setCell, Array.getElem?_modify, h.r]
  · rw [Below.heap_setCell _ _ _ _ (show w.heap.size + 1 ≠ w.heap.size by omega)]
    exact h.o1
  · rw [Below.heap_setCell _ _ _ _ (show w.heap.size + 2 ≠ w.heap.size by omega)]
    exact h.o2
theorem PA.outB {w W : World} {s : ByteArray} {p k kd : Int} {x : St} (h : PA w W s p k kd x) (a0 a1 a2 c0 c1 c2 c3 c4 c5 c6 : Value) :
    Below w.heap.size w ((((((((((W.setCell ⟨w.heap.size + 1, 0, none⟩ a0).setCell ⟨w.heap.size + 1, 1, none⟩ a1).setCell ⟨w.heap.size + 1, 2, none⟩ a2).setCell ⟨w.heap.size + 2, 0, none⟩ c0).setCell ⟨w.heap.size + 2, 1, none⟩ c1).setCell ⟨w.heap.size + 2, 2, none⟩ c2).setCell ⟨w.heap.size + 2, 3, none⟩ c3).setCell ⟨w.heap.size + 2, 4, none⟩ c4).setCell ⟨w.heap.size + 2, 5, none⟩ c5).setCell ⟨w.heap.size + 2, 6, none⟩ c6) := by
  iterate 7 refine Below.setCell ?_ (show w.heap.size ≤ w.heap.size + 2 by omega) _
  iterate 3 refine Below.setCell ?_ (show w.heap.size ≤ w.heap.size + 1 by omega) _
  exact h.low
theorem out_keep {U : World} {g h k : Nat} (hg : k ≠ g) (hh : k ≠ h) (a0 a1 a2 c0 c1 c2 c3 c4 c5 c6 : Value) : ((((((((((U.setCell ⟨g, 0, none⟩ a0).setCell ⟨g, 1, none⟩ a1).setCell ⟨g, 2, none⟩ a2).setCell ⟨h, 0, none⟩ c0).setCell ⟨h, 1, none⟩ c1).setCell ⟨h, 2, none⟩ c2).setCell ⟨h, 3, none⟩ c3).setCell ⟨h, 4, none⟩ c4).setCell ⟨h, 5, none⟩ c5).setCell ⟨h, 6, none⟩ c6).heap[k]? = U.heap[k]? := by
  rw [seven_other hh, three_other hg]
theorem out_size (U : World) (g h : Nat) (a0 a1 a2 c0 c1 c2 c3 c4 c5 c6 : Value) : ((((((((((U.setCell ⟨g, 0, none⟩ a0).setCell ⟨g, 1, none⟩ a1).setCell ⟨g, 2, none⟩ a2).setCell ⟨h, 0, none⟩ c0).setCell ⟨h, 1, none⟩ c1).setCell ⟨h, 2, none⟩ c2).setCell ⟨h, 3, none⟩ c3).setCell ⟨h, 4, none⟩ c4).setCell ⟨h, 5, none⟩ c5).setCell ⟨h, 6, none⟩ c6).heap.size = U.heap.size := by
  simp only [size_set]
/-- How the reading of a value ends. -/
def ToldRv (s : ByteArray) (r : Res JV) (w : World) (e : Ending) (w' : World) : Prop := ∃ (P k : Nat) (x : JV) (cs : List Value), P ≤ s.size ∧ e = .returned (.tuple #[.agg #[.string s, .int .i64 (P : Int), .int .i64 (k : Int)], .agg cs.toArray]) ∧ ValIs w' (fun j => w.heap.size ≤ j ∧ j < w'.heap.size) x cs ∧ Below w.heap.size w w' ∧ ((k = 0 ∧ r = .ok x (s.data.toList.drop P)) ∨ (k ≠ 0 ∧ x = .zero ∧ r = .err k (s.data.toList.drop P)))
def blankR {α : Type} : Res α → Res α
  | .ok x u => .ok x (blanks u)
  | .err k u => .err k u
def RValOk (s : ByteArray) (f : B → Res JV) (d : Nat) : Prop := ∀ (w : World) (p : Nat), p ≤ s.size → Calls Tryz.prog 19 #[.agg #[.string s, .int .i64 (p : Int), .int .i64 0], .int .i64 (d : Int)] w fun e w' => ToldRv s (blankR (f (blanks (s.data.toList.drop p)))) w e w'
/-- A value of its parts. -/
def nestR (kd : Int) : Res St → Res JV
  | .err k u => .err k u
  | .ok x u => .ok (.mk kd false [] 0 false x.2 x.1) u
theorem zero_val (w : World) (F : Nat → Prop) : ValIs w F JV.zero [.int .i64 0, .bool false, .string ⟨#[]⟩, .int .i64 0, .bool false, .slice none 0 0, .slice none 0 0] := flat_val w F 0 false [] 0 false
theorem blanks_idem (l : B) : blanks (blanks l) = blanks l := by
  induction l with
  | nil => rfl
  | cons c t ih =>
    show skips blanksL (skips blanksL (c :: t)) = skips blanksL (c :: t)
    by_cases h : blanksL.contains c = true
    · rw [skips_yes h]; exact ih
    · rw [skips_no h, skips_no h]
theorem parts_done {step : St → B → Res St} {E : UInt8} {f : Nat} {x y : St} {l u : B} (h : step x l = .ok y u) (he : nx (blanks u) = E) (h0 : E ≠ 0) : partsF step [E] (f + 1) x l = .ok y ((blanks u).drop 1) := by
  simp only [partsF, h]
  cases hb : blanks u with
  | nil => rw [hb] at he; exact absurd he.symm h0
  | cons c t =>
    rw [hb] at he
    have : c = E := he
    subst this
    simp [skip]
theorem parts_more {step : St → B → Res St} {E : UInt8} {f : Nat} {x y : St} {l u : B} (h : step x l = .ok y u) (hc : nx (blanks u) = 44) (h0 : E ≠ 44) : partsF step [E] (f + 1) x l = partsF step [E] f y (blanks ((blanks u).drop 1)) := by
  simp only [partsF, h]
  cases hb : blanks u with
  | nil => rw [hb] at hc; exact absurd hc.symm (by decide)
  | cons c t =>
    rw [hb] at hc
    have : c = 44 := hc
    subst this
    have e : ¬ (44 : UInt8) = E := fun e => h0 e.symm
    simp [skip, e]
theorem parts_bad {step : St → B → Res St} {E : UInt8} {f : Nat} {x y : St} {l u : B} (h : step x l = .ok y u) (he : nx (blanks u) ≠ E) (hc : nx (blanks u) ≠ 44) : partsF step [E] (f + 1) x l = .err 3 (blanks u) := by
  simp only [partsF, h]
  cases hb : blanks u with
  | nil => rfl
  | cons c t =>
    rw [hb] at he hc
    have h1 : ¬ c = E := he
    have h2 : ¬ c = 44 := hc
    simp [skip, h1, h2]
theorem parts_step {step : St → B → Res St} {E : B} {f k : Nat} {x : St} {l u : B} (h : step x l = .err k u) : partsF step E (f + 1) x l = .err k u := by
  simp only [partsF, h]
theorem word44 {s : ByteArray} {P : Nat} (h : nx (s.data.toList.drop P) = 44) : word [44] (s.data.toList.drop P) = .ok () (s.data.toList.drop (P + 1)) := by
  obtain ⟨_, hd⟩ := drop_nx (s := s) (P := P) (by rw [h]; decide)
  rw [hd, h]
  rfl
theorem nx_cases (c e : UInt8) (X E : Nat) (EI : Int) (h : c.toNat = X) (hE : e.toNat = E) (hEI : EI = (E : Int)) : (c = e ∧ X = E) ∨ (c ≠ e ∧ ((X : Int) == EI) = false) := by
  by_cases hc : c = e
  · subst hc
    exact .inl ⟨rfl, by rw [← h, hE]⟩
  · refine .inr ⟨hc, ?_⟩
    simp only [beq_eq_false_iff_ne, ne_eq]
    intro he
    apply hc
    apply UInt8.toNat_inj.1
    omega
/-- How a part may end: wrong; the last one; another one follows; neither. -/
theorem four_ways {s : ByteArray} {P2 k2 : Nat} {K : Int} {x2 : JV} {r : Res JV} (e : UInt8) (E : Nat) (EI : Int) (hE : e.toNat = E) (hEI : EI = (E : Int)) (hK : (k2 : Int) = K)
    (h : (k2 = 0 ∧ r = .ok x2 (s.data.toList.drop P2)) ∨ (k2 ≠ 0 ∧ x2 = .zero ∧ r = .err k2 (s.data.toList.drop P2))) :
    ((K != 0) = true ∧ Hid (k2 ≠ 0 ∧ r = .err k2 (s.data.toList.drop P2))) ∨ (K = 0 ∧ Hid (r = .ok x2 (s.data.toList.drop P2) ∧ nx (s.data.toList.drop P2) = e) ∧ Hid ((nx (s.data.toList.drop P2)).toNat = E))
      ∨ (∃ X : Nat, K = 0 ∧ ((X : Int) == EI) = false ∧ Hid ((nx (s.data.toList.drop P2)).toNat = X) ∧ Hid (r = .ok x2 (s.data.toList.drop P2) ∧ nx (s.data.toList.drop P2) ≠ e ∧ nx (s.data.toList.drop P2) = 44))
      ∨ (∃ X : Nat, K = 0 ∧ ((X : Int) == EI) = false ∧ Hid ((nx (s.data.toList.drop P2)).toNat = X) ∧ Hid (r = .ok x2 (s.data.toList.drop P2) ∧ nx (s.data.toList.drop P2) ≠ e ∧ nx (s.data.toList.drop P2) ≠ 44)) := by
  rcases h with ⟨h0, hr⟩ | ⟨h0, _, hr⟩
  · right
    have hK0 : K = 0 := by omega
    rcases nx_cases (nx (s.data.toList.drop P2)) e _ E EI rfl hE hEI with ⟨h1, h2⟩ | ⟨h1, h2⟩
    · exact .inl ⟨hK0, ⟨hr, h1⟩, h2⟩
    · right
      by_cases h4 : nx (s.data.toList.drop P2) = 44
      · exact .inl ⟨_, hK0, h2, rfl, ⟨hr, h1, h4⟩⟩
      · exact .inr ⟨_, hK0, h2, rfl, ⟨hr, h1, h4⟩⟩
  · refine .inl ⟨?_, h0, hr⟩
    simp only [bne_iff_ne, ne_eq]
    omega
theorem blankR_ok {α : Type} {r : Res α} {x : α} {v : B} (h : blankR r = .ok x v) : ∃ u, r = .ok x u ∧ blanks u = v := by
  cases r with
  | ok y u =>
    simp only [blankR, Res.ok.injEq] at h
    exact ⟨u, by rw [h.1], h.2⟩
  | err k u => simp [blankR] at h
theorem blankR_err {α : Type} {r : Res α} {k : Nat} {v : B} (h : blankR r = .err k v) : r = .err k v := by
  cases r with
  | ok y u => simp [blankR] at h
  | err k u => exact h
/-- Of what was in memory a row of one's own holds nothing that is new. -/
theorem own_old {w : World} {base n m : Nat} {e : TypeId} {u : Value} {ys : List Value} (h : w.ownsRow base e m u n ys) {k : Nat} (hk : w.heap.size ≤ k) : u.ownBlock ≠ some k := fun e => by
  have := own_lt h e
  omega
theorem PA.start {w W : World} {s : ByteArray} {p kd : Int} (hW : W = (((w.alloc (.cells #[.string s, .int .i64 p, .int .i64 0] 49 (0, 0))).alloc (.cells #[.string ⟨#[]⟩, .int .i64 0, .int .i64 0] 49 (0, 0))).alloc (.cells #[.int .i64 0, .bool false, .string ⟨#[]⟩, .int .i64 0, .bool false, .slice none 0 0, .slice none 0 0] 25 (0, 0))).alloc (.cells #[.int .i64 kd, .bool false, .string ⟨#[]⟩, .int .i64 0, .bool false, .slice none 0 0, .slice none 0 0] 25 (0, 0))) : PA w W s p 0 kd ([], []) := by
  obtain ⟨a1, a2, a3, a4, a5⟩ := three_new w (.cells #[.string s, .int .i64 p, .int .i64 0] 49 (0, 0)) (.cells #[.string ⟨#[]⟩, .int .i64 0, .int .i64 0] 49 (0, 0)) (.cells #[.int .i64 0, .bool false, .string ⟨#[]⟩, .int .i64 0, .bool false, .slice none 0 0, .slice none 0 0] 25 (0, 0))
  obtain ⟨W3, h3⟩ : ∃ W3, W3 = ((w.alloc (.cells #[.string s, .int .i64 p, .int .i64 0] 49 (0, 0))).alloc (.cells #[.string ⟨#[]⟩, .int .i64 0, .int .i64 0] 49 (0, 0))).alloc (.cells #[.int .i64 0, .bool false, .string ⟨#[]⟩, .int .i64 0, .bool false, .slice none 0 0, .slice none 0 0] 25 (0, 0)) := ⟨_, rfl⟩
  rw [← h3] at a1 a2 a3 a4 a5 hW
  obtain ⟨b1, b2, b3⟩ := grow W3 (.cells #[.int .i64 kd, .bool false, .string ⟨#[]⟩, .int .i64 0, .bool false, .slice none 0 0, .slice none 0 0] 25 (0, 0))
  rw [← hW] at b1 b2 b3
  refine ⟨(b1.block _ (by omega)).trans a3, (b1.block _ (by omega)).trans a4, (b1.block _ (by omega)).trans a5, ⟨_, _, _, _, fresh_obj (by rw [show w.heap.size + 3 = W3.heap.size by omega]; exact b3) (by omega) (by omega)⟩, a1.trans (b1.mono (by omega))⟩
structure StP (w U : World) (s : ByteArray) (P : Int) (kd : Int) (lv nv : Value) : Prop where
  r : U.heap[w.heap.size]? = some (.cells #[.string s, .int .i64 P, .int .i64 0] 49 (0, 0))
  v : U.heap[w.heap.size + 3]? = some (.cells #[.int .i64 kd, .bool false, .string ⟨#[]⟩, .int .i64 0, .bool false, lv, nv] 25 (0, 0))
/-- A part is put behind the others. -/
theorem PA.push {w W w7 : World} {s : ByteArray} {p k kd : Int} {x : St} {lv lv' nv : Value} {xs cs : List Value} {F F1 : Nat → Prop} {t : JV} (h : PA w W s p k kd x) (hO : VObj W (w.heap.size + 3) (w.heap.size + 4) kd x.2 x.1 lv nv xs F)
    (hown : w7.ownsRow (w.heap.size + 4) 25 7 lv' (x.2.length + 1) (xs ++ cs)) (hg : W.grownBy w7 lv.ownBlock) (hloc : lv'.ownBlock = lv.ownBlock ∨ lv'.ownBlock = some W.heap.size) (hcs : cs.length = 7) (ht : ValIs W F1 t cs)
    (hF1 : ∀ k, F1 k → w.heap.size + 4 ≤ k ∧ k < W.heap.size ∧ lv.ownBlock ≠ some k ∧ nv.ownBlock ≠ some k) :
    (w7.frozen? ⟨w.heap.size + 3, 5, none⟩ = false ∧ w7.cell? ⟨w.heap.size + 3, 5, none⟩ = some lv) ∧ PA w (w7.setCell ⟨w.heap.size + 3, 5, none⟩ lv') s p k kd (x.1, x.2 ++ [t]) := by
  have nge : ∀ j, j < w.heap.size + 4 → some j ≠ lv.ownBlock := fun j hj e => own_ne hO.list hj e.symm
  have blk : ∀ j, j < w.heap.size + 4 → w7.heap[j]? = W.heap[j]? := fun j hj => hg.block j (Nat.lt_of_lt_of_le hj hO.le) (nge j hj)
  have row := (blk (w.heap.size + 3) (by omega)).trans hO.row
  refine ⟨by simp [World.frozen?, World.cell?, row], ?_, ?_, ?_, ⟨lv', nv, _, _, VObj.part hO rfl hg hloc hown hcs ht hF1⟩, ?_⟩
  · rw [Below.heap_setCell _ _ _ _ (show w.heap.size ≠ w.heap.size + 3 by omega), blk _ (by omega)]
    exact h.r
  · rw [Below.heap_setCell _ _ _ _ (show w.heap.size + 1 ≠ w.heap.size + 3 by omega), blk _ (by omega)]
    exact h.o1
  · rw [Below.heap_setCell _ _ _ _ (show w.heap.size + 2 ≠ w.heap.size + 3 by omega), blk _ (by omega)]
    exact h.o2
  · refine Below.setCell (h.low.trans ⟨hg.os, hg.tape, hg.output, hg.size, fun j hj => blk j (by omega)⟩) (show w.heap.size ≤ w.heap.size + 3 by omega) _
/-- A name is put behind the others. -/
theorem PA.named {w W w7 : World} {s : ByteArray} {p k kd : Int} {x : St} {lv nv nv' : Value} {xs : List Value} {F : Nat → Prop} {nm : B} (h : PA w W s p k kd x) (hO : VObj W (w.heap.size + 3) (w.heap.size + 4) kd x.2 x.1 lv nv xs F)
    (hown : w7.ownsRow (w.heap.size + 4) 9 1 nv' (x.1.length + 1) (x.1.map (fun t => Value.string (str t)) ++ [.string (str nm)])) (hg : W.grownBy w7 nv.ownBlock) (hloc : nv'.ownBlock = nv.ownBlock ∨ nv'.ownBlock = some W.heap.size) :
    (w7.frozen? ⟨w.heap.size + 3, 6, none⟩ = false ∧ w7.cell? ⟨w.heap.size + 3, 6, none⟩ = some nv) ∧ PA w (w7.setCell ⟨w.heap.size + 3, 6, none⟩ nv') s p k kd (x.1 ++ [nm], x.2) ∧ VObj (w7.setCell ⟨w.heap.size + 3, 6, none⟩ nv') (w.heap.size + 3) (w.heap.size + 4) kd x.2 (x.1 ++ [nm]) lv nv' xs F := by
  have nge : ∀ j, j < w.heap.size + 4 → some j ≠ nv.ownBlock := fun j hj e => own_ne hO.names hj e.symm
  have blk : ∀ j, j < w.heap.size + 4 → w7.heap[j]? = W.heap[j]? := fun j hj => hg.block j (Nat.lt_of_lt_of_le hj hO.le) (nge j hj)
  have row := (blk (w.heap.size + 3) (by omega)).trans hO.row
  refine ⟨by simp [World.frozen?, World.cell?, row], ⟨?_, ?_, ?_, ⟨lv, nv', _, _, VObj.name hO rfl hg hloc hown⟩, ?_⟩, VObj.name hO rfl hg hloc hown⟩
  · rw [Below.heap_setCell _ _ _ _ (show w.heap.size ≠ w.heap.size + 3 by omega), blk _ (by omega)]
    exact h.r
  · rw [Below.heap_setCell _ _ _ _ (show w.heap.size + 1 ≠ w.heap.size + 3 by omega), blk _ (by omega)]
    exact h.o1
  · rw [Below.heap_setCell _ _ _ _ (show w.heap.size + 2 ≠ w.heap.size + 3 by omega), blk _ (by omega)]
    exact h.o2
  · refine Below.setCell (h.low.trans ⟨hg.os, hg.tape, hg.output, hg.size, fun j hj => blk j (by omega)⟩) (show w.heap.size ≤ w.heap.size + 3 by omega) _
theorem names_on {w : World} {base n c : Nat} {p : Option Addr} {ns : List B} (h : w.ownsRow base 9 1 (.slice p n c) ns.length (ns.map fun t => .string (str t))) : NamesOn w ns p := fun j t hj => by
  obtain ⟨p', c', e, hp⟩ := own_cells h
  have hpos : 0 < ns.length := by have := (List.getElem?_eq_some_iff.1 hj).1; omega
  obtain ⟨g, o, rfl, _, _, _, rfl, hc⟩ := hp hpos
  simp only [Value.slice.injEq] at e
  refine ⟨g, 0, e.1, ?_⟩
  rw [Nat.zero_add]
  exact hc j _ (by rw [List.getElem?_map, hj]; rfl)
/-- A part in memory, ahead of its append. -/
structure Laid6 (w wr w3 W : World) (s : ByteArray) (p K kd : Int) (x : St) (lv nv : Value) (xs : List Value) (F : Nat → Prop) (t : JV) (cs : List Value) : Prop where
  pa : PA w W s p K kd x
  obj : VObj W (w.heap.size + 3) (w.heap.size + 4) kd x.2 x.1 lv nv xs F
  val : ValIs W (fun j => wr.heap.size ≤ j ∧ j < w3.heap.size) t cs
  foot : ∀ j, wr.heap.size ≤ j ∧ j < w3.heap.size → w.heap.size + 4 ≤ j ∧ j < W.heap.size ∧ lv.ownBlock ≠ some j ∧ nv.ownBlock ≠ some j
/-- What a value of seven cells, laid behind a reading, looks like in memory. -/
theorem two_laid {w3 : World} {o1 : Obj} {c0 c1 c2 c3 c4 c5 c6 : Value} {b : Nat} (hb : b < w3.heap.size) (a0 a1 a2 : Value) : (((((w3.alloc o1).alloc (.cells #[c0, c1, c2, c3, c4, c5, c6] 25 (0, 0))).setCell ⟨b, 0, none⟩ a0).setCell ⟨b, 1, none⟩ a1).setCell ⟨b, 2, none⟩ a2).heap[w3.heap.size + 1]? = some (.cells #[c0, c1, c2, c3, c4, c5, c6] 25 (0, 0)) := by
  rw [three_other (by omega)]
  exact new_second _ _ _
theorem keep_laid {w3 : World} {F F' : Nat → Prop} {o1 o2 o3 : Obj} {b : Nat} (hF : ∀ j, F j → j < w3.heap.size ∧ j ≠ b) (hF' : ∀ j, F j → F' j) (a0 a1 a2 : Value) {t : JV} {cs : List Value} (h : ValIs w3 F t cs) : ValIs ((((((w3.alloc o1).alloc o2).setCell ⟨b, 0, none⟩ a0).setCell ⟨b, 1, none⟩ a1).setCell ⟨b, 2, none⟩ a2).alloc o3) F' t cs :=
  ValIs.keep (fun j hj => by
    obtain ⟨h1, h2⟩ := hF j hj
    rw [(below_new _ o3).block j (by simp only [size_set]; simp; omega), three_other h2]
    exact (two_box w3 o1 o2).block j h1) hF' t cs h
theorem laid6n {w wr w3 W : World} {s : ByteArray} {p0 k0 p K kd : Int} {x : St} {lv nv : Value} {xs : List Value} {F : Nat → Prop} {o1 o3 : Obj} (hp : PA w w3 s p0 k0 kd x) (hO0 : VObj wr (w.heap.size + 3) (w.heap.size + 4) kd x.2 x.1 lv nv xs F) (hb : Below wr.heap.size wr w3)
    (hW : W = ((((w3.alloc o1).setCell ⟨w.heap.size, 0, none⟩ (.string s)).setCell ⟨w.heap.size, 1, none⟩ (.int .i64 p)).setCell ⟨w.heap.size, 2, none⟩ (.int .i64 K)).alloc o3) : PA w W s p K kd x ∧ VObj W (w.heap.size + 3) (w.heap.size + 4) kd x.2 x.1 lv nv xs F := by
  subst hW
  have hO3 : VObj w3 (w.heap.size + 3) (w.heap.size + 4) kd x.2 x.1 lv nv xs F := hO0.same hb.size fun j hj _ => hb.block j hj
  have hO4 : VObj (w3.alloc o1) (w.heap.size + 3) (w.heap.size + 4) kd x.2 x.1 lv nv xs F := hO3.same (below_new w3 o1).size fun j hj _ => (below_new w3 o1).block j hj
  have hO5 := hO4.turn ((((Turn.refl w.heap.size (w3.alloc o1)).setCell 0 (.string s)).setCell 1 (.int .i64 p)).setCell 2 (.int .i64 K)) (by omega) (by omega)
  exact ⟨((hp.below (below_new w3 o1)).put s p K).below (below_new _ o3), hO5.same (below_new _ o3).size fun j hj _ => (below_new _ o3).block j hj⟩
theorem two_ways {s : ByteArray} {P k : Nat} {K : Int} {nm : B} {r : Res B} (hK : (k : Int) = K) (h : (k = 0 ∧ r = .ok nm (s.data.toList.drop P)) ∨ (k ≠ 0 ∧ r = .err k (s.data.toList.drop P))) :
    ((K != 0) = true ∧ Hid (k ≠ 0 ∧ r = .err k (s.data.toList.drop P))) ∨ (K = 0 ∧ Hid (r = .ok nm (s.data.toList.drop P))) := by
  rcases h with ⟨h0, hr⟩ | ⟨h0, hr⟩
  · exact .inr ⟨by omega, hr⟩
  · refine .inl ⟨?_, h0, hr⟩
    simp only [bne_iff_ne, ne_eq]
    omega
theorem laid6 {w wr w3 W : World} {s : ByteArray} {p0 k0 p K kd : Int} {x : St} {lv nv : Value} {xs : List Value} {F : Nat → Prop} {t : JV} {cs : List Value} {o1 o2 o3 : Obj} (hp : PA w w3 s p0 k0 kd x) (hO0 : VObj wr (w.heap.size + 3) (w.heap.size + 4) kd x.2 x.1 lv nv xs F) (hb : Below wr.heap.size wr w3) (hv : ValIs w3 (fun j => wr.heap.size ≤ j ∧ j < w3.heap.size) t cs)
    (hW : W = ((((((w3.alloc o1).alloc o2).setCell ⟨w.heap.size, 0, none⟩ (.string s)).setCell ⟨w.heap.size, 1, none⟩ (.int .i64 p)).setCell ⟨w.heap.size, 2, none⟩ (.int .i64 K))).alloc o3) : Laid6 w wr w3 W s p K kd x lv nv xs F t cs := by
  subst hW
  have hO3 : VObj w3 (w.heap.size + 3) (w.heap.size + 4) kd x.2 x.1 lv nv xs F := hO0.same hb.size fun j hj _ => hb.block j hj
  have hO4 : VObj ((w3.alloc o1).alloc o2) (w.heap.size + 3) (w.heap.size + 4) kd x.2 x.1 lv nv xs F := hO3.same (two_box w3 o1 o2).size fun j hj _ => (two_box w3 o1 o2).block j hj
  have hO5 := hO4.turn ((((Turn.refl w.heap.size ((w3.alloc o1).alloc o2)).setCell 0 (.string s)).setCell 1 (.int .i64 p)).setCell 2 (.int .i64 K)) (by omega) (by omega)
  have hle := hO0.le
  refine ⟨((hp.below (two_box w3 o1 o2)).put s p K).below (below_new _ o3), hO5.same (below_new _ o3).size fun j hj _ => (below_new _ o3).block j hj, keep_laid (fun j hj => ⟨hj.2, by omega⟩) (fun j hj => hj) _ _ _ hv, fun j hj => ⟨by omega, ?_, own_old hO0.list hj.1, own_old hO0.names hj.1⟩⟩
  have h1 := (two_box w3 o1 o2).size
  have h2 := (below_new (((((w3.alloc o1).alloc o2).setCell ⟨w.heap.size, 0, none⟩ (.string s)).setCell ⟨w.heap.size, 1, none⟩ (.int .i64 p)).setCell ⟨w.heap.size, 2, none⟩ (.int .i64 K)) o3).size
  simp only [size_set] at h2
  omega
theorem PA.final {w U : World} {kd : Int} {x : St} {lv nv : Value} {xs : List Value} {F : Nat → Prop} (hO : VObj U (w.heap.size + 3) (w.heap.size + 4) kd x.2 x.1 lv nv xs F) (a0 a1 a2 c0 c1 c2 c3 c4 c5 c6 : Value) :
    ValIs ((((((((((U.setCell ⟨w.heap.size + 1, 0, none⟩ a0).setCell ⟨w.heap.size + 1, 1, none⟩ a1).setCell ⟨w.heap.size + 1, 2, none⟩ a2).setCell ⟨w.heap.size + 2, 0, none⟩ c0).setCell ⟨w.heap.size + 2, 1, none⟩ c1).setCell ⟨w.heap.size + 2, 2, none⟩ c2).setCell ⟨w.heap.size + 2, 3, none⟩ c3).setCell ⟨w.heap.size + 2, 4, none⟩ c4).setCell ⟨w.heap.size + 2, 5, none⟩ c5).setCell ⟨w.heap.size + 2, 6, none⟩ c6)
      (fun k => w.heap.size ≤ k ∧ k < ((((((((((U.setCell ⟨w.heap.size + 1, 0, none⟩ a0).setCell ⟨w.heap.size + 1, 1, none⟩ a1).setCell ⟨w.heap.size + 1, 2, none⟩ a2).setCell ⟨w.heap.size + 2, 0, none⟩ c0).setCell ⟨w.heap.size + 2, 1, none⟩ c1).setCell ⟨w.heap.size + 2, 2, none⟩ c2).setCell ⟨w.heap.size + 2, 3, none⟩ c3).setCell ⟨w.heap.size + 2, 4, none⟩ c4).setCell ⟨w.heap.size + 2, 5, none⟩ c5).setCell ⟨w.heap.size + 2, 6, none⟩ c6).heap.size)
      (.mk kd false [] 0 false x.2 x.1) [.int .i64 kd, .bool false, .string ⟨#[]⟩, .int .i64 0, .bool false, lv, nv] := by
  rw [out_size]
  exact ValIs.keep (fun j hj => out_keep (by omega) (by omega) _ _ _ _ _ _ _ _ _ _) (fun j hj => ⟨by omega, hj.2⟩) _ _ (hO.val (F' := fun j => w.heap.size + 4 ≤ j ∧ j < U.heap.size) (fun j h1 h2 => ⟨h1, h2⟩))
set_option maxRecDepth 20000 in
set_option maxHeartbeats 8000000 in
theorem rparts_list {f : B → Res JV} (s : ByteArray) (p : Nat) (z : Int) (hz : z = (p : Int)) (d : Nat) (zd : Int) (hzd : zd = (d : Int)) (hp : p ≤ s.size) (hs : s.size ≤ 1048576) (hf : ShortV f) (hv : RValOk s f d) (w : World) : Calls Tryz.prog 34 #[.agg #[.string s, .int .i64 z, .int .i64 0], .int .i64 5, .int .u8 93, .int .i64 zd] w fun e w' => ToldRv s (nestR 5 (nestedS (listStep f) [93] ([], []) (s.data.toList.drop p))) w e w' := by
  subst hz hzd
  obtain ⟨T, hT⟩ : ∃ T, nestedS (listStep f) [93] ([], []) (s.data.toList.drop p) = T := ⟨_, rfl⟩
  rw [hT]
  have HT := hid hT
  have HZ := hid hp
  have HS := hid hs
  have HS4 := hid (show s.size ≤ 140737488355328 by omega)
  have HV := hid hv
  have HSh := hid (list_short hf)
  obtain ⟨i0, hi0, hz0, hz1, hz2⟩ := info_parts infoV
  obtain ⟨W0, hW0⟩ : ∃ W0, W0 = (((w.alloc (.cells #[.string s, .int .i64 (p : Int), .int .i64 0] 49 (0, 0))).alloc (.cells #[.string ⟨#[]⟩, .int .i64 0, .int .i64 0] 49 (0, 0))).alloc (.cells #[.int .i64 0, .bool false, .string ⟨#[]⟩, .int .i64 0, .bool false, .slice none 0 0, .slice none 0 0] 25 (0, 0))).alloc (.cells #[.int .i64 5, .bool false, .string ⟨#[]⟩, .int .i64 0, .bool false, .slice none 0 0, .slice none 0 0] 25 (0, 0)) := ⟨_, rfl⟩
  have HW0 := hid hW0
  have HP0 := hid (PA.start (kd := 5) hW0)
  clear hT hW0 hv hf
  go_enter Tryz.func34, Tryz.ntmps34
  go_wp2_with (first
    | (rw [← HW0.out]; go_at_call 32; have hcall := rblanks_any s p 0 HZ.out HS4.out W0; (with_reducible refine hcall.mono ?_); clear hcall; rintro e w1 ⟨P1, _, hP1, hd1, rfl, hb⟩; have HD1 := hid hd1; have HP1 := hid (HP0.out.below hb); have HP2 := hid (HP1.out.put s (P1 : Int) 0); clear hb hd1; obtain ⟨a0, a1, a2, az⟩ := three HP1.out.r; have az0 := az 0; have az1 := az 1; have az2 := az 2; clear az; obtain ⟨b0, b1, b2, bz⟩ := three HP2.out.r; have bz0 := bz 0; have bz1 := bz 1; have bz2 := bz 2; clear bz; obtain ⟨X, hX2⟩ : ∃ X : Nat, (nx (s.data.toList.drop P1)).toNat = X := ⟨_, rfl⟩; have HX2 := hid hX2; rcases nx_cases _ 93 X 93 93 hX2 rfl rfl with ⟨hX, rfl⟩ | ⟨hX, hXn⟩ <;> clear hX2)
    | (go_at_call 33; have hcall := rnext_any s P1 0 hP1 (((w1.setCell ⟨w.heap.size, 0, none⟩ (.string s)).setCell ⟨w.heap.size, 1, none⟩ (.int .i64 (P1 : Int))).setCell ⟨w.heap.size, 2, none⟩ (.int .i64 0)); rw [HX2.out] at hcall; (with_reducible refine hcall.mono ?_); clear hcall; rintro e w2 ⟨rfl, hb⟩; have HP3 := hid (HP2.out.below hb); clear hb HP2; obtain ⟨c0, c1, c2, cz⟩ := three HP3.out.r; have cz0 := cz 0; have cz1 := cz 1; have cz2 := cz 2; clear cz))
  · obtain ⟨hPl, hd⟩ := drop_nx (s := s) (P := P1) (by rw [hX]; decide)
    have HN := hid (show T = .ok ([], []) (s.data.toList.drop (P1 + 1)) from by
      rw [← HT.out]
      unfold nestedS
      rw [← HD1.out, hd, hX]
      rfl)
    clear hd hX
    have HM := hid (HP3.out.move ((P1 : Int) + 1) _ rfl)
    obtain ⟨lv, nv, xs, F, hO⟩ := HM.out.obj
    obtain ⟨p5z, L5z, c5z, rfl⟩ := own_slice3 hO.list
    obtain ⟨p6z, L6z, c6z, rfl⟩ := own_slice3 hO.names
    have HOz := hid hO
    clear hO
    refine wp_region_noPanic ?_
    refine any_begin 4 (by kernel_rfl) (by kernel_rfl) ?_
    have HBD := hid (show Below (w2.setCell ⟨w.heap.size, 1, none⟩ (.int .i64 ((P1 : Int) + 1))).heap.size (w2.setCell ⟨w.heap.size, 1, none⟩ (.int .i64 ((P1 : Int) + 1))) (w2.setCell ⟨w.heap.size, 1, none⟩ (.int .i64 ((P1 : Int) + 1))).drew from below_drew (Below.refl _ _) 1)
    have HMV := hid (HM.out.below HBD.out)
    have HOV := hid (HOz.out.same HBD.out.size fun j hj _ => HBD.out.block j hj)
    clear HBD
    refine late_begin (fun U => StP w U s ((P1 : Int) + 1) 5 (.slice p5z L5z c5z) (.slice p6z L6z c6z)) (fun _ => false) ⟨HMV.out.r, HOV.out.row⟩ (fun hS => ?_)
    generalize (w2.setCell ⟨w.heap.size, 1, none⟩ (.int .i64 ((P1 : Int) + 1))).drew = V at hS HMV HOV ⊢
    obtain ⟨y0, y1, y2, yz⟩ := three HMV.out.o1; have yz0 := yz 0; have yz1 := yz 1; have yz2 := yz 2; clear yz
    obtain ⟨q0, q1, q2, q3, q4, q5, q6, qz⟩ := seven HMV.out.o2; have qz0 := qz 0; have qz1 := qz 1; have qz2 := qz 2; have qz3 := qz 3; have qz4 := qz 4; have qz5 := qz 5; have qz6 := qz 6; clear qz
    refine late_take (i := 0) (some 27) rfl rfl (by kernel_rfl) (by kernel_rfl) (by kernel_rfl) (by kernel_rfl) (by kernel_rfl) (fun _ _ _ h => h) (by rfl) (v := ?v0a) ?hy0a hS ?rest0a
    case hy0a => intro w0 hSw; obtain ⟨k0, k1, k2, _⟩ := three hSw.r; obtain ⟨m0, m1, m2, m3, m4, m5, m6, _⟩ := seven hSw.v; go_simp; try with_reducible rfl
    simp only [Act.put, List.setIfInBounds_toArray, List.set_cons_zero, List.set_cons_succ]
    refine late_take (i := 1) (some 28) rfl rfl (by kernel_rfl) (by kernel_rfl) (by kernel_rfl) (by kernel_rfl) (by kernel_rfl) (fun _ _ _ h => h) (by rfl) (v := ?v1a) ?hy1a hS ?rest1a
    case hy1a => intro w0 hSw; obtain ⟨k0, k1, k2, _⟩ := three hSw.r; obtain ⟨m0, m1, m2, m3, m4, m5, m6, _⟩ := seven hSw.v; go_simp; try with_reducible rfl
    simp only [Act.put, List.setIfInBounds_toArray, List.set_cons_zero, List.set_cons_succ]
    refine wpAnyD_one (i := 2) (by kernel_rfl) rfl (fun K hK => ?_)
    go_simp
    refine hK _ _ ⟨fun _ => ⟨(three_other (show w.heap.size ≠ w.heap.size + 1 by omega) _ _ _).trans hS.r, (three_other (show w.heap.size + 3 ≠ w.heap.size + 1 by omega) _ _ _).trans hS.v⟩, ?_⟩
    clear hK K
    refine wpAnyD_one (i := 3) (by kernel_rfl) rfl (fun K hK => ?_)
    go_simp
    refine hK _ _ ⟨fun _ => ⟨(out_keep (show w.heap.size ≠ w.heap.size + 1 by omega) (show w.heap.size ≠ w.heap.size + 2 by omega) _ _ _ _ _ _ _ _ _ _).trans hS.r, (out_keep (show w.heap.size + 3 ≠ w.heap.size + 1 by omega) (show w.heap.size + 3 ≠ w.heap.size + 2 by omega) _ _ _ _ _ _ _ _ _ _).trans hS.v⟩, ?_⟩
    clear hK K
    refine late_done (by kernel_rfl) ?_ _
    refine NoPanic.normal ?_
    clear hS
    go_wp2
    (try simp only [Exit.inBlock, Exit.then])
    refine bodyPost_ret (results_rdval rfl _ _ _ _ 49 25 _ _ (0, 0) (0, 0) rfl rfl (out_rv (has_three HMV.out.o1) (has_seven HMV.out.o2) (Nat.ne_of_lt (Nat.lt_succ_self _)) _ _ _ _ _ _ _ _ _ _).1 (out_rv (has_three HMV.out.o1) (has_seven HMV.out.o2) (Nat.ne_of_lt (Nat.lt_succ_self _)) _ _ _ _ _ _ _ _ _ _).2 rfl rfl) rfl ?_
    rw [HN.out]
    exact ⟨P1 + 1, 0, _, _, by omega, by push_cast; rfl, PA.final (x := ([], [])) HOV.out _ _ _ _ _ _ _ _ _ _, HMV.out.outB _ _ _ _ _ _ _ _ _ _, .inl ⟨rfl, rfl⟩⟩
  · have HTp := hid (show partsF (listStep f) [93] (s.size - P1 + 1) ([], []) (s.data.toList.drop P1) = T from by
      rw [← HT.out]
      unfold nestedS
      rw [← HD1.out]
      have hsk : skip [93] (s.data.toList.drop P1) = none := by
        cases hd : s.data.toList.drop P1 with
        | nil => rfl
        | cons c t =>
          rw [hd] at hX
          have : ¬ c = 93 := hX
          simp [skip, this]
      rw [hsk]
      simp only
      congr 1
      rw [List.length_drop]
      have : s.data.toList.length = s.size := rfl
      omega)
    have HBl := hid (show blanks (s.data.toList.drop P1) = s.data.toList.drop P1 from by rw [HD1.out]; exact blanks_idem _)
    clear hX hXn
    go_loopg [] (s.size - P1 + 1) (fun gk wr => ∃ (P k : Nat) (x : St), P ≤ s.size ∧ (k = 0 → s.size - P < gk ∧ x.1.length + (s.size - P) ≤ s.size + 1 ∧ x.2.length + (s.size - P) ≤ s.size + 1 ∧ blanks (s.data.toList.drop P) = s.data.toList.drop P ∧ partsF (listStep f) [93] gk x (s.data.toList.drop P) = T) ∧ (k ≠ 0 → T = .err k (s.data.toList.drop P)) ∧ PA w wr s (P : Int) (k : Int) 5 x)
    case atStart => exact ⟨P1, 0, ([], []), hP1, fun _ => ⟨by omega, by simp; omega, by simp; omega, HBl.out, HTp.out⟩, fun h => absurd rfl h, HP3.out⟩
    case round =>
      obtain ⟨P, k, x, h2, hT0, hT1, hPA⟩ := hrel
      have HPA := hid hPA
      have HZ2 := hid h2
      clear hPA
      obtain ⟨r0, r1, r2, rz⟩ := three HPA.out.r
      have rz0 := rz 0; have rz1 := rz 1; have rz2 := rz 2
      clear rz
      by_cases hk : k = 0
      case neg =>
        have HN := hid (hT1 hk)
        have q1 : ((k : Int) == 0) = false := by simp only [beq_eq_false_iff_ne, ne_eq]; omega
        clear hT0 hT1
        obtain ⟨y0, y1, y2, yz⟩ := three HPA.out.o1; have yz0 := yz 0; have yz1 := yz 1; have yz2 := yz 2; clear yz
        obtain ⟨q0, q1, q2, q3, q4, q5, q6, qz⟩ := seven HPA.out.o2; have qz0 := qz 0; have qz1 := qz 1; have qz2 := qz 2; have qz3 := qz 3; have qz4 := qz 4; have qz5 := qz 5; have qz6 := qz 6; clear qz
        go_wp2
        (try simp only [Exit.inBlock, Exit.then])
        refine bodyPost_ret (results_rdval rfl _ _ _ _ 49 25 _ _ (0, 0) (0, 0) rfl rfl (out_rv (has_three HPA.out.o1) (has_seven HPA.out.o2) (Nat.ne_of_lt (Nat.lt_succ_self _)) _ _ _ _ _ _ _ _ _ _).1 (out_rv (has_three HPA.out.o1) (has_seven HPA.out.o2) (Nat.ne_of_lt (Nat.lt_succ_self _)) _ _ _ _ _ _ _ _ _ _).2 rfl rfl) rfl ?_
        rw [HN.out]
        exact ⟨P, k, .zero, _, HZ2.out, rfl, zero_val _ _, HPA.out.outB _ _ _ _ _ _ _ _ _ _, .inr ⟨hk, rfl, rfl⟩⟩
      subst hk
      obtain ⟨hgk, hl1, hl2, hbl, hpt⟩ := hT0 rfl
      have HPt := hid hpt
      have HBl2 := hid hbl
      clear hT0 hT1 hpt hbl
      cases gk with
      | zero => omega
      | succ g =>
      obtain ⟨lv, nv, xs, F, hO⟩ := HPA.out.obj
      obtain ⟨p5, c5, rfl⟩ := own_slice hO.list
      obtain ⟨p6, c6, rfl⟩ := own_slice hO.names
      have HO := hid hO
      obtain ⟨n5, hn5⟩ : ∃ n5, x.2.length = n5 := ⟨_, rfl⟩
      obtain ⟨n6, hn6⟩ : ∃ n6, x.1.length = n6 := ⟨_, rfl⟩
      have HN5 := hid hn5
      have HN6 := hid hn6
      rw [hn5, hn6] at HO
      rw [hn6] at hl1
      rw [hn5] at hl2
      clear hO hn5 hn6
      obtain ⟨m0, m1, m2, m3, m4, m5, m6, _⟩ := seven HO.out.row
      go_wp2_with (first
        | (go_at_call 19; have hcall := HV.out wr P HZ2.out; (with_reducible refine hcall.mono ?_); clear hcall; rintro e w3 ⟨P2, k2, x2, cs, hP2, rfl, hv2, hb, hcase⟩; obtain ⟨e1, e2, e3, e4, e5, e6, e7, e8, e9, e10, e11, rfl⟩ := hv2.form; obtain ⟨K, hK⟩ : ∃ K : Int, (k2 : Int) = K := ⟨_, rfl⟩; rw [hK]; have HK := hid hK; have HPa3 := hid (HPA.out.below hb); have HOb3 := hid (HO.out.same hb.size fun j hj _ => hb.block j hj); have HPa5 := hid ((HPa3.out.below (two_box w3 (.cells #[.string s, .int .i64 (P2 : Int), .int .i64 K] 49 (0, 0)) (.cells #[.int .i64 e1, .bool e2, .string (str e3), .int .i64 e4, .bool e5, .slice e6 e7 e8, .slice e9 e10 e11] 25 (0, 0)))).put s (P2 : Int) K); have HOb5 := hid ((HOb3.out.same (two_box w3 (.cells #[.string s, .int .i64 (P2 : Int), .int .i64 K] 49 (0, 0)) (.cells #[.int .i64 e1, .bool e2, .string (str e3), .int .i64 e4, .bool e5, .slice e6 e7 e8, .slice e9 e10 e11] 25 (0, 0))).size fun j hj _ => (two_box w3 (.cells #[.string s, .int .i64 (P2 : Int), .int .i64 K] 49 (0, 0)) (.cells #[.int .i64 e1, .bool e2, .string (str e3), .int .i64 e4, .bool e5, .slice e6 e7 e8, .slice e9 e10 e11] 25 (0, 0))).block j hj).turn ((((Turn.refl w.heap.size _).setCell 0 (.string s)).setCell 1 (.int .i64 (P2 : Int))).setCell 2 (.int .i64 K)) (by omega) (by omega)); have HC5 := hid (two_laid (w3 := w3) (o1 := (.cells #[.string s, .int .i64 (P2 : Int), .int .i64 K] 49 (0, 0))) (c0 := .int .i64 e1) (c1 := .bool e2) (c2 := .string (str e3)) (c3 := .int .i64 e4) (c4 := .bool e5) (c5 := .slice e6 e7 e8) (c6 := .slice e9 e10 e11) (lt_of_heap HPa3.out.r) (.string s) (.int .i64 (P2 : Int)) (.int .i64 K)); obtain ⟨W6, hW6⟩ : ∃ W6, W6 = (((((w3.alloc (.cells #[.string s, .int .i64 (P2 : Int), .int .i64 K] 49 (0, 0))).alloc (.cells #[.int .i64 e1, .bool e2, .string (str e3), .int .i64 e4, .bool e5, .slice e6 e7 e8, .slice e9 e10 e11] 25 (0, 0))).setCell ⟨w.heap.size, 0, none⟩ (.string s)).setCell ⟨w.heap.size, 1, none⟩ (.int .i64 (P2 : Int))).setCell ⟨w.heap.size, 2, none⟩ (.int .i64 K)).alloc (.cells #[.int .i64 e1, .bool e2, .string (str e3), .int .i64 e4, .bool e5, .slice e6 e7 e8, .slice e9 e10 e11] 25 (0, 0)) := ⟨_, rfl⟩; have HW6 := hid hW6; have HL6 := hid (laid6 HPa3.out HO.out hb hv2 hW6); clear hW6; have HR4 := hid (HPa3.out.below (two_box w3 (.cells #[.string s, .int .i64 (P2 : Int), .int .i64 K] 49 (0, 0)) (.cells #[.int .i64 e1, .bool e2, .string (str e3), .int .i64 e4, .bool e5, .slice e6 e7 e8, .slice e9 e10 e11] 25 (0, 0)))); obtain ⟨a0, a1, a2, az⟩ := three HR4.out.r; have az0 := az 0; have az1 := az 1; have az2 := az 2; clear az; obtain ⟨b0, b1, b2, bz⟩ := three HPa5.out.r; have bz0 := bz 0; have bz1 := bz 1; have bz2 := bz 2; clear bz; obtain ⟨h0, h1, h2, h3, h4, h5, h6, _⟩ := seven HOb5.out.row; obtain ⟨g0, g1, g2, g3, g4, g5, g6, _⟩ := seven HC5.out; clear hb hv2; rcases four_ways 93 93 93 rfl rfl hK hcase with ⟨hkn, HCa⟩ | ⟨rfl, HCb, HX2⟩ | ⟨X, rfl, hXn, HX2, HCc⟩ | ⟨X, rfl, hXn, HX2, HCd⟩ <;> clear hcase hK)
        | (at_builtin; rw [← HW6.out]; refine wpList_append_own_at _ rfl (.tmp 59) (.tmp 61) 22 rfl (w.heap.size + 4) 25 i0 _ 7 96 Tryz.underlying22 hi0 hz0 hz1 hz2 rfl (by decide) (.slice p5 n5 c5) n5 xs (by go_simp) (by have h8 := HL6.out.obj.list; rw [HN5.out] at h8; exact h8) ⟨(((((w3.alloc (.cells #[.string s, .int .i64 (P2 : Int), .int .i64 K] 49 (0, 0))).alloc (.cells #[.int .i64 e1, .bool e2, .string (str e3), .int .i64 e4, .bool e5, .slice e6 e7 e8, .slice e9 e10 e11] 25 (0, 0))).setCell ⟨w.heap.size, 0, none⟩ (.string s)).setCell ⟨w.heap.size, 1, none⟩ (.int .i64 (P2 : Int))).setCell ⟨w.heap.size, 2, none⟩ (.int .i64 K)).heap.size, 0, none⟩ 1 1 [.int .i64 e1, .bool e2, .string (str e3), .int .i64 e4, .bool e5, .slice e6 e7 e8, .slice e9 e10 e11] (by go_simp) rfl (by rw [HW6.out]; exact cells_new _ [.int .i64 e1, .bool e2, .string (str e3), .int .i64 e4, .bool e5, .slice e6 e7 e8, .slice e9 e10 e11] _) (by simp [Value.oneCell']) (by unfold maxLen; omega) (by omega) HL6.out.obj.le ?_; intro v' w7 hown hgr _ hloc; obtain ⟨p7, c7, rfl⟩ := own_slice hown; have HP8 := hid (PA.push (x := x) HL6.out.pa HL6.out.obj (by rw [HN5.out]; exact hown) hgr hloc rfl HL6.out.val HL6.out.foot); clear hown hgr hloc; have f8 := HP8.out.1.1; have k8 := HP8.out.1.2; obtain ⟨d0, d1, d2, dz⟩ := three HP8.out.2.r; have dz0 := dz 0; have dz1 := dz 1; have dz2 := dz 2; clear dz; obtain ⟨y0, y1, y2, yz⟩ := three HP8.out.2.o1; have yz0 := yz 0; have yz1 := yz 1; have yz2 := yz 2; clear yz; obtain ⟨q0, q1, q2, q3, q4, q5, q6, qz⟩ := seven HP8.out.2.o2; have qz0 := qz 0; have qz1 := qz 1; have qz2 := qz 2; have qz3 := qz 3; have qz4 := qz 4; have qz5 := qz 5; have qz6 := qz 6; clear qz)
        | (at_builtin; rw [← HW6.out]; refine wpList_append_own_at _ rfl (.tmp 59) (.tmp 61) 22 rfl (w.heap.size + 4) 25 i0 _ 7 96 Tryz.underlying22 hi0 hz0 hz1 hz2 rfl (by decide) (.slice p5 n5 c5) n5 xs (by go_simp) (by have h8 := HL6.out.obj.list; rw [HN5.out] at h8; exact h8) ⟨(((((w3.alloc (.cells #[.string s, .int .i64 (P2 : Int), .int .i64 0] 49 (0, 0))).alloc (.cells #[.int .i64 e1, .bool e2, .string (str e3), .int .i64 e4, .bool e5, .slice e6 e7 e8, .slice e9 e10 e11] 25 (0, 0))).setCell ⟨w.heap.size, 0, none⟩ (.string s)).setCell ⟨w.heap.size, 1, none⟩ (.int .i64 (P2 : Int))).setCell ⟨w.heap.size, 2, none⟩ (.int .i64 0)).heap.size, 0, none⟩ 1 1 [.int .i64 e1, .bool e2, .string (str e3), .int .i64 e4, .bool e5, .slice e6 e7 e8, .slice e9 e10 e11] (by go_simp) rfl (by rw [HW6.out]; exact cells_new _ [.int .i64 e1, .bool e2, .string (str e3), .int .i64 e4, .bool e5, .slice e6 e7 e8, .slice e9 e10 e11] _) (by simp [Value.oneCell']) (by unfold maxLen; omega) (by omega) HL6.out.obj.le ?_; intro v' w7 hown hgr _ hloc; obtain ⟨p7, c7, rfl⟩ := own_slice hown; have HP8 := hid (PA.push (x := x) HL6.out.pa HL6.out.obj (by rw [HN5.out]; exact hown) hgr hloc rfl HL6.out.val HL6.out.foot); clear hown hgr hloc; have f8 := HP8.out.1.1; have k8 := HP8.out.1.2; obtain ⟨d0, d1, d2, dz⟩ := three HP8.out.2.r; have dz0 := dz 0; have dz1 := dz 1; have dz2 := dz 2; clear dz; obtain ⟨y0, y1, y2, yz⟩ := three HP8.out.2.o1; have yz0 := yz 0; have yz1 := yz 1; have yz2 := yz 2; clear yz; obtain ⟨q0, q1, q2, q3, q4, q5, q6, qz⟩ := seven HP8.out.2.o2; have qz0 := qz 0; have qz1 := qz 1; have qz2 := qz 2; have qz3 := qz 3; have qz4 := qz 4; have qz5 := qz 5; have qz6 := qz 6; clear qz)
        | (go_at_call 33; have hcall := rnext_any s P2 0 hP2 (w7.setCell ⟨w.heap.size + 3, 5, none⟩ (.slice p7 (n5 + 1) c7)); rw [HX2.out] at hcall; (with_reducible refine hcall.mono ?_); clear hcall; rintro e w9 ⟨rfl, hb⟩; have HP9 := hid (HP8.out.2.below hb); clear hb; obtain ⟨f0, f1, f2, fz⟩ := three HP9.out.r; have fz0 := fz 0; have fz1 := fz 1; have fz2 := fz 2; clear fz)
        | (go_at_call 36; have hcall : Calls Tryz.prog 36 #[.agg #[.string s, .int .i64 (P2 : Int), .int .i64 0], .string ⟨#[44]⟩] w9 _ := rword_any s P2 [44] hP2 HS4.out (by decide) (by decide) _; (first | (rw [show word [44] (s.data.toList.drop P2) = .ok () (s.data.toList.drop (P2 + 1)) from (word44 HCc.out.2.2)] at hcall) | (rw [word_stop HCd.out.2.2] at hcall)); (with_reducible refine hcall.mono ?_); clear hcall; rintro e w10 ⟨P3, hP3, hd3, rfl, hb⟩; have HD3 := hid hd3; have HP10 := hid (HP9.out.below hb); clear hb hd3; obtain ⟨j0, j1, j2, jz⟩ := three HP10.out.r; have jz0 := jz 0; have jz1 := jz 1; have jz2 := jz 2; clear jz)
        | (go_at_call 32; have hcall := rblanks_any s P3 0 hP3 HS4.out w10; (with_reducible refine hcall.mono ?_); clear hcall; rintro e w11 ⟨P4, hle4, hP4, hd4, rfl, hb⟩; have HD4 := hid hd4; have HP11 := hid (HP10.out.below hb); clear hb hd4; obtain ⟨l0, l1, l2, lz⟩ := three HP11.out.r; have lz0 := lz 0; have lz1 := lz 1; have lz2 := lz 2; clear lz)
        | (go_at_call 32; have hcall := rblanks_any s P3 3 hP3 HS4.out w10; (with_reducible refine hcall.mono ?_); clear hcall; rintro e w11 ⟨P4, hle4, hP4, hd4, rfl, hb⟩; have HD4 := hid hd4; have HP11 := hid (HP10.out.below hb); clear hb hd4; obtain ⟨l0, l1, l2, lz⟩ := three HP11.out.r; have lz0 := lz 0; have lz1 := lz 1; have lz2 := lz 2; clear lz))
      · (try simp only [Exit.inBlock, Exit.then])
        refine bodyPost_ret (results_rdval rfl _ _ _ _ 49 25 _ _ (0, 0) (0, 0) rfl rfl (out_rv (has_three HP8.out.2.o1) (has_seven HP8.out.2.o2) (Nat.ne_of_lt (Nat.lt_succ_self _)) _ _ _ _ _ _ _ _ _ _).1 (out_rv (has_three HP8.out.2.o1) (has_seven HP8.out.2.o2) (Nat.ne_of_lt (Nat.lt_succ_self _)) _ _ _ _ _ _ _ _ _ _).2 rfl rfl) rfl ?_
        have HN := hid (show T = .err k2 (s.data.toList.drop P2) from by
          have hr := HCa.out.2
          rw [HBl2.out] at hr
          rw [← HPt.out]
          exact parts_step (by unfold listStep; rw [blankR_err hr]))
        rw [HN.out]
        exact ⟨P2, k2, .zero, _, hP2, by rw [HK.out], zero_val _ _, HP8.out.2.outB _ _ _ _ _ _ _ _ _ _, .inr ⟨HCa.out.1, rfl, rfl⟩⟩
      · obtain ⟨hPl2, hd2⟩ := drop_nx (s := s) (P := P2) (by rw [HCb.out.2]; decide)
        have hr := HCb.out.1
        rw [HBl2.out] at hr
        obtain ⟨u, hu, hbu⟩ := blankR_ok hr
        have hstep : listStep f x (s.data.toList.drop P) = .ok (x.1, x.2 ++ [x2]) u := by unfold listStep; rw [hu]
        clear hr hu
        have HN := hid (show T = .ok (x.1, x.2 ++ [x2]) (s.data.toList.drop (P2 + 1)) from by
          rw [← HPt.out, parts_done hstep (by rw [hbu]; exact HCb.out.2) (by decide), hbu, drop_one])
        clear hstep hbu hd2
        have HM := hid (HP9.out.move ((P2 : Int) + 1) _ rfl)
        obtain ⟨lv, nv, xs, F, hO⟩ := HM.out.obj
        obtain ⟨p5z, L5z, c5z, rfl⟩ := own_slice3 hO.list
        obtain ⟨p6z, L6z, c6z, rfl⟩ := own_slice3 hO.names
        have HOz := hid hO
        clear hO
        refine wp_region_noPanic ?_
        refine any_begin 4 (by kernel_rfl) (by kernel_rfl) ?_
        have HBD := hid (show Below (w9.setCell ⟨w.heap.size, 1, none⟩ (.int .i64 ((P2 : Int) + 1))).heap.size (w9.setCell ⟨w.heap.size, 1, none⟩ (.int .i64 ((P2 : Int) + 1))) (w9.setCell ⟨w.heap.size, 1, none⟩ (.int .i64 ((P2 : Int) + 1))).drew from below_drew (Below.refl _ _) 1)
        have HMV := hid (HM.out.below HBD.out)
        have HOV := hid (HOz.out.same HBD.out.size fun j hj _ => HBD.out.block j hj)
        clear HBD
        refine late_begin (fun U => StP w U s ((P2 : Int) + 1) 5 (.slice p5z L5z c5z) (.slice p6z L6z c6z)) (fun _ => false) ⟨HMV.out.r, HOV.out.row⟩ (fun hS => ?_)
        generalize (w9.setCell ⟨w.heap.size, 1, none⟩ (.int .i64 ((P2 : Int) + 1))).drew = V at hS HMV HOV ⊢
        obtain ⟨y0, y1, y2, yz⟩ := three HMV.out.o1; have yz0 := yz 0; have yz1 := yz 1; have yz2 := yz 2; clear yz
        obtain ⟨q0, q1, q2, q3, q4, q5, q6, qz⟩ := seven HMV.out.o2; have qz0 := qz 0; have qz1 := qz 1; have qz2 := qz 2; have qz3 := qz 3; have qz4 := qz 4; have qz5 := qz 5; have qz6 := qz 6; clear qz
        refine late_take (i := 0) (some 75) rfl rfl (by kernel_rfl) (by kernel_rfl) (by kernel_rfl) (by kernel_rfl) (by kernel_rfl) (fun _ _ _ h => h) (by rfl) (v := ?v0b) ?hy0b hS ?rest0b
        case hy0b => intro w0 hSw; obtain ⟨k0, k1, k2, _⟩ := three hSw.r; obtain ⟨m0, m1, m2, m3, m4, m5, m6, _⟩ := seven hSw.v; go_simp; try with_reducible rfl
        simp only [Act.put, List.setIfInBounds_toArray, List.set_cons_zero, List.set_cons_succ]
        refine late_take (i := 1) (some 76) rfl rfl (by kernel_rfl) (by kernel_rfl) (by kernel_rfl) (by kernel_rfl) (by kernel_rfl) (fun _ _ _ h => h) (by rfl) (v := ?v1b) ?hy1b hS ?rest1b
        case hy1b => intro w0 hSw; obtain ⟨k0, k1, k2, _⟩ := three hSw.r; obtain ⟨m0, m1, m2, m3, m4, m5, m6, _⟩ := seven hSw.v; go_simp; try with_reducible rfl
        simp only [Act.put, List.setIfInBounds_toArray, List.set_cons_zero, List.set_cons_succ]
        refine wpAnyD_one (i := 2) (by kernel_rfl) rfl (fun K hK => ?_)
        go_simp
        refine hK _ _ ⟨fun _ => ⟨(three_other (show w.heap.size ≠ w.heap.size + 1 by omega) _ _ _).trans hS.r, (three_other (show w.heap.size + 3 ≠ w.heap.size + 1 by omega) _ _ _).trans hS.v⟩, ?_⟩
        clear hK K
        refine wpAnyD_one (i := 3) (by kernel_rfl) rfl (fun K hK => ?_)
        go_simp
        refine hK _ _ ⟨fun _ => ⟨(out_keep (show w.heap.size ≠ w.heap.size + 1 by omega) (show w.heap.size ≠ w.heap.size + 2 by omega) _ _ _ _ _ _ _ _ _ _).trans hS.r, (out_keep (show w.heap.size + 3 ≠ w.heap.size + 1 by omega) (show w.heap.size + 3 ≠ w.heap.size + 2 by omega) _ _ _ _ _ _ _ _ _ _).trans hS.v⟩, ?_⟩
        clear hK K
        refine late_done (by kernel_rfl) ?_ _
        refine NoPanic.normal ?_
        clear hS
        go_wp2
        (try simp only [Exit.inBlock, Exit.then])
        refine bodyPost_ret (results_rdval rfl _ _ _ _ 49 25 _ _ (0, 0) (0, 0) rfl rfl (out_rv (has_three HMV.out.o1) (has_seven HMV.out.o2) (Nat.ne_of_lt (Nat.lt_succ_self _)) _ _ _ _ _ _ _ _ _ _).1 (out_rv (has_three HMV.out.o1) (has_seven HMV.out.o2) (Nat.ne_of_lt (Nat.lt_succ_self _)) _ _ _ _ _ _ _ _ _ _).2 rfl rfl) rfl ?_
        rw [HN.out]
        exact ⟨P2 + 1, 0, _, _, by omega, by push_cast; rfl, PA.final (x := (x.1, x.2 ++ [x2])) HOV.out _ _ _ _ _ _ _ _ _ _, HMV.out.outB _ _ _ _ _ _ _ _ _ _, .inl ⟨rfl, rfl⟩⟩
      · obtain ⟨hPl2, hd2⟩ := drop_nx (s := s) (P := P2) (by rw [HCc.out.2.2]; decide)
        have hr := HCc.out.1
        rw [HBl2.out] at hr
        obtain ⟨u, hu, hbu⟩ := blankR_ok hr
        have hstep : listStep f x (s.data.toList.drop P) = .ok (x.1, x.2 ++ [x2]) u := by unfold listStep; rw [hu]
        clear hr hu
        have hP3e := place_eq hP3 (show P2 + 1 ≤ s.size from hPl2) HD3.out
        have hlP : (s.data.toList.drop P).length = s.size - P := by rw [List.length_drop]; rfl
        have hlu : (blanks u).length = s.size - P2 := by rw [hbu, List.length_drop]; rfl
        have hbl3 := blanks_le u
        have hsh := HSh.out _ _ _ _ hstep
        have HN := hid (show partsF (listStep f) [93] g (x.1, x.2 ++ [x2]) (s.data.toList.drop P4) = T from by
          rw [← HPt.out, parts_more hstep (by rw [hbu]; exact HCc.out.2.2) (by decide), hbu, drop_one, HD4.out, HD3.out])
        have hn5 := HN5.out
        have hn6 := HN6.out
        go_roundg g
        case measure => omega
        case rel =>
          refine ⟨P4, 0, (x.1, x.2 ++ [x2]), hP4, fun _ => ⟨by omega, ?_, ?_, by rw [HD4.out]; exact blanks_idem _, HN.out⟩, fun h => absurd rfl h, HP11.out.put _ _ _⟩
          · have := hsh.2.1; omega
          · have := hsh.2.2; omega
      · skip
        have hr := HCd.out.1
        rw [HBl2.out] at hr
        obtain ⟨u, hu, hbu⟩ := blankR_ok hr
        have hstep : listStep f x (s.data.toList.drop P) = .ok (x.1, x.2 ++ [x2]) u := by unfold listStep; rw [hu]
        clear hr hu
        have HN := hid (show T = .err 3 (s.data.toList.drop P4) from by
          rw [← HPt.out, parts_bad hstep (by rw [hbu]; exact HCd.out.2.1) (by rw [hbu]; exact HCd.out.2.2), hbu, HD4.out, HD3.out, ← hbu, blanks_idem])
        go_roundg g
        case measure => omega
        case rel => exact ⟨P4, 3, (x.1, x.2 ++ [x2]), hP4, fun h => by omega, fun _ => HN.out, HP11.out.put _ _ _⟩
set_option maxRecDepth 20000 in
set_option maxHeartbeats 8000000 in
theorem rparts_obj {f : B → Res JV} (s : ByteArray) (p : Nat) (z : Int) (hz : z = (p : Int)) (d : Nat) (zd : Int) (hzd : zd = (d : Int)) (hp : p ≤ s.size) (hs : s.size ≤ 1048576) (hf : ShortV f) (hv : RValOk s f d) (w : World) : Calls Tryz.prog 34 #[.agg #[.string s, .int .i64 z, .int .i64 0], .int .i64 6, .int .u8 125, .int .i64 zd] w fun e w' => ToldRv s (nestR 6 (nestedS (objStep f) [125] ([], []) (s.data.toList.drop p))) w e w' := by
  subst hz hzd
  obtain ⟨T, hT⟩ : ∃ T, nestedS (objStep f) [125] ([], []) (s.data.toList.drop p) = T := ⟨_, rfl⟩
  rw [hT]
  have HT := hid hT
  have HZ := hid hp
  have HS := hid hs
  have HS4 := hid (show s.size ≤ 140737488355328 by omega)
  have HV := hid hv
  have HSh := hid (obj_short hf)
  obtain ⟨i0, hi0, hz0, hz1, hz2⟩ := info_parts infoV
  obtain ⟨j0, hj0, hy0, hy1, hy2⟩ := info_parts infoS
  obtain ⟨W0, hW0⟩ : ∃ W0, W0 = (((w.alloc (.cells #[.string s, .int .i64 (p : Int), .int .i64 0] 49 (0, 0))).alloc (.cells #[.string ⟨#[]⟩, .int .i64 0, .int .i64 0] 49 (0, 0))).alloc (.cells #[.int .i64 0, .bool false, .string ⟨#[]⟩, .int .i64 0, .bool false, .slice none 0 0, .slice none 0 0] 25 (0, 0))).alloc (.cells #[.int .i64 6, .bool false, .string ⟨#[]⟩, .int .i64 0, .bool false, .slice none 0 0, .slice none 0 0] 25 (0, 0)) := ⟨_, rfl⟩
  have HW0 := hid hW0
  have HP0 := hid (PA.start (kd := 6) hW0)
  clear hT hW0 hv hf
  go_enter Tryz.func34, Tryz.ntmps34
  go_wp2_with (first
    | (rw [← HW0.out]; go_at_call 32; have hcall := rblanks_any s p 0 HZ.out HS4.out W0; (with_reducible refine hcall.mono ?_); clear hcall; rintro e w1 ⟨P1, _, hP1, hd1, rfl, hb⟩; have HD1 := hid hd1; have HP1 := hid (HP0.out.below hb); have HP2 := hid (HP1.out.put s (P1 : Int) 0); clear hb hd1; obtain ⟨a0, a1, a2, az⟩ := three HP1.out.r; have az0 := az 0; have az1 := az 1; have az2 := az 2; clear az; obtain ⟨b0, b1, b2, bz⟩ := three HP2.out.r; have bz0 := bz 0; have bz1 := bz 1; have bz2 := bz 2; clear bz; obtain ⟨X, hX2⟩ : ∃ X : Nat, (nx (s.data.toList.drop P1)).toNat = X := ⟨_, rfl⟩; have HX2 := hid hX2; rcases nx_cases _ 125 X 125 125 hX2 rfl rfl with ⟨hX, rfl⟩ | ⟨hX, hXn⟩ <;> clear hX2)
    | (go_at_call 33; have hcall := rnext_any s P1 0 hP1 (((w1.setCell ⟨w.heap.size, 0, none⟩ (.string s)).setCell ⟨w.heap.size, 1, none⟩ (.int .i64 (P1 : Int))).setCell ⟨w.heap.size, 2, none⟩ (.int .i64 0)); rw [HX2.out] at hcall; (with_reducible refine hcall.mono ?_); clear hcall; rintro e w2 ⟨rfl, hb⟩; have HP3 := hid (HP2.out.below hb); clear hb HP2; obtain ⟨c0, c1, c2, cz⟩ := three HP3.out.r; have cz0 := cz 0; have cz1 := cz 1; have cz2 := cz 2; clear cz))
  · obtain ⟨hPl, hd⟩ := drop_nx (s := s) (P := P1) (by rw [hX]; decide)
    have HN := hid (show T = .ok ([], []) (s.data.toList.drop (P1 + 1)) from by
      rw [← HT.out]
      unfold nestedS
      rw [← HD1.out, hd, hX]
      rfl)
    clear hd hX
    have HM := hid (HP3.out.move ((P1 : Int) + 1) _ rfl)
    obtain ⟨lv, nv, xs, F, hO⟩ := HM.out.obj
    obtain ⟨p5z, L5z, c5z, rfl⟩ := own_slice3 hO.list
    obtain ⟨p6z, L6z, c6z, rfl⟩ := own_slice3 hO.names
    have HOz := hid hO
    clear hO
    refine wp_region_noPanic ?_
    refine any_begin 4 (by kernel_rfl) (by kernel_rfl) ?_
    have HBD := hid (show Below (w2.setCell ⟨w.heap.size, 1, none⟩ (.int .i64 ((P1 : Int) + 1))).heap.size (w2.setCell ⟨w.heap.size, 1, none⟩ (.int .i64 ((P1 : Int) + 1))) (w2.setCell ⟨w.heap.size, 1, none⟩ (.int .i64 ((P1 : Int) + 1))).drew from below_drew (Below.refl _ _) 1)
    have HMV := hid (HM.out.below HBD.out)
    have HOV := hid (HOz.out.same HBD.out.size fun j hj _ => HBD.out.block j hj)
    clear HBD
    refine late_begin (fun U => StP w U s ((P1 : Int) + 1) 6 (.slice p5z L5z c5z) (.slice p6z L6z c6z)) (fun _ => false) ⟨HMV.out.r, HOV.out.row⟩ (fun hS => ?_)
    generalize (w2.setCell ⟨w.heap.size, 1, none⟩ (.int .i64 ((P1 : Int) + 1))).drew = V at hS HMV HOV ⊢
    obtain ⟨y0, y1, y2, yz⟩ := three HMV.out.o1; have yz0 := yz 0; have yz1 := yz 1; have yz2 := yz 2; clear yz
    obtain ⟨q0, q1, q2, q3, q4, q5, q6, qz⟩ := seven HMV.out.o2; have qz0 := qz 0; have qz1 := qz 1; have qz2 := qz 2; have qz3 := qz 3; have qz4 := qz 4; have qz5 := qz 5; have qz6 := qz 6; clear qz
    refine late_take (i := 0) (some 27) rfl rfl (by kernel_rfl) (by kernel_rfl) (by kernel_rfl) (by kernel_rfl) (by kernel_rfl) (fun _ _ _ h => h) (by rfl) (v := ?v0a) ?hy0a hS ?rest0a
    case hy0a => intro w0 hSw; obtain ⟨k0, k1, k2, _⟩ := three hSw.r; obtain ⟨m0, m1, m2, m3, m4, m5, m6, _⟩ := seven hSw.v; go_simp; try with_reducible rfl
    simp only [Act.put, List.setIfInBounds_toArray, List.set_cons_zero, List.set_cons_succ]
    refine late_take (i := 1) (some 28) rfl rfl (by kernel_rfl) (by kernel_rfl) (by kernel_rfl) (by kernel_rfl) (by kernel_rfl) (fun _ _ _ h => h) (by rfl) (v := ?v1a) ?hy1a hS ?rest1a
    case hy1a => intro w0 hSw; obtain ⟨k0, k1, k2, _⟩ := three hSw.r; obtain ⟨m0, m1, m2, m3, m4, m5, m6, _⟩ := seven hSw.v; go_simp; try with_reducible rfl
    simp only [Act.put, List.setIfInBounds_toArray, List.set_cons_zero, List.set_cons_succ]
    refine wpAnyD_one (i := 2) (by kernel_rfl) rfl (fun K hK => ?_)
    go_simp
    refine hK _ _ ⟨fun _ => ⟨(three_other (show w.heap.size ≠ w.heap.size + 1 by omega) _ _ _).trans hS.r, (three_other (show w.heap.size + 3 ≠ w.heap.size + 1 by omega) _ _ _).trans hS.v⟩, ?_⟩
    clear hK K
    refine wpAnyD_one (i := 3) (by kernel_rfl) rfl (fun K hK => ?_)
    go_simp
    refine hK _ _ ⟨fun _ => ⟨(out_keep (show w.heap.size ≠ w.heap.size + 1 by omega) (show w.heap.size ≠ w.heap.size + 2 by omega) _ _ _ _ _ _ _ _ _ _).trans hS.r, (out_keep (show w.heap.size + 3 ≠ w.heap.size + 1 by omega) (show w.heap.size + 3 ≠ w.heap.size + 2 by omega) _ _ _ _ _ _ _ _ _ _).trans hS.v⟩, ?_⟩
    clear hK K
    refine late_done (by kernel_rfl) ?_ _
    refine NoPanic.normal ?_
    clear hS
    go_wp2
    (try simp only [Exit.inBlock, Exit.then])
    refine bodyPost_ret (results_rdval rfl _ _ _ _ 49 25 _ _ (0, 0) (0, 0) rfl rfl (out_rv (has_three HMV.out.o1) (has_seven HMV.out.o2) (Nat.ne_of_lt (Nat.lt_succ_self _)) _ _ _ _ _ _ _ _ _ _).1 (out_rv (has_three HMV.out.o1) (has_seven HMV.out.o2) (Nat.ne_of_lt (Nat.lt_succ_self _)) _ _ _ _ _ _ _ _ _ _).2 rfl rfl) rfl ?_
    rw [HN.out]
    exact ⟨P1 + 1, 0, _, _, by omega, by push_cast; rfl, PA.final (x := ([], [])) HOV.out _ _ _ _ _ _ _ _ _ _, HMV.out.outB _ _ _ _ _ _ _ _ _ _, .inl ⟨rfl, rfl⟩⟩
  · have HTp := hid (show partsF (objStep f) [125] (s.size - P1 + 1) ([], []) (s.data.toList.drop P1) = T from by
      rw [← HT.out]
      unfold nestedS
      rw [← HD1.out]
      have hsk : skip [125] (s.data.toList.drop P1) = none := by
        cases hd : s.data.toList.drop P1 with
        | nil => rfl
        | cons c t =>
          rw [hd] at hX
          have : ¬ c = 125 := hX
          simp [skip, this]
      rw [hsk]
      simp only
      congr 1
      rw [List.length_drop]
      have : s.data.toList.length = s.size := rfl
      omega)
    have HBl := hid (show blanks (s.data.toList.drop P1) = s.data.toList.drop P1 from by rw [HD1.out]; exact blanks_idem _)
    clear hX hXn
    go_loopg [] (s.size - P1 + 1) (fun gk wr => ∃ (P k : Nat) (x : St), P ≤ s.size ∧ (k = 0 → s.size - P < gk ∧ x.1.length + (s.size - P) ≤ s.size + 1 ∧ x.2.length + (s.size - P) ≤ s.size + 1 ∧ blanks (s.data.toList.drop P) = s.data.toList.drop P ∧ partsF (objStep f) [125] gk x (s.data.toList.drop P) = T) ∧ (k ≠ 0 → T = .err k (s.data.toList.drop P)) ∧ PA w wr s (P : Int) (k : Int) 6 x)
    case atStart => exact ⟨P1, 0, ([], []), hP1, fun _ => ⟨by omega, by simp; omega, by simp; omega, HBl.out, HTp.out⟩, fun h => absurd rfl h, HP3.out⟩
    case round =>
      obtain ⟨P, k, x, h2, hT0, hT1, hPA⟩ := hrel
      have HPA := hid hPA
      have HZ2 := hid h2
      clear hPA
      obtain ⟨r0, r1, r2, rz⟩ := three HPA.out.r
      have rz0 := rz 0; have rz1 := rz 1; have rz2 := rz 2
      clear rz
      by_cases hk : k = 0
      case neg =>
        have HN := hid (hT1 hk)
        have q1 : ((k : Int) == 0) = false := by simp only [beq_eq_false_iff_ne, ne_eq]; omega
        clear hT0 hT1
        obtain ⟨y0, y1, y2, yz⟩ := three HPA.out.o1; have yz0 := yz 0; have yz1 := yz 1; have yz2 := yz 2; clear yz
        obtain ⟨q0, q1, q2, q3, q4, q5, q6, qz⟩ := seven HPA.out.o2; have qz0 := qz 0; have qz1 := qz 1; have qz2 := qz 2; have qz3 := qz 3; have qz4 := qz 4; have qz5 := qz 5; have qz6 := qz 6; clear qz
        go_wp2
        (try simp only [Exit.inBlock, Exit.then])
        refine bodyPost_ret (results_rdval rfl _ _ _ _ 49 25 _ _ (0, 0) (0, 0) rfl rfl (out_rv (has_three HPA.out.o1) (has_seven HPA.out.o2) (Nat.ne_of_lt (Nat.lt_succ_self _)) _ _ _ _ _ _ _ _ _ _).1 (out_rv (has_three HPA.out.o1) (has_seven HPA.out.o2) (Nat.ne_of_lt (Nat.lt_succ_self _)) _ _ _ _ _ _ _ _ _ _).2 rfl rfl) rfl ?_
        rw [HN.out]
        exact ⟨P, k, .zero, _, HZ2.out, rfl, zero_val _ _, HPA.out.outB _ _ _ _ _ _ _ _ _ _, .inr ⟨hk, rfl, rfl⟩⟩
      subst hk
      obtain ⟨hgk, hl1, hl2, hbl, hpt⟩ := hT0 rfl
      have HPt := hid hpt
      have HBl2 := hid hbl
      clear hT0 hT1 hpt hbl
      cases gk with
      | zero => omega
      | succ g =>
      obtain ⟨lv, nv, xs, F, hO⟩ := HPA.out.obj
      obtain ⟨p5, c5, rfl⟩ := own_slice hO.list
      obtain ⟨p6, c6, rfl⟩ := own_slice hO.names
      have HO := hid hO
      obtain ⟨n5, hn5⟩ : ∃ n5, x.2.length = n5 := ⟨_, rfl⟩
      obtain ⟨n6, hn6⟩ : ∃ n6, x.1.length = n6 := ⟨_, rfl⟩
      have HN5 := hid hn5
      have HN6 := hid hn6
      rw [hn5, hn6] at HO
      rw [hn6] at hl1
      rw [hn5] at hl2
      clear hO hn5 hn6
      obtain ⟨m0, m1, m2, m3, m4, m5, m6, _⟩ := seven HO.out.row
      go_wp2_with (first
        | (go_at_call 56; have hcall := rmember_any (cn := c6) s P HZ2.out HS.out wr (names_on HO.out.names) (by have := HN6.out; omega); rw [HN6.out] at hcall; (with_reducible refine hcall.mono ?_); clear hcall; rintro e wm ⟨Pm, km, nm, hPm, rfl, hb, hcase⟩; obtain ⟨KM, hKM⟩ : ∃ KM : Int, (km : Int) = KM := ⟨_, rfl⟩; rw [hKM]; have HKM := hid hKM; have HPm3 := hid (HPA.out.below hb); obtain ⟨Wm6, hWm6⟩ : ∃ Wm6, Wm6 = ((((wm.alloc (.cells #[.string s, .int .i64 (Pm : Int), .int .i64 KM] 49 (0, 0))).setCell ⟨w.heap.size, 0, none⟩ (.string s)).setCell ⟨w.heap.size, 1, none⟩ (.int .i64 (Pm : Int))).setCell ⟨w.heap.size, 2, none⟩ (.int .i64 KM)).alloc (.cells #[.string (str nm)] 9 (0, 0)) := ⟨_, rfl⟩; have HWm6 := hid hWm6; have HLm6 := hid (laid6n HPm3.out HO.out hb hWm6); clear hWm6; have HRm4 := hid (HPm3.out.below (below_new wm (.cells #[.string s, .int .i64 (Pm : Int), .int .i64 KM] 49 (0, 0)))); have HPm5 := hid (HRm4.out.put s (Pm : Int) KM); have HOm5 := hid (((HO.out.same hb.size fun j hj _ => hb.block j hj).same (below_new wm (.cells #[.string s, .int .i64 (Pm : Int), .int .i64 KM] 49 (0, 0))).size fun j hj _ => (below_new wm (.cells #[.string s, .int .i64 (Pm : Int), .int .i64 KM] 49 (0, 0))).block j hj).turn ((((Turn.refl w.heap.size _).setCell 0 (.string s)).setCell 1 (.int .i64 (Pm : Int))).setCell 2 (.int .i64 KM)) (by omega) (by omega)); obtain ⟨ma0, ma1, ma2, maz⟩ := three HRm4.out.r; have maz0 := maz 0; have maz1 := maz 1; have maz2 := maz 2; clear maz; obtain ⟨mb0, mb1, mb2, mbz⟩ := three HPm5.out.r; have mbz0 := mbz 0; have mbz1 := mbz 1; have mbz2 := mbz 2; clear mbz; obtain ⟨mh0, mh1, mh2, mh3, mh4, mh5, mh6, _⟩ := seven HOm5.out.row; clear hb; rcases two_ways hKM hcase with ⟨hkm, HMa⟩ | ⟨rfl, HMb⟩ <;> clear hcase hKM)
        | (at_builtin; rw [← HWm6.out]; refine wpList_append_own_at _ rfl (.tmp 43) (.tmp 45) 23 rfl (w.heap.size + 4) 9 j0 _ 1 16 Tryz.underlying23 hj0 hy0 hy1 hy2 rfl (by decide) (.slice p6 n6 c6) n6 (x.1.map fun t => Value.string (str t)) (by go_simp) (by have h8 := HLm6.out.2.names; rw [HN6.out] at h8; exact h8) ⟨((((wm.alloc (.cells #[.string s, .int .i64 (Pm : Int), .int .i64 KM] 49 (0, 0))).setCell ⟨w.heap.size, 0, none⟩ (.string s)).setCell ⟨w.heap.size, 1, none⟩ (.int .i64 (Pm : Int))).setCell ⟨w.heap.size, 2, none⟩ (.int .i64 KM)).heap.size, 0, none⟩ 1 1 [.string (str nm)] (by go_simp) rfl (by rw [HWm6.out]; exact cells_new _ [.string (str nm)] _) (by simp [Value.oneCell']) (by unfold maxLen; omega) (by omega) HLm6.out.2.le ?_; intro v' w7m hown hgr _ hloc; obtain ⟨p7m, c7m, rfl⟩ := own_slice hown; have HP8m := hid (PA.named (x := x) HLm6.out.1 HLm6.out.2 (by rw [HN6.out]; exact hown) hgr hloc); clear hown hgr hloc; have fm8 := HP8m.out.1.1; have km8 := HP8m.out.1.2; have HPm8 := hid HP8m.out.2.1; have HOm8 := hid HP8m.out.2.2; obtain ⟨md0, md1, md2, mdz⟩ := three HPm8.out.r; have mdz0 := mdz 0; have mdz1 := mdz 1; have mdz2 := mdz 2; clear mdz; obtain ⟨my0, my1, my2, myz⟩ := three HPm8.out.o1; have myz0 := myz 0; have myz1 := myz 1; have myz2 := myz 2; clear myz; obtain ⟨mq0, mq1, mq2, mq3, mq4, mq5, mq6, mqz⟩ := seven HPm8.out.o2; have mqz0 := mqz 0; have mqz1 := mqz 1; have mqz2 := mqz 2; have mqz3 := mqz 3; have mqz4 := mqz 4; have mqz5 := mqz 5; have mqz6 := mqz 6; clear mqz; obtain ⟨mi0, mi1, mi2, mi3, mi4, mi5, mi6, _⟩ := seven HOm8.out.row)
        | (at_builtin; rw [← HWm6.out]; refine wpList_append_own_at _ rfl (.tmp 43) (.tmp 45) 23 rfl (w.heap.size + 4) 9 j0 _ 1 16 Tryz.underlying23 hj0 hy0 hy1 hy2 rfl (by decide) (.slice p6 n6 c6) n6 (x.1.map fun t => Value.string (str t)) (by go_simp) (by have h8 := HLm6.out.2.names; rw [HN6.out] at h8; exact h8) ⟨((((wm.alloc (.cells #[.string s, .int .i64 (Pm : Int), .int .i64 0] 49 (0, 0))).setCell ⟨w.heap.size, 0, none⟩ (.string s)).setCell ⟨w.heap.size, 1, none⟩ (.int .i64 (Pm : Int))).setCell ⟨w.heap.size, 2, none⟩ (.int .i64 0)).heap.size, 0, none⟩ 1 1 [.string (str nm)] (by go_simp) rfl (by rw [HWm6.out]; exact cells_new _ [.string (str nm)] _) (by simp [Value.oneCell']) (by unfold maxLen; omega) (by omega) HLm6.out.2.le ?_; intro v' w7m hown hgr _ hloc; obtain ⟨p7m, c7m, rfl⟩ := own_slice hown; have HP8m := hid (PA.named (x := x) HLm6.out.1 HLm6.out.2 (by rw [HN6.out]; exact hown) hgr hloc); clear hown hgr hloc; have fm8 := HP8m.out.1.1; have km8 := HP8m.out.1.2; have HPm8 := hid HP8m.out.2.1; have HOm8 := hid HP8m.out.2.2; obtain ⟨md0, md1, md2, mdz⟩ := three HPm8.out.r; have mdz0 := mdz 0; have mdz1 := mdz 1; have mdz2 := mdz 2; clear mdz; obtain ⟨my0, my1, my2, myz⟩ := three HPm8.out.o1; have myz0 := myz 0; have myz1 := myz 1; have myz2 := myz 2; clear myz; obtain ⟨mq0, mq1, mq2, mq3, mq4, mq5, mq6, mqz⟩ := seven HPm8.out.o2; have mqz0 := mqz 0; have mqz1 := mqz 1; have mqz2 := mqz 2; have mqz3 := mqz 3; have mqz4 := mqz 4; have mqz5 := mqz 5; have mqz6 := mqz 6; clear mqz; obtain ⟨mi0, mi1, mi2, mi3, mi4, mi5, mi6, _⟩ := seven HOm8.out.row)
        | (go_at_call 19; have hcall := HV.out (w7m.setCell ⟨w.heap.size + 3, 6, none⟩ (.slice p7m (n6 + 1) c7m)) Pm hPm; (with_reducible refine hcall.mono ?_); clear hcall; rintro e w3 ⟨P2, k2, x2, cs, hP2, rfl, hv2, hb, hcase⟩; obtain ⟨e1, e2, e3, e4, e5, e6, e7, e8, e9, e10, e11, rfl⟩ := hv2.form; obtain ⟨K, hK⟩ : ∃ K : Int, (k2 : Int) = K := ⟨_, rfl⟩; rw [hK]; have HK := hid hK; have HPa3 := hid (HPm8.out.below hb); have HOb3 := hid (HOm8.out.same hb.size fun j hj _ => hb.block j hj); have HPa5 := hid ((HPa3.out.below (two_box w3 (.cells #[.string s, .int .i64 (P2 : Int), .int .i64 K] 49 (0, 0)) (.cells #[.int .i64 e1, .bool e2, .string (str e3), .int .i64 e4, .bool e5, .slice e6 e7 e8, .slice e9 e10 e11] 25 (0, 0)))).put s (P2 : Int) K); have HOb5 := hid ((HOb3.out.same (two_box w3 (.cells #[.string s, .int .i64 (P2 : Int), .int .i64 K] 49 (0, 0)) (.cells #[.int .i64 e1, .bool e2, .string (str e3), .int .i64 e4, .bool e5, .slice e6 e7 e8, .slice e9 e10 e11] 25 (0, 0))).size fun j hj _ => (two_box w3 (.cells #[.string s, .int .i64 (P2 : Int), .int .i64 K] 49 (0, 0)) (.cells #[.int .i64 e1, .bool e2, .string (str e3), .int .i64 e4, .bool e5, .slice e6 e7 e8, .slice e9 e10 e11] 25 (0, 0))).block j hj).turn ((((Turn.refl w.heap.size _).setCell 0 (.string s)).setCell 1 (.int .i64 (P2 : Int))).setCell 2 (.int .i64 K)) (by omega) (by omega)); have HC5 := hid (two_laid (w3 := w3) (o1 := (.cells #[.string s, .int .i64 (P2 : Int), .int .i64 K] 49 (0, 0))) (c0 := .int .i64 e1) (c1 := .bool e2) (c2 := .string (str e3)) (c3 := .int .i64 e4) (c4 := .bool e5) (c5 := .slice e6 e7 e8) (c6 := .slice e9 e10 e11) (lt_of_heap HPa3.out.r) (.string s) (.int .i64 (P2 : Int)) (.int .i64 K)); obtain ⟨W6, hW6⟩ : ∃ W6, W6 = (((((w3.alloc (.cells #[.string s, .int .i64 (P2 : Int), .int .i64 K] 49 (0, 0))).alloc (.cells #[.int .i64 e1, .bool e2, .string (str e3), .int .i64 e4, .bool e5, .slice e6 e7 e8, .slice e9 e10 e11] 25 (0, 0))).setCell ⟨w.heap.size, 0, none⟩ (.string s)).setCell ⟨w.heap.size, 1, none⟩ (.int .i64 (P2 : Int))).setCell ⟨w.heap.size, 2, none⟩ (.int .i64 K)).alloc (.cells #[.int .i64 e1, .bool e2, .string (str e3), .int .i64 e4, .bool e5, .slice e6 e7 e8, .slice e9 e10 e11] 25 (0, 0)) := ⟨_, rfl⟩; have HW6 := hid hW6; have HL6 := hid (laid6 HPa3.out HOm8.out hb hv2 hW6); clear hW6; have HR4 := hid (HPa3.out.below (two_box w3 (.cells #[.string s, .int .i64 (P2 : Int), .int .i64 K] 49 (0, 0)) (.cells #[.int .i64 e1, .bool e2, .string (str e3), .int .i64 e4, .bool e5, .slice e6 e7 e8, .slice e9 e10 e11] 25 (0, 0)))); obtain ⟨a0, a1, a2, az⟩ := three HR4.out.r; have az0 := az 0; have az1 := az 1; have az2 := az 2; clear az; obtain ⟨b0, b1, b2, bz⟩ := three HPa5.out.r; have bz0 := bz 0; have bz1 := bz 1; have bz2 := bz 2; clear bz; obtain ⟨h0, h1, h2, h3, h4, h5, h6, _⟩ := seven HOb5.out.row; obtain ⟨g0, g1, g2, g3, g4, g5, g6, _⟩ := seven HC5.out; clear hb hv2; rcases four_ways 125 125 125 rfl rfl hK hcase with ⟨hkn, HCa⟩ | ⟨rfl, HCb, HX2⟩ | ⟨X, rfl, hXn, HX2, HCc⟩ | ⟨X, rfl, hXn, HX2, HCd⟩ <;> clear hcase hK)
        | (at_builtin; rw [← HW6.out]; refine wpList_append_own_at _ rfl (.tmp 59) (.tmp 61) 22 rfl (w.heap.size + 4) 25 i0 _ 7 96 Tryz.underlying22 hi0 hz0 hz1 hz2 rfl (by decide) (.slice p5 n5 c5) n5 xs (by go_simp) (by have h8 := HL6.out.obj.list; rw [HN5.out] at h8; exact h8) ⟨(((((w3.alloc (.cells #[.string s, .int .i64 (P2 : Int), .int .i64 K] 49 (0, 0))).alloc (.cells #[.int .i64 e1, .bool e2, .string (str e3), .int .i64 e4, .bool e5, .slice e6 e7 e8, .slice e9 e10 e11] 25 (0, 0))).setCell ⟨w.heap.size, 0, none⟩ (.string s)).setCell ⟨w.heap.size, 1, none⟩ (.int .i64 (P2 : Int))).setCell ⟨w.heap.size, 2, none⟩ (.int .i64 K)).heap.size, 0, none⟩ 1 1 [.int .i64 e1, .bool e2, .string (str e3), .int .i64 e4, .bool e5, .slice e6 e7 e8, .slice e9 e10 e11] (by go_simp) rfl (by rw [HW6.out]; exact cells_new _ [.int .i64 e1, .bool e2, .string (str e3), .int .i64 e4, .bool e5, .slice e6 e7 e8, .slice e9 e10 e11] _) (by simp [Value.oneCell']) (by unfold maxLen; omega) (by omega) HL6.out.obj.le ?_; intro v' w7 hown hgr _ hloc; obtain ⟨p7, c7, rfl⟩ := own_slice hown; have HP8 := hid (PA.push (x := (x.1 ++ [nm], x.2)) HL6.out.pa HL6.out.obj (by rw [HN5.out]; exact hown) hgr hloc rfl HL6.out.val HL6.out.foot); clear hown hgr hloc; have f8 := HP8.out.1.1; have k8 := HP8.out.1.2; obtain ⟨d0, d1, d2, dz⟩ := three HP8.out.2.r; have dz0 := dz 0; have dz1 := dz 1; have dz2 := dz 2; clear dz; obtain ⟨y0, y1, y2, yz⟩ := three HP8.out.2.o1; have yz0 := yz 0; have yz1 := yz 1; have yz2 := yz 2; clear yz; obtain ⟨q0, q1, q2, q3, q4, q5, q6, qz⟩ := seven HP8.out.2.o2; have qz0 := qz 0; have qz1 := qz 1; have qz2 := qz 2; have qz3 := qz 3; have qz4 := qz 4; have qz5 := qz 5; have qz6 := qz 6; clear qz)
        | (at_builtin; rw [← HW6.out]; refine wpList_append_own_at _ rfl (.tmp 59) (.tmp 61) 22 rfl (w.heap.size + 4) 25 i0 _ 7 96 Tryz.underlying22 hi0 hz0 hz1 hz2 rfl (by decide) (.slice p5 n5 c5) n5 xs (by go_simp) (by have h8 := HL6.out.obj.list; rw [HN5.out] at h8; exact h8) ⟨(((((w3.alloc (.cells #[.string s, .int .i64 (P2 : Int), .int .i64 0] 49 (0, 0))).alloc (.cells #[.int .i64 e1, .bool e2, .string (str e3), .int .i64 e4, .bool e5, .slice e6 e7 e8, .slice e9 e10 e11] 25 (0, 0))).setCell ⟨w.heap.size, 0, none⟩ (.string s)).setCell ⟨w.heap.size, 1, none⟩ (.int .i64 (P2 : Int))).setCell ⟨w.heap.size, 2, none⟩ (.int .i64 0)).heap.size, 0, none⟩ 1 1 [.int .i64 e1, .bool e2, .string (str e3), .int .i64 e4, .bool e5, .slice e6 e7 e8, .slice e9 e10 e11] (by go_simp) rfl (by rw [HW6.out]; exact cells_new _ [.int .i64 e1, .bool e2, .string (str e3), .int .i64 e4, .bool e5, .slice e6 e7 e8, .slice e9 e10 e11] _) (by simp [Value.oneCell']) (by unfold maxLen; omega) (by omega) HL6.out.obj.le ?_; intro v' w7 hown hgr _ hloc; obtain ⟨p7, c7, rfl⟩ := own_slice hown; have HP8 := hid (PA.push (x := (x.1 ++ [nm], x.2)) HL6.out.pa HL6.out.obj (by rw [HN5.out]; exact hown) hgr hloc rfl HL6.out.val HL6.out.foot); clear hown hgr hloc; have f8 := HP8.out.1.1; have k8 := HP8.out.1.2; obtain ⟨d0, d1, d2, dz⟩ := three HP8.out.2.r; have dz0 := dz 0; have dz1 := dz 1; have dz2 := dz 2; clear dz; obtain ⟨y0, y1, y2, yz⟩ := three HP8.out.2.o1; have yz0 := yz 0; have yz1 := yz 1; have yz2 := yz 2; clear yz; obtain ⟨q0, q1, q2, q3, q4, q5, q6, qz⟩ := seven HP8.out.2.o2; have qz0 := qz 0; have qz1 := qz 1; have qz2 := qz 2; have qz3 := qz 3; have qz4 := qz 4; have qz5 := qz 5; have qz6 := qz 6; clear qz)
        | (go_at_call 33; have hcall := rnext_any s P2 0 hP2 (w7.setCell ⟨w.heap.size + 3, 5, none⟩ (.slice p7 (n5 + 1) c7)); rw [HX2.out] at hcall; (with_reducible refine hcall.mono ?_); clear hcall; rintro e w9 ⟨rfl, hb⟩; have HP9 := hid (HP8.out.2.below hb); clear hb; obtain ⟨f0, f1, f2, fz⟩ := three HP9.out.r; have fz0 := fz 0; have fz1 := fz 1; have fz2 := fz 2; clear fz)
        | (go_at_call 36; have hcall : Calls Tryz.prog 36 #[.agg #[.string s, .int .i64 (P2 : Int), .int .i64 0], .string ⟨#[44]⟩] w9 _ := rword_any s P2 [44] hP2 HS4.out (by decide) (by decide) _; (first | (rw [show word [44] (s.data.toList.drop P2) = .ok () (s.data.toList.drop (P2 + 1)) from (word44 HCc.out.2.2)] at hcall) | (rw [word_stop HCd.out.2.2] at hcall)); (with_reducible refine hcall.mono ?_); clear hcall; rintro e w10 ⟨P3, hP3, hd3, rfl, hb⟩; have HD3 := hid hd3; have HP10 := hid (HP9.out.below hb); clear hb hd3; obtain ⟨j0, j1, j2, jz⟩ := three HP10.out.r; have jz0 := jz 0; have jz1 := jz 1; have jz2 := jz 2; clear jz)
        | (go_at_call 32; have hcall := rblanks_any s P3 0 hP3 HS4.out w10; (with_reducible refine hcall.mono ?_); clear hcall; rintro e w11 ⟨P4, hle4, hP4, hd4, rfl, hb⟩; have HD4 := hid hd4; have HP11 := hid (HP10.out.below hb); clear hb hd4; obtain ⟨l0, l1, l2, lz⟩ := three HP11.out.r; have lz0 := lz 0; have lz1 := lz 1; have lz2 := lz 2; clear lz)
        | (go_at_call 32; have hcall := rblanks_any s P3 3 hP3 HS4.out w10; (with_reducible refine hcall.mono ?_); clear hcall; rintro e w11 ⟨P4, hle4, hP4, hd4, rfl, hb⟩; have HD4 := hid hd4; have HP11 := hid (HP10.out.below hb); clear hb hd4; obtain ⟨l0, l1, l2, lz⟩ := three HP11.out.r; have lz0 := lz 0; have lz1 := lz 1; have lz2 := lz 2; clear lz))
      · (try simp only [Exit.inBlock, Exit.then])
        refine bodyPost_ret (results_rdval rfl _ _ _ _ 49 25 _ _ (0, 0) (0, 0) rfl rfl (out_rv (has_three HPm8.out.o1) (has_seven HPm8.out.o2) (Nat.ne_of_lt (Nat.lt_succ_self _)) _ _ _ _ _ _ _ _ _ _).1 (out_rv (has_three HPm8.out.o1) (has_seven HPm8.out.o2) (Nat.ne_of_lt (Nat.lt_succ_self _)) _ _ _ _ _ _ _ _ _ _).2 rfl rfl) rfl ?_
        have HN := hid (show T = .err km (s.data.toList.drop Pm) from by
          rw [← HPt.out]
          exact parts_step (by unfold objStep; rw [name_mem, HMa.out.2]))
        rw [HN.out]
        exact ⟨Pm, km, .zero, _, hPm, by rw [HKM.out], zero_val _ _, HPm8.out.outB _ _ _ _ _ _ _ _ _ _, .inr ⟨HMa.out.1, rfl, rfl⟩⟩
      · (try simp only [Exit.inBlock, Exit.then])
        refine bodyPost_ret (results_rdval rfl _ _ _ _ 49 25 _ _ (0, 0) (0, 0) rfl rfl (out_rv (has_three HP8.out.2.o1) (has_seven HP8.out.2.o2) (Nat.ne_of_lt (Nat.lt_succ_self _)) _ _ _ _ _ _ _ _ _ _).1 (out_rv (has_three HP8.out.2.o1) (has_seven HP8.out.2.o2) (Nat.ne_of_lt (Nat.lt_succ_self _)) _ _ _ _ _ _ _ _ _ _).2 rfl rfl) rfl ?_
        have HN := hid (show T = .err k2 (s.data.toList.drop P2) from by
          rw [← HPt.out]
          exact parts_step (by unfold objStep; rw [name_mem, HMb.out]; simp only; rw [blankR_err HCa.out.2]))
        rw [HN.out]
        exact ⟨P2, k2, .zero, _, hP2, by rw [HK.out], zero_val _ _, HP8.out.2.outB _ _ _ _ _ _ _ _ _ _, .inr ⟨HCa.out.1, rfl, rfl⟩⟩
      · obtain ⟨hPl2, hd2⟩ := drop_nx (s := s) (P := P2) (by rw [HCb.out.2]; decide)
        have hr := HCb.out.1
        obtain ⟨u, hu, hbu⟩ := blankR_ok hr
        have hstep : objStep f x (s.data.toList.drop P) = .ok (x.1 ++ [nm], x.2 ++ [x2]) u := by unfold objStep; rw [name_mem, HMb.out]; simp only; rw [hu]
        clear hr hu
        have HN := hid (show T = .ok (x.1 ++ [nm], x.2 ++ [x2]) (s.data.toList.drop (P2 + 1)) from by
          rw [← HPt.out, parts_done hstep (by rw [hbu]; exact HCb.out.2) (by decide), hbu, drop_one])
        clear hstep hbu hd2
        have HM := hid (HP9.out.move ((P2 : Int) + 1) _ rfl)
        obtain ⟨lv, nv, xs, F, hO⟩ := HM.out.obj
        obtain ⟨p5z, L5z, c5z, rfl⟩ := own_slice3 hO.list
        obtain ⟨p6z, L6z, c6z, rfl⟩ := own_slice3 hO.names
        have HOz := hid hO
        clear hO
        refine wp_region_noPanic ?_
        refine any_begin 4 (by kernel_rfl) (by kernel_rfl) ?_
        have HBD := hid (show Below (w9.setCell ⟨w.heap.size, 1, none⟩ (.int .i64 ((P2 : Int) + 1))).heap.size (w9.setCell ⟨w.heap.size, 1, none⟩ (.int .i64 ((P2 : Int) + 1))) (w9.setCell ⟨w.heap.size, 1, none⟩ (.int .i64 ((P2 : Int) + 1))).drew from below_drew (Below.refl _ _) 1)
        have HMV := hid (HM.out.below HBD.out)
        have HOV := hid (HOz.out.same HBD.out.size fun j hj _ => HBD.out.block j hj)
        clear HBD
        refine late_begin (fun U => StP w U s ((P2 : Int) + 1) 6 (.slice p5z L5z c5z) (.slice p6z L6z c6z)) (fun _ => false) ⟨HMV.out.r, HOV.out.row⟩ (fun hS => ?_)
        generalize (w9.setCell ⟨w.heap.size, 1, none⟩ (.int .i64 ((P2 : Int) + 1))).drew = V at hS HMV HOV ⊢
        obtain ⟨y0, y1, y2, yz⟩ := three HMV.out.o1; have yz0 := yz 0; have yz1 := yz 1; have yz2 := yz 2; clear yz
        obtain ⟨q0, q1, q2, q3, q4, q5, q6, qz⟩ := seven HMV.out.o2; have qz0 := qz 0; have qz1 := qz 1; have qz2 := qz 2; have qz3 := qz 3; have qz4 := qz 4; have qz5 := qz 5; have qz6 := qz 6; clear qz
        refine late_take (i := 0) (some 75) rfl rfl (by kernel_rfl) (by kernel_rfl) (by kernel_rfl) (by kernel_rfl) (by kernel_rfl) (fun _ _ _ h => h) (by rfl) (v := ?v0b) ?hy0b hS ?rest0b
        case hy0b => intro w0 hSw; obtain ⟨k0, k1, k2, _⟩ := three hSw.r; obtain ⟨m0, m1, m2, m3, m4, m5, m6, _⟩ := seven hSw.v; go_simp; try with_reducible rfl
        simp only [Act.put, List.setIfInBounds_toArray, List.set_cons_zero, List.set_cons_succ]
        refine late_take (i := 1) (some 76) rfl rfl (by kernel_rfl) (by kernel_rfl) (by kernel_rfl) (by kernel_rfl) (by kernel_rfl) (fun _ _ _ h => h) (by rfl) (v := ?v1b) ?hy1b hS ?rest1b
        case hy1b => intro w0 hSw; obtain ⟨k0, k1, k2, _⟩ := three hSw.r; obtain ⟨m0, m1, m2, m3, m4, m5, m6, _⟩ := seven hSw.v; go_simp; try with_reducible rfl
        simp only [Act.put, List.setIfInBounds_toArray, List.set_cons_zero, List.set_cons_succ]
        refine wpAnyD_one (i := 2) (by kernel_rfl) rfl (fun K hK => ?_)
        go_simp
        refine hK _ _ ⟨fun _ => ⟨(three_other (show w.heap.size ≠ w.heap.size + 1 by omega) _ _ _).trans hS.r, (three_other (show w.heap.size + 3 ≠ w.heap.size + 1 by omega) _ _ _).trans hS.v⟩, ?_⟩
        clear hK K
        refine wpAnyD_one (i := 3) (by kernel_rfl) rfl (fun K hK => ?_)
        go_simp
        refine hK _ _ ⟨fun _ => ⟨(out_keep (show w.heap.size ≠ w.heap.size + 1 by omega) (show w.heap.size ≠ w.heap.size + 2 by omega) _ _ _ _ _ _ _ _ _ _).trans hS.r, (out_keep (show w.heap.size + 3 ≠ w.heap.size + 1 by omega) (show w.heap.size + 3 ≠ w.heap.size + 2 by omega) _ _ _ _ _ _ _ _ _ _).trans hS.v⟩, ?_⟩
        clear hK K
        refine late_done (by kernel_rfl) ?_ _
        refine NoPanic.normal ?_
        clear hS
        go_wp2
        (try simp only [Exit.inBlock, Exit.then])
        refine bodyPost_ret (results_rdval rfl _ _ _ _ 49 25 _ _ (0, 0) (0, 0) rfl rfl (out_rv (has_three HMV.out.o1) (has_seven HMV.out.o2) (Nat.ne_of_lt (Nat.lt_succ_self _)) _ _ _ _ _ _ _ _ _ _).1 (out_rv (has_three HMV.out.o1) (has_seven HMV.out.o2) (Nat.ne_of_lt (Nat.lt_succ_self _)) _ _ _ _ _ _ _ _ _ _).2 rfl rfl) rfl ?_
        rw [HN.out]
        exact ⟨P2 + 1, 0, _, _, by omega, by push_cast; rfl, PA.final (x := (x.1 ++ [nm], x.2 ++ [x2])) HOV.out _ _ _ _ _ _ _ _ _ _, HMV.out.outB _ _ _ _ _ _ _ _ _ _, .inl ⟨rfl, rfl⟩⟩
      · obtain ⟨hPl2, hd2⟩ := drop_nx (s := s) (P := P2) (by rw [HCc.out.2.2]; decide)
        have hr := HCc.out.1
        obtain ⟨u, hu, hbu⟩ := blankR_ok hr
        have hstep : objStep f x (s.data.toList.drop P) = .ok (x.1 ++ [nm], x.2 ++ [x2]) u := by unfold objStep; rw [name_mem, HMb.out]; simp only; rw [hu]
        clear hr hu
        have hP3e := place_eq hP3 (show P2 + 1 ≤ s.size from hPl2) HD3.out
        have hlP : (s.data.toList.drop P).length = s.size - P := by rw [List.length_drop]; rfl
        have hlu : (blanks u).length = s.size - P2 := by rw [hbu, List.length_drop]; rfl
        have hbl3 := blanks_le u
        have hsh := HSh.out _ _ _ _ hstep
        have HN := hid (show partsF (objStep f) [125] g (x.1 ++ [nm], x.2 ++ [x2]) (s.data.toList.drop P4) = T from by
          rw [← HPt.out, parts_more hstep (by rw [hbu]; exact HCc.out.2.2) (by decide), hbu, drop_one, HD4.out, HD3.out])
        have hn5 := HN5.out
        have hn6 := HN6.out
        go_roundg g
        case measure => omega
        case rel =>
          refine ⟨P4, 0, (x.1 ++ [nm], x.2 ++ [x2]), hP4, fun _ => ⟨by omega, ?_, ?_, by rw [HD4.out]; exact blanks_idem _, HN.out⟩, fun h => absurd rfl h, HP11.out.put _ _ _⟩
          · have := hsh.2.1; omega
          · have := hsh.2.2; omega
      · skip
        have hr := HCd.out.1
        obtain ⟨u, hu, hbu⟩ := blankR_ok hr
        have hstep : objStep f x (s.data.toList.drop P) = .ok (x.1 ++ [nm], x.2 ++ [x2]) u := by unfold objStep; rw [name_mem, HMb.out]; simp only; rw [hu]
        clear hr hu
        have HN := hid (show T = .err 3 (s.data.toList.drop P4) from by
          rw [← HPt.out, parts_bad hstep (by rw [hbu]; exact HCd.out.2.1) (by rw [hbu]; exact HCd.out.2.2), hbu, HD4.out, HD3.out, ← hbu, blanks_idem])
        go_roundg g
        case measure => omega
        case rel => exact ⟨P4, 3, (x.1 ++ [nm], x.2 ++ [x2]), hP4, fun h => by omega, fun _ => HN.out, HP11.out.put _ _ _⟩
end Go.Proofs.YtkoeihliaandeaaGreatDoor
