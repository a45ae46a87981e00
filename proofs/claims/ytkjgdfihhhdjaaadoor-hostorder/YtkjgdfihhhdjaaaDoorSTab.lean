/- A table of patterns in memory: a map by keys, the shapes in their order, the patterns. -/
import Derived.Test.YtkjgdfihhhdjaaaDoorSPBeat
import Derived.DeepKeys4
namespace Go.Proofs.YtkjgdfihhhdjaaaDoor
open Go.RowKit Go.Maps

def keyL (a b : B) : Lit := .string (keyBytes [.string a, .string b])
theorem laidT : laidOutB Tryd.prog = true := by kernel_rfl
theorem lawK : Keyed Tryd.prog 75 := Keyed.of_law (deep_law_laid laidT (m := 2) (by omega) (of_decide_eq_true (by kernel_rfl)) (by kernel_rfl) (by kernel_rfl))
/-- Keys that are not too long. -/
def shK (a b : B) : Prop := a.length ≤ 100000 ∧ b.length ≤ 100000
theorem k_type : Tryd.prog.keyType 75 = true := by kernel_rfl
theorem k_cells : Tryd.prog.cellsOf 75 = 2 := by kernel_rfl
theorem k_one : Tryd.prog.cellsOf 9 = 1 := by kernel_rfl
theorem k_size : Tryd.prog.types.size = 137 := by kernel_rfl
theorem k_str : ∃ fs, Tryd.prog.underlying 75 = some (.struct fs) ∧ (fs.all fun f => f.name != "_") = true ∧ fs.toList.map (fun f => (f.type, f.offset)) = [(9, 0), (9, 1)] := ⟨_, Tryd.underlying75, by kernel_rfl, rfl⟩
theorem k_formed (a b : Value) : (Value.agg #[a, b]).formed Tryd.prog 75 = true := by
  obtain ⟨fs, hu, _⟩ := k_str
  simp [Value.formed, hu, k_cells]
theorem lit_str (d : Nat) {s : ByteArray} (h : s.size ≤ maxLen) : Tryd.prog.keyLits (d + 1) 9 [.string s] = some [.string s.data.toList] := by
  unfold Program.keyLits
  rw [Tryd.underlying9]
  simp only []
  rw [if_pos h]
theorem mapM_two {α β : Type} (g : α → Option β) (p q : α) {u v : β} (h1 : g p = some u) (h2 : g q = some v) : [p, q].mapM g = some [u, v] := by
  simp [h1, h2]
theorem lit_key (d : Nat) {s t : ByteArray} (h : s.size ≤ maxLen) (g : t.size ≤ maxLen) : Tryd.prog.keyLits (d + 1 + 1) 75 [.string s, .string t] = some [.string s.data.toList, .string t.data.toList] := by
  obtain ⟨fs, hu, hn, hf⟩ := k_str
  unfold Program.keyLits
  rw [hu]
  simp only []
  rw [if_pos ⟨by rw [k_cells]; rfl, hn⟩]
  obtain ⟨l, hl⟩ : ∃ l, fs.toList = l := ⟨_, rfl⟩
  rw [hl] at hf ⊢
  clear hl
  rcases l with _ | ⟨p, _ | ⟨q, _ | ⟨r, l⟩⟩⟩
  · exact absurd (congrArg List.length hf) (by simp)
  · exact absurd (congrArg List.length hf) (by simp)
  · simp only [List.map_cons, List.map_nil, List.cons.injEq, Prod.mk.injEq] at hf
    obtain ⟨⟨p1, p2⟩, ⟨q1, q2⟩, _⟩ := hf
    rw [mapM_two _ p q (u := [.string s.data.toList]) (v := [.string t.data.toList]) (by rw [p1, p2, k_one]; exact lit_str d h) (by rw [q1, q2, k_one]; exact lit_str d g)]
    rfl
  · exact absurd (congrArg List.length hf) (by simp)
theorem key_lit {a b : B} (h : shK a b) : keyOf Tryd.prog 75 (keyV a b) = some (keyL a b) := by
  have ha : (str a).size ≤ maxLen := by rw [str_size]; have := h.1; unfold maxLen; omega
  have hb : (str b).size ≤ maxLen := by rw [str_size]; have := h.2; unfold maxLen; omega
  obtain ⟨fs, hu, _⟩ := k_str
  unfold keyOf
  rw [hu]
  simp only []
  rw [k_type, k_formed, if_pos (show (true && true) = true from rfl), k_size]
  have h1 := lit_key (137 - 1) ha hb
  rw [show (137 - 1 + 1 + 1 : Nat) = 137 + 1 from rfl] at h1
  have h2 : (keyV a b).cells.toList = [.string (str a), .string (str b)] := rfl
  rw [h2, h1]
  rfl
theorem keyL_inj {a b c d : B} (h : shK a b) (g : shK c d) (e : keyL a b = keyL c d) : a = c ∧ b = d := by
  have h1 := key_lit h
  rw [e] at h1
  have h2 := lawK.inj h1 (key_lit g)
  injection h2 with h2
  have h3 := congrArg Array.toList h2
  simp only [List.cons.injEq, Value.string.injEq] at h3
  exact ⟨str_inj h3.1, str_inj h3.2.1⟩
theorem keyL_is {a b : B} (h : shK a b) : WideAt.IsKeyLit (keyL a b) := lawK.key (key_lit h)
theorem zeroI (w : World) : (zeroValue 3).run Tryd.prog w = .ok (.int .i64 0) w := by kernel_rfl
/-- What the map of a table has. -/
def idsF (P : List (B × Int)) (k : B × B) : Option Int := (P.find? (fun p => decide (keyS (patL p.1) = k))).map (·.2)
def HasI (D : DataW Unit) (P : List (B × Int)) : Prop := ∀ a b, shK a b → match idsF P (a, b) with
  | none => Maps.has D (keyL a b) = false
  | some i => Maps.has D (keyL a b) = true ∧ D.atKey (keyL a b) (.lit (.int .i64 0)) = .lit (.int .i64 i)
def MapK (w : World) (m : Nat) (P : List (B × Int)) : Prop := ∃ (n : Nat) (D : DataW Unit), w.ownsMap Tryd.prog 75 (plainElem Tryd.prog 3) m n D ∧ n ≤ P.length ∧ HasI D P
theorem MapK.keep {w w' : World} {m : Nat} {P : List (B × Int)} (h : MapK w m P) (hb : w'.heap[m]? = w.heap[m]?) : MapK w' m P := by
  obtain ⟨n, D, ⟨es, clock, h1, r⟩, h2⟩ := h
  exact ⟨n, D, ⟨es, clock, hb.trans h1, r⟩, h2⟩
theorem MapK.lt {w : World} {m : Nat} {P : List (B × Int)} (h : MapK w m P) : m < w.heap.size := by
  obtain ⟨n, D, ⟨es, clock, h1, r⟩, h2⟩ := h
  exact lt_of_heap h1
theorem MapK.nocell {w : World} {m : Nat} {P : List (B × Int)} {cs : Array Value} {T : TypeId} {fr : Nat × Nat} (h : MapK w m P) (hc : w.heap[m]? = some (.cells cs T fr)) : False := by
  obtain ⟨n, D, ⟨es, clock, h1, r⟩, h2⟩ := h
  rw [h1] at hc
  cases hc
theorem MapK.made (w : World) : MapK (w.alloc (.map #[] 0)) w.heap.size [] := ⟨0, .map [], World.ownsMap_made w Tryd.prog 75 _, Nat.le_refl _, fun _ _ _ => rfl⟩
theorem ids_snoc (P : List (B × Int)) (q : B × Int) (k : B × B) : idsF (P ++ [q]) k = match idsF P k with
    | some i => some i
    | none => if keyS (patL q.1) = k then some q.2 else none := by
  unfold idsF
  rw [List.find?_append]
  cases P.find? (fun p => decide (keyS (patL p.1) = k)) with
  | some p => rfl
  | none =>
    by_cases h : keyS (patL q.1) = k <;> simp [List.find?, h]
theorem HasI.put {D : DataW Unit} {P : List (B × Int)} {q : B × Int} {a b : B} (h : HasI D P) (hI : Maps.IsMap D) (hk : keyS (patL q.1) = (a, b)) (hs : shK a b) (hno : idsF P (a, b) = none) :
    HasI (D.put (keyL a b) (.lit (.int .i64 q.2))) (P ++ [q]) := by
  intro c d hcd
  rw [ids_snoc]
  by_cases e : (a, b) = (c, d)
  · injection e with e1 e2
    subst e1
    subst e2
    rw [hno]
    dsimp only
    rw [if_pos hk]
    exact ⟨Maps.has_put_same hI (keyL_is hs) _, Maps.atKey_put_same hI (keyL_is hs) _ _⟩
  · have hne : keyL c d ≠ keyL a b := fun e1 => e (by obtain ⟨e2, e3⟩ := keyL_inj hcd hs e1; rw [e2, e3])
    have h1 := h c d hcd
    cases hi : idsF P (c, d) with
    | none =>
      rw [hi] at h1
      dsimp only at h1 ⊢
      rw [if_neg (fun e1 => e (hk.symm.trans e1))]
      dsimp only
      rw [Maps.has_put_other hne]
      exact h1
    | some i =>
      rw [hi] at h1
      dsimp only at h1 ⊢
      rw [Maps.has_put_other hne, Maps.atKey_put_other hne]
      exact h1
/-- A map made or there takes a pattern in. -/
theorem MapK.store {w : World} {m : Nat} {P : List (B × Int)} (h : MapK w m P) (hl : P.length ≤ 100) {q : B × Int} {a b : B} (hk : keyS (patL q.1) = (a, b)) (hs : shK a b) (hno : idsF P (a, b) = none) (hw : (Lit.int .i64 q.2).wf = true) :
    ∃ w', (Instr.mapUpdate 80 (.map (some m)) (keyV a b) (.int .i64 q.2)).run Tryd.prog w = .ok () w' ∧ MapK w' m (P ++ [q]) ∧ w.grownBy w' (some m) := by
  obtain ⟨n, D, ho, hn, hD⟩ := h
  obtain ⟨w', hr, ho', ht⟩ := ho.store lawK Tryd.underlying80 (by unfold maxLen; omega) (key_lit hs) (plainElem_int Tryd.underlying3 hw)
  exact ⟨w', hr, ⟨n + 1, _, ho', by rw [List.length_append]; simp; omega, hD.put ho.isMap hk hs hno⟩, ht.grown⟩
set_option maxRecDepth 20000 in
/-- What is looked up. -/
theorem MapK.look {w : World} {m : Nat} {P : List (B × Int)} (h : MapK w m P) {a b : B} (hs : shK a b) :
    ∃ c : Int, (Instr.lookup 80 (.map (some m)) (keyV a b) true).run Tryd.prog w = .ok (.tuple #[.int .i64 c, .bool (idsF P (a, b)).isSome]) w ∧ ∀ i, idsF P (a, b) = some i → c = i := by
  obtain ⟨n, D, ho, hn, hD⟩ := h
  obtain ⟨v, ps, hr, hv⟩ := ho.look_ok lawK Tryd.underlying80 (zeroI w) (plainElem_int Tryd.underlying3 (by decide)) (key_lit hs)
  obtain ⟨c, rfl, hc, _⟩ := plainElem_int_inv Tryd.underlying3 hv
  have h1 := hD a b hs
  refine ⟨c, ?_, fun i hi => ?_⟩
  · rw [hr]
    cases hi : idsF P (a, b) with
    | none => rw [hi] at h1; dsimp only at h1; rw [h1]; rfl
    | some i => rw [hi] at h1; dsimp only at h1; rw [h1.1]; rfl
  · rw [hi] at h1
    dsimp only at h1
    have h2 := congrArg Prod.fst hc
    dsimp only at h2
    rw [h1.2] at h2
    injection h2 with h2
    injection h2 with _ h2
    exact h2.symm
theorem look_none (w : World) {a b : B} (hs : shK a b) : (Instr.lookup 80 (.map none) (keyV a b) true).run Tryd.prog w = .ok (.tuple #[.int .i64 0, .bool false]) w := by
  rw [Maps.look_nil true lawK Tryd.underlying80 (zeroI w) (key_lit hs)]
  rfl
end Go.Proofs.YtkjgdfihhhdjaaaDoor
