/- What stands at a path of a value, as plain functions. -/
import Derived.Test.YtiglabpemlogbaaDoorDec
import Derived.Lib.SplitLaws
namespace Go.Proofs.YtiglabpemlogbaaDoor

abbrev B := List UInt8
/-- A value: its kind, truth, text, number, whether it is whole, its parts, its names. -/
inductive JV where
  | mk (k : Int) (b : Bool) (t : B) (n : Int) (h : Bool) (ls : List JV) (ns : List B)
def JV.kind : JV → Int
  | .mk k _ _ _ _ _ _ => k
def JV.text : JV → B
  | .mk _ _ t _ _ _ _ => t
def JV.names : JV → List B
  | .mk _ _ _ _ _ _ ns => ns
def JV.parts : JV → List JV
  | .mk _ _ _ _ _ ls _ => ls
def JV.zero : JV := .mk 0 false [] 0 false [] []
/-! ### Steps -/
/-- What stands between the points. -/
def cutL : B → List B
  | [] => [[]]
  | b :: l => if b = 46 then [] :: cutL l else match cutL l with
    | [] => [[b]]
    | p :: r => (b :: p) :: r
theorem cutL_ne (l : B) : cutL l ≠ [] := by
  cases l with
  | nil => simp [cutL]
  | cons b l => unfold cutL; split <;> (try split) <;> simp
theorem cutL_none : ∀ l : B, (∀ x ∈ l, x ≠ 46) → cutL l = [l]
  | [], _ => rfl
  | b :: l, h => by
    rw [cutL, if_neg (h b (by simp)), cutL_none l (fun x hx => h x (by simp [hx]))]
theorem cutL_at : ∀ (p l : B), (∀ x ∈ p, x ≠ 46) → cutL (p ++ 46 :: l) = p :: cutL l
  | [], l, _ => by rw [List.nil_append, cutL, if_pos rfl]
  | b :: p, l, h => by
    rw [List.cons_append, cutL, if_neg (h b (by simp)), cutL_at p l (fun x hx => h x (by simp [hx]))]
theorem cutL_len : ∀ l : B, (cutL l).length ≤ l.length + 1
  | [] => by simp [cutL]
  | b :: l => by
    have := cutL_len l
    unfold cutL
    split
    · simp; omega
    · split
      · simp
      · rename_i h
        rw [h] at this
        simp at this ⊢
        omega
theorem cutL_piece : ∀ (l p : B), p ∈ cutL l → p.length ≤ l.length
  | [], p, h => by simp [cutL] at h; simp [h]
  | b :: l, p, h => by
    unfold cutL at h
    split at h
    · rcases List.mem_cons.1 h with rfl | h
      · simp
      · have := cutL_piece l p h
        simp; omega
    · split at h
      · simp at h
        subst h
        simp
      · rename_i q r hq
        rcases List.mem_cons.1 h with rfl | h
        · have := cutL_piece l q (by rw [hq]; simp)
          simp; omega
        · have := cutL_piece l p (by rw [hq]; simp [h])
          simp; omega
/-- A path behind a path. -/
theorem cutL_join : ∀ a b : B, cutL (a ++ 46 :: b) = cutL a ++ cutL b
  | [], b => by simp [cutL]
  | c :: a, b => by
    have e : ∀ l : B, cutL (c :: l) = if c = 46 then [] :: cutL l else match cutL l with
        | [] => [[c]]
        | p :: r => (c :: p) :: r := fun l => by rw [cutL]
    rw [List.cons_append, e, e, cutL_join a b]
    by_cases hc : c = 46
    · rw [if_pos hc, if_pos hc, List.cons_append]
    · rw [if_neg hc, if_neg hc]
      cases h : cutL a with
      | nil => exact absurd h (cutL_ne a)
      | cons p r => simp
def steps (p : B) : List B := if p = [] then [] else cutL p
theorem byte_miss : ∀ l : B, Lib.indexByte l 46 = -1 → ∀ x ∈ l, x ≠ 46
  | [], _, x, hx => by simp at hx
  | b :: l, h, x, hx => by
    unfold Lib.indexByte at h
    split at h
    · simp at h
    · rename_i hb
      split at h
      · rename_i h2
        rcases List.mem_cons.1 hx with rfl | hx
        · simpa using hb
        · exact byte_miss l (by simpa using h2) x hx
      · rename_i h2
        have := Lib.indexByte_ge l 46
        simp at h2
        omega
theorem byte_hit : ∀ (l : B) (i : Nat), Lib.indexByte l 46 = i → (∀ x ∈ l.take i, x ≠ 46) ∧ l = l.take i ++ 46 :: l.drop (i + 1)
  | [], i, h => by simp [Lib.indexByte] at h
  | b :: l, i, h => by
    unfold Lib.indexByte at h
    split at h
    · rename_i hb
      have hi : i = 0 := by omega
      subst hi
      have hb' : b = 46 := by simpa using hb
      subst hb'
      simp
    · rename_i hb
      split at h
      · omega
      · rename_i h2
        have := Lib.indexByte_ge l 46
        simp at h2
        obtain ⟨j, rfl⟩ : ∃ j, i = j + 1 := ⟨i - 1, by omega⟩
        obtain ⟨h3, h4⟩ := byte_hit l j (by omega)
        refine ⟨?_, ?_⟩
        · intro x hx
          rw [List.take_succ_cons] at hx
          rcases List.mem_cons.1 hx with rfl | hx
          · simpa using hb
          · exact h3 x hx
        · rw [List.take_succ_cons, List.drop_succ_cons, List.cons_append, ← h4]
def point : ByteArray := { data := #[46] }
theorem split_cut : ∀ (n : Nat) (s : ByteArray), Lib.countB s point = n → (Lib.splitB point 0 n s).map (fun p => p.data.toList) = cutL s.data.toList
  | n, s, h => by
    have hx : Lib.indexB s point = Lib.indexByte s.data.toList 46 := Lib.index_one s.data.toList 46
    by_cases hm : Lib.indexB s point = -1
    · rw [Lib.splitB_miss _ _ _ _ hm]
      rw [hx] at hm
      rw [cutL_none _ (byte_miss _ hm)]; rfl
    · have hge := Lib.indexByte_ge s.data.toList 46
      obtain ⟨i, hi⟩ : ∃ i : Nat, Lib.indexB s point = i := ⟨(Lib.indexB s point).toNat, by omega⟩
      have hc := Lib.countB_hit s point i (by decide) hi
      obtain ⟨m, rfl⟩ : ∃ m, n = m + 1 := ⟨n - 1, by omega⟩
      rw [Lib.splitB_hit _ _ _ _ _ hi]
      have hrec := split_cut m (s.extract (i + point.size) s.size) (by omega)
      rw [List.map_cons, hrec]
      rw [hx] at hi
      obtain ⟨h1, h2⟩ := byte_hit _ _ hi
      have e := cutL_at (s.data.toList.take i) (s.data.toList.drop (i + 1)) h1
      rw [← h2] at e
      rw [e]
      have e1 : (s.extract 0 (i + 0)).data.toList = s.data.toList.take i := by simp
      have e2 : (s.extract (i + point.size) s.size).data.toList = s.data.toList.drop (i + 1) := by
        rw [show point.size = 1 from rfl]
        simp
        rw [List.take_of_length_le (by simp)]
      rw [e1, e2]
/-! ### Places -/
/-- A place in digits, below a length. -/
def numAt (n : Nat) (s : B) : Option Nat := match Lib.atoiAll s with
  | .ok v => if 0 ≤ v ∧ v < n ∧ Lib.itoa v = s then some v.toNat else none
  | _ => none
theorem numAt_of {n i : Nat} (h : i < n) (hn : n ≤ 1099511627776) : numAt n (Lib.itoa (i : Int)) = some i := by
  unfold numAt
  rw [atoi_itoa i (by omega)]
  show (if 0 ≤ (i : Int) ∧ (i : Int) < n ∧ Lib.itoa (i : Int) = Lib.itoa (i : Int) then some (i : Int).toNat else none) = some i
  rw [if_pos ⟨by omega, by omega, rfl⟩]
  simp
theorem numAt_spec {n : Nat} {s : B} {i : Nat} (h : numAt n s = some i) : i < n ∧ Lib.itoa (i : Int) = s := by
  unfold numAt at h
  split at h
  · rename_i v hv
    split at h
    · rename_i hc
      simp only [Option.some.injEq] at h
      have e : (i : Int) = v := by omega
      rw [e]
      exact ⟨by omega, hc.2.2⟩
    · cases h
  · cases h
theorem numAt_none {n : Nat} {s : B} (hn : n ≤ 1099511627776) (h : numAt n s = none) : ∀ i : Nat, i < n → Lib.itoa (i : Int) ≠ s := by
  intro i hi e
  rw [← e, numAt_of hi hn] at h
  cases h
/-- Of the document's number. -/
theorem ref_num {n : Nat} {s : B} (hn : n ≤ 1099511627776) (h1 : Lib.itoa (numN 10 (1099511627776 : Nat) (asB s)) = s) (h2 : numN 10 (1099511627776 : Nat) (asB s) < n) (h3 : 0 ≤ numN 10 (1099511627776 : Nat) (asB s)) : numAt n s = some (numN 10 (1099511627776 : Nat) (asB s)).toNat := by
  obtain ⟨v, hv⟩ : ∃ v : Nat, numN 10 (1099511627776 : Nat) (asB s) = v := ⟨_, (Int.toNat_of_nonneg h3).symm⟩
  rw [hv] at h1 h2 ⊢
  rw [← h1]
  simpa using numAt_of (i := v) (n := n) (by omega) hn
theorem ref_none {n : Nat} {s : B} (hn : n ≤ 1099511627776) (h : ¬ (numE 10 (1099511627776 : Nat) (asB s) = 0 ∧ Lib.itoa (numN 10 (1099511627776 : Nat) (asB s)) = s ∧ numN 10 (1099511627776 : Nat) (asB s) < n)) : numAt n s = none := by
  cases hc : numAt n s with
  | none => rfl
  | some i =>
    obtain ⟨h1, h2⟩ := numAt_spec hc
    exfalso
    apply h
    rw [← h2]
    obtain ⟨h3, h4⟩ := back10 (n := i) (most := 1099511627776) (by omega) (by omega)
    rw [h3, h4]
    exact ⟨rfl, rfl, by omega⟩
def nameAt (m : Nat) (ns : List B) (s : B) : Option Nat := if ns.idxOf s < ns.length ∧ ns.idxOf s < m then some (ns.idxOf s) else none
/-- The place of a part that a step tells. -/
def placeN : JV → B → Option Nat
  | .mk k _ _ _ _ ls ns, s => if s = [] then none else if k = 6 then nameAt ls.length ns s else if k = 5 then numAt ls.length s else none
theorem place_nil (t : JV) : placeN t [] = none := by
  cases t
  simp [placeN]
theorem place_obj {b : Bool} {t : B} {n : Int} {h : Bool} {ls : List JV} {ns : List B} {s : B} (h0 : s ≠ []) : placeN (.mk 6 b t n h ls ns) s = nameAt ls.length ns s := by simp [placeN, h0]
theorem place_list {b : Bool} {t : B} {n : Int} {h : Bool} {ls : List JV} {ns : List B} {s : B} (h0 : s ≠ []) : placeN (.mk 5 b t n h ls ns) s = numAt ls.length s := by simp [placeN, h0]
theorem place_else {k : Int} {b : Bool} {t : B} {n : Int} {h : Bool} {ls : List JV} {ns : List B} {s : B} (h6 : k ≠ 6) (h5 : k ≠ 5) : placeN (.mk k b t n h ls ns) s = none := by simp [placeN, h6, h5]
theorem placeN_lt {k : Int} {b : Bool} {t : B} {n : Int} {h : Bool} {ls : List JV} {ns : List B} {s : B} {i : Nat} (hp : placeN (.mk k b t n h ls ns) s = some i) : i < ls.length := by
  simp only [placeN] at hp
  split at hp
  · cases hp
  split at hp
  · unfold nameAt at hp
    split at hp
    · simp only [Option.some.injEq] at hp
      omega
    · cases hp
  split at hp
  · exact (numAt_spec hp).1
  · cases hp
/-- What stands behind some steps. -/
def goto : JV → List B → Option JV
  | t, [] => some t
  | t, s :: r => match placeN t s with
    | none => none
    | some i => match t.parts[i]? with
      | none => none
      | some x => goto x r
theorem goto_append : ∀ (a b : List B) (t : JV), goto t (a ++ b) = (goto t a).bind fun x => goto x b
  | [], b, t => rfl
  | s :: r, b, t => by
    simp only [List.cons_append, goto]
    cases placeN t s with
    | none => rfl
    | some i =>
      simp only
      cases t.parts[i]? with
      | none => rfl
      | some x => exact goto_append r b x
theorem goto_none {t : JV} {s : B} {r : List B} (h : placeN t s = none) : goto t (s :: r) = none := by simp only [goto, h]
theorem goto_some {t x : JV} {s : B} {r : List B} {i : Nat} (h : placeN t s = some i) (hx : t.parts[i]? = some x) : goto t (s :: r) = goto x r := by simp only [goto, h, hx]
def codeN (r : Option JV) : Nat := if r.isSome then 0 else 8
/-- The value of a kind at a path, or the error. -/
def ofKind (k : Int) (r : Option JV) : JV × Nat := match r with
  | none => (.zero, 8)
  | some x => if x.kind = k then (x, 0) else (.zero, 7)
/-- Whether an object has other names than these. -/
def onlyN (r : JV × Nat) (names : List B) : Nat := if r.2 ≠ 0 then r.2 else if r.1.names.all (names.contains ·) then 0 else 10
end Go.Proofs.YtiglabpemlogbaaDoor
