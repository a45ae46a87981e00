/- Patterns and paths, plain: how they are cut, fit, and which is better. -/
import Derived.Test.YtdjjkcpnjocafaaDoorBase
namespace Go.Proofs.YtdjjkcpnjocafaaDoor

/-- The segments of what stands behind the first slash. -/
def cutT : B → List B
  | [] => [[]]
  | c :: s => if c = 47 then [] :: cutT s else match cutT s with
    | [] => [[c]]
    | x :: l => (c :: x) :: l
theorem cutT_ne (s : B) : cutT s ≠ [] := by
  cases s with
  | nil => simp [cutT]
  | cons c s =>
    unfold cutT
    split
    · simp
    · split <;> simp
def splitT (s : B) : Option (List B) := match s with
  | c :: t => if c = 47 then some (cutT t) else none
  | [] => none
def kindT (s : B) : Nat := match s with
  | c :: _ => if c = 58 then 1 else if c = 42 then 2 else 0
  | [] => 0
theorem kindT_le (s : B) : kindT s ≤ 2 := by
  unfold kindT
  split
  · split
    · decide
    · split <;> decide
  · decide
/-- Segments with slashes between. -/
def joinT : List B → B
  | [] => []
  | [x] => x
  | x :: y :: l => x ++ 47 :: joinT (y :: l)
def fitsT : List B → List B → Option (List (B × B))
  | [], [] => some []
  | [], _ :: _ => none
  | _ :: _, [] => none
  | x :: l, y :: r =>
    if kindT x = 2 then some [(x.tail, joinT (y :: r))]
    else if kindT x = 1 then (if y = [] then none else (fitsT l r).map ((x.tail, y) :: ·))
    else if x = y then fitsT l r else none
def betterT : List B → List B → Bool
  | x :: l, y :: r => if kindT x = kindT y then betterT l r else decide (kindT x < kindT y)
  | _, _ => false
def alikeT : List B → List B → Bool
  | [], [] => true
  | x :: l, y :: r => decide (kindT x = kindT y) && (decide (kindT x ≠ 0) || decide (x = y)) && alikeT l r
  | _, _ => false
/-- The rest stands last. -/
def restLast : List B → Bool
  | [] => true
  | [_] => true
  | x :: y :: l => decide (kindT x ≠ 2) && restLast (y :: l)
theorem better_irrefl : ∀ a : List B, betterT a a = false
  | [] => rfl
  | x :: l => by
    unfold betterT
    rw [if_pos rfl]
    exact better_irrefl l
theorem better_trans : ∀ {a b c : List B}, betterT a b = true → betterT b c = true → betterT a c = true
  | [], _, _, h, _ => by simp [betterT] at h
  | _ :: _, [], _, h, _ => by simp [betterT] at h
  | _ :: _, _ :: _, [], _, h => by simp [betterT] at h
  | x :: a, y :: b, z :: c, h1, h2 => by
    unfold betterT at h1 h2 ⊢
    by_cases e1 : kindT x = kindT y
    · rw [if_pos e1] at h1
      by_cases e2 : kindT y = kindT z
      · rw [if_pos e2] at h2
        rw [if_pos (e1.trans e2)]
        exact better_trans h1 h2
      · rw [if_neg e2] at h2
        rw [if_neg (by rw [e1]; exact e2), e1]
        exact h2
    · rw [if_neg e1] at h1
      have h1' := of_decide_eq_true h1
      by_cases e2 : kindT y = kindT z
      · rw [if_neg (by rw [← e2]; exact e1), ← e2]
        exact h1
      · rw [if_neg e2] at h2
        have h2' := of_decide_eq_true h2
        rw [if_neg (by omega)]
        exact decide_eq_true (by omega)
theorem better_asymm {a b : List B} (h : betterT a b = true) : betterT b a = false := by
  cases e : betterT b a with
  | false => rfl
  | true =>
    have := better_trans h e
    rw [better_irrefl] at this
    cases this
theorem fits_nil {a : List B} (h : (fitsT a []).isSome = true) : a = [] := by
  cases a with
  | nil => rfl
  | cons x l => simp [fitsT] at h
/-- Of two that fit one path and are not alike just one is better. -/
theorem better_total : ∀ (a b p : List B), restLast a = true → restLast b = true → (fitsT a p).isSome = true → (fitsT b p).isSome = true → alikeT a b = true ∨ betterT a b = true ∨ betterT b a = true
  | [], b, p, _, _, ha, hb => by
    cases p with
    | nil =>
      rw [fits_nil hb]
      exact .inl rfl
    | cons y r => simp [fitsT] at ha
  | x :: l, b, [], _, _, ha, _ => by simp [fitsT] at ha
  | x :: l, [], y :: r, _, _, _, hb => by simp [fitsT] at hb
  | x :: l, z :: m, y :: r, ra, rb, ha, hb => by
    by_cases ek : kindT x = kindT z
    · have hs : betterT (x :: l) (z :: m) = betterT l m := by
        show (if kindT x = kindT z then betterT l m else _) = _
        rw [if_pos ek]
      have hs' : betterT (z :: m) (x :: l) = betterT m l := by
        show (if kindT z = kindT x then betterT m l else _) = _
        rw [if_pos ek.symm]
      rw [hs, hs']
      by_cases k2 : kindT x = 2
      · have hl : l = [] := by
          cases l with
          | nil => rfl
          | cons u v =>
            simp [restLast, k2] at ra
        have hm : m = [] := by
          cases m with
          | nil => rfl
          | cons u v =>
            simp [restLast, ← ek, k2] at rb
        subst hl hm
        left
        have k2' : kindT z = 2 := ek.symm.trans k2
        simp [alikeT, k2, k2']
      · have ra' : restLast l = true := by
          cases l with
          | nil => rfl
          | cons u v =>
            simp [restLast] at ra
            exact ra.2
        have rb' : restLast m = true := by
          cases m with
          | nil => rfl
          | cons u v =>
            simp [restLast] at rb
            exact rb.2
        have k2' : ¬ kindT z = 2 := by rw [← ek]; exact k2
        by_cases k1 : kindT x = 1
        · have k1' : kindT z = 1 := by rw [← ek]; exact k1
          have ha' : (fitsT l r).isSome = true := by
            rw [fitsT, if_neg k2, if_pos k1] at ha
            split at ha
            · cases ha
            · simpa using ha
          have hb' : (fitsT m r).isSome = true := by
            rw [fitsT, if_neg k2', if_pos k1'] at hb
            split at hb
            · cases hb
            · simpa using hb
          rcases better_total l m r ra' rb' ha' hb' with h | h
          · left
            unfold alikeT
            rw [h, k1, k1']
            rfl
          · exact .inr h
        · have k1' : ¬ kindT z = 1 := by rw [← ek]; exact k1
          rw [fitsT, if_neg k2, if_neg k1] at ha
          rw [fitsT, if_neg k2', if_neg k1'] at hb
          split at ha
          · rename_i e1
            split at hb
            · rename_i e2
              rcases better_total l m r ra' rb' ha hb with h | h
              · left
                unfold alikeT
                rw [h, e1, e2]
                simp
              · exact .inr h
            · cases hb
          · cases ha
    · right
      have hs : betterT (x :: l) (z :: m) = decide (kindT x < kindT z) := by
        show (if kindT x = kindT z then betterT l m else _) = _
        rw [if_neg ek]
      have hs' : betterT (z :: m) (x :: l) = decide (kindT z < kindT x) := by
        show (if kindT z = kindT x then betterT m l else _) = _
        rw [if_neg (fun e => ek e.symm)]
      rw [hs, hs']
      rcases Nat.lt_or_gt_of_ne ek with h | h
      · exact .inl (decide_eq_true h)
      · exact .inr (decide_eq_true h)
/-- Which one is found: each is tried, a later one wins if it is better. -/
def bestT (path : List B) : Option (List B × Int) → List (List B × Int) → Option (List B × Int)
  | o, [] => o
  | none, t :: l => bestT path (if (fitsT t.1 path).isSome then some t else none) l
  | some b, t :: l => bestT path (if (fitsT t.1 path).isSome && betterT t.1 b.1 then some t else some b) l
/-- One that fits and that no other one that fits beats. -/
def BestT (path : List B) (l : List (List B × Int)) (b : List B × Int) : Prop := b ∈ l ∧ (fitsT b.1 path).isSome = true ∧ ∀ t ∈ l, (fitsT t.1 path).isSome = true → t = b ∨ betterT b.1 t.1 = true
theorem best_one {path : List B} {l : List (List B × Int)} {b c : List B × Int} (h1 : BestT path l b) (h2 : BestT path l c) : b = c := by
  rcases h1.2.2 c h2.1 h2.2.1 with h | h
  · exact h.symm
  · rcases h2.2.2 b h1.1 h1.2.1 with h' | h'
    · exact h'
    · have := better_asymm h
      rw [h'] at this
      cases this
/-- What is found does not hang on the order. -/
theorem BestT.perm {path : List B} {l m : List (List B × Int)} {b : List B × Int} (h : BestT path l b) (hm : ∀ t, t ∈ l ↔ t ∈ m) : BestT path m b := ⟨(hm b).1 h.1, h.2.1, fun t ht hf => h.2.2 t ((hm t).2 ht) hf⟩
/-- Patterns that can lie side by side. -/
def ApartT (l : List (List B × Int)) : Prop := ∀ t ∈ l, restLast t.1 = true ∧ ∀ u ∈ l, alikeT t.1 u.1 = true → t = u
theorem best_some {path : List B} : ∀ (l done : List (List B × Int)) (b : List B × Int), ApartT (done ++ l) → BestT path done b → ∃ c, bestT path (some b) l = some c ∧ BestT path (done ++ l) c
  | [], done, b, _, h => ⟨b, rfl, by rw [List.append_nil]; exact h⟩
  | t :: l, done, b, ha, h => by
    have e : done ++ t :: l = (done ++ [t]) ++ l := by simp
    rw [e] at ha ⊢
    have hin : ∀ {u}, u ∈ done → u ∈ (done ++ [t]) ++ l := fun hu => by simp [hu]
    have ht : t ∈ (done ++ [t]) ++ l := by simp
    show ∃ c, bestT path (if (fitsT t.1 path).isSome && betterT t.1 b.1 then some t else some b) l = some c ∧ _
    by_cases hf : (fitsT t.1 path).isSome = true
    · by_cases hb : betterT t.1 b.1 = true
      · rw [if_pos (by rw [hf, hb]; rfl)]
        refine best_some l (done ++ [t]) t ha ⟨by simp, hf, fun u hu huf => ?_⟩
        rcases List.mem_append.1 hu with h1 | h1
        · rcases h.2.2 u h1 huf with h2 | h2
          · subst h2
            exact .inr hb
          · exact .inr (better_trans hb h2)
        · exact .inl (by simpa using h1)
      · rw [if_neg (by rw [hf]; simpa using hb)]
        refine best_some l (done ++ [t]) b ha ⟨by simp [h.1], h.2.1, fun u hu huf => ?_⟩
        rcases List.mem_append.1 hu with h1 | h1
        · exact h.2.2 u h1 huf
        · have h1' : u = t := by simpa using h1
          subst h1'
          rcases better_total u.1 b.1 path (ha _ ht).1 (ha _ (hin h.1)).1 hf h.2.1 with h3 | h3 | h3
          · exact .inl ((ha _ ht).2 _ (hin h.1) h3)
          · exact absurd h3 hb
          · exact .inr h3
    · rw [if_neg (by simp [hf])]
      refine best_some l (done ++ [t]) b ha ⟨by simp [h.1], h.2.1, fun u hu huf => ?_⟩
      rcases List.mem_append.1 hu with h1 | h1
      · exact h.2.2 u h1 huf
      · have h1' : u = t := by simpa using h1
        subst h1'
        exact absurd huf hf
theorem best_none {path : List B} : ∀ (l done : List (List B × Int)), ApartT (done ++ l) → (∀ t ∈ done, ¬ (fitsT t.1 path).isSome = true) →
    (bestT path none l = none ∧ ∀ t ∈ done ++ l, ¬ (fitsT t.1 path).isSome = true) ∨ ∃ c, bestT path none l = some c ∧ BestT path (done ++ l) c
  | [], done, _, h => .inl ⟨rfl, by rw [List.append_nil]; exact h⟩
  | t :: l, done, ha, h => by
    have e : done ++ t :: l = (done ++ [t]) ++ l := by simp
    rw [e] at ha ⊢
    show (bestT path (if (fitsT t.1 path).isSome then some t else none) l = none ∧ _) ∨ ∃ c, bestT path (if (fitsT t.1 path).isSome then some t else none) l = some c ∧ _
    by_cases hf : (fitsT t.1 path).isSome = true
    · rw [if_pos hf]
      refine .inr (best_some l (done ++ [t]) t ha ⟨by simp, hf, fun u hu huf => ?_⟩)
      rcases List.mem_append.1 hu with h1 | h1
      · exact absurd huf (h u h1)
      · exact .inl (by simpa using h1)
    · rw [if_neg hf]
      refine best_none l (done ++ [t]) ha fun u hu => ?_
      rcases List.mem_append.1 hu with h1 | h1
      · exact h u h1
      · have h1' : u = t := by simpa using h1
        subst h1'
        exact hf
theorem cutT_noslash : ∀ (s : B) (x : B), x ∈ cutT s → (47 : UInt8) ∉ x
  | [], x, h => by
    simp [cutT] at h
    subst h
    simp
  | c :: s, x, h => by
    have ih := cutT_noslash s
    unfold cutT at h
    split at h
    · rcases List.mem_cons.1 h with h1 | h1
      · subst h1; simp
      · exact ih x h1
    · rename_i hc
      split at h
      · simp at h
        subst h
        simp
        exact fun e => hc e.symm
      · rename_i y l e
        rcases List.mem_cons.1 h with h1 | h1
        · subst h1
          have := ih y (by rw [e]; simp)
          simp
          exact ⟨fun e => hc e.symm, this⟩
        · exact ih x (by rw [e]; simp [h1])
theorem joinT_cons (x : B) {l : List B} (h : l ≠ []) : joinT (x :: l) = x ++ 47 :: joinT l := by
  cases l with
  | nil => exact absurd rfl h
  | cons y l => rfl
theorem joinT_app (c : UInt8) (x : B) (l : List B) : joinT ((c :: x) :: l) = c :: joinT (x :: l) := by
  cases l with
  | nil => rfl
  | cons y l => rfl
/-- What is cut and joined is as it was. -/
theorem joinT_cut : ∀ s : B, joinT (cutT s) = s
  | [] => rfl
  | c :: s => by
    have ih := joinT_cut s
    unfold cutT
    split
    · rename_i hc
      rw [joinT_cons _ (cutT_ne s), ih, hc]
      rfl
    · split
      · rename_i e
        exact absurd e (cutT_ne s)
      · rename_i y l e
        rw [joinT_app, ← e, ih]
theorem cutT_cons (c : UInt8) (s : B) : cutT (c :: s) = if c = 47 then [] :: cutT s else match cutT s with
    | [] => [[c]]
    | x :: l => (c :: x) :: l := rfl
theorem cutT_app : ∀ (x s : B), (47 : UInt8) ∉ x → cutT (x ++ 47 :: s) = x :: cutT s
  | [], s, _ => by
    show cutT (47 :: s) = _
    rw [cutT_cons, if_pos rfl]
  | c :: x, s, h => by
    simp at h
    have ih := cutT_app x s h.2
    show cutT (c :: (x ++ 47 :: s)) = _
    rw [cutT_cons, if_neg (fun e => h.1 e.symm), ih]
theorem cutT_only : ∀ (x : B), (47 : UInt8) ∉ x → cutT x = [x]
  | [], _ => rfl
  | c :: x, h => by
    simp at h
    have ih := cutT_only x h.2
    rw [cutT_cons, if_neg (fun e => h.1 e.symm), ih]
/-- What is joined and cut is as it was, if no part holds a slash. -/
theorem cutT_join : ∀ l : List B, l ≠ [] → (∀ x ∈ l, (47 : UInt8) ∉ x) → cutT (joinT l) = l
  | [], h, _ => absurd rfl h
  | [x], _, h => cutT_only x (h x (by simp))
  | x :: y :: l, _, h => by
    rw [joinT_cons x (by simp), cutT_app x _ (h x (by simp)), cutT_join (y :: l) (by simp) (fun z hz => h z (by simp at hz ⊢; exact .inr hz))]
/-- A pattern's segments with the values in the places of what is no plain segment. -/
def fillT (v : Nat → B) : Nat → List B → List B
  | _, [] => []
  | k, x :: l => if kindT x = 0 then x :: fillT v k l else v k :: fillT v (k + 1) l
def wantT (v : Nat → B) : Nat → List B → List B
  | _, [] => []
  | k, x :: l => if kindT x = 0 then wantT v k l else v k :: wantT v (k + 1) l
/-- A pattern whose parameters are filled in fits what comes of it. -/
theorem fits_fill (v : Nat → B) (hv : ∀ k, v k ≠ []) : ∀ (l : List B) (k : Nat), restLast l = true → ∃ F, fitsT l (fillT v k l) = some F ∧ F.map (·.2) = wantT v k l
  | [], k, _ => ⟨[], rfl, rfl⟩
  | x :: l, k, hr => by
    have hr' : restLast l = true := by
      cases l with
      | nil => rfl
      | cons y m => simp [restLast] at hr; exact hr.2
    have hk := kindT_le x
    by_cases k0 : kindT x = 0
    · obtain ⟨F, h1, h2⟩ := fits_fill v hv l k hr'
      refine ⟨F, ?_, ?_⟩
      · show fitsT (x :: l) (if kindT x = 0 then _ else _) = _
        rw [if_pos k0]
        unfold fitsT
        rw [if_neg (by omega), if_neg (by omega), if_pos rfl]
        exact h1
      · show _ = if kindT x = 0 then _ else _
        rw [if_pos k0]
        exact h2
    · by_cases k1 : kindT x = 1
      · obtain ⟨F, h1, h2⟩ := fits_fill v hv l (k + 1) hr'
        refine ⟨(x.tail, v k) :: F, ?_, ?_⟩
        · show fitsT (x :: l) (if kindT x = 0 then _ else _) = _
          rw [if_neg k0]
          unfold fitsT
          rw [if_neg (by omega), if_pos k1, if_neg (hv k), h1]
          rfl
        · show _ = if kindT x = 0 then _ else _
          rw [if_neg k0, ← h2]
          rfl
      · have k2 : kindT x = 2 := by omega
        have hl : l = [] := by
          cases l with
          | nil => rfl
          | cons y m => simp [restLast, k2] at hr
        subst hl
        refine ⟨[(x.tail, v k)], ?_, ?_⟩
        · show fitsT [x] (if kindT x = 0 then _ else _) = _
          rw [if_neg k0]
          unfold fitsT
          rw [if_pos k2]
          rfl
        · show _ = if kindT x = 0 then _ else _
          rw [if_neg k0]
          rfl
end Go.Proofs.YtdjjkcpnjocafaaDoor
