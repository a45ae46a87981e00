/- Targets as plain functions: codes, paths as they are meant, segments, queries' parts; what holds of them. -/
namespace Go.Proofs.YtbdbmlklijmefaaDoor

abbrev B := List UInt8
def letterB (c : UInt8) : Bool := decide (97 ≤ c ∧ c ≤ 122) || decide (65 ≤ c ∧ c ≤ 90) || decide (48 ≤ c ∧ c ≤ 57)
def unres (c : UInt8) : Bool := letterB c || ([45, 46, 95, 126] : B).contains c
def plainB (c : UInt8) : Bool := unres c || ([33, 36, 38, 39, 40, 41, 42, 43, 44, 59, 61, 58, 64] : B).contains c
def hexN (c : UInt8) : Option Nat := if 48 ≤ c ∧ c ≤ 57 then some (c.toNat - 48) else if 97 ≤ c ∧ c ≤ 102 then some (c.toNat - 87) else if 65 ≤ c ∧ c ≤ 70 then some (c.toNat - 55) else none
/-- A digit, great letters. -/
def greatD (d : Nat) : UInt8 := if d < 10 then UInt8.ofNat (48 + d) else UInt8.ofNat (55 + d)
/-- The byte of a code that begins here. -/
def codeOf (c a b : UInt8) : Option UInt8 := if c = 37 then (match hexN a, hexN b with
  | some x, some y => some (UInt8.ofNat (x * 16 + y))
  | _, _ => none) else none
/-- The code of a byte. -/
def codeB (v : UInt8) : B := [37, greatD (v.toNat / 16), greatD (v.toNat % 16)]
/-- Whether a text is made of path bytes, others, and codes. -/
def made (o : B) (soft : Bool) : B → Bool
  | [] => true
  | [c] => plainB c || o.contains c
  | [c, d] => (plainB c || o.contains c) && made o soft [d]
  | c :: a :: b :: r => if plainB c || o.contains c then made o soft (a :: b :: r) else match codeOf c a b with
    | none => false
    | some v => if soft && (decide (v < 32) || v == 127) then false else made o soft r
def isPath (s : B) : Bool := decide (s.head? = some 47) && made [47] true s
def isQuery (s : B) : Bool := made [47, 63] false s
/-- Codes of unreserved bytes as these, the others with great letters. -/
def meantB : B → B
  | [] => []
  | [c] => [c]
  | [c, d] => [c, d]
  | c :: a :: b :: r => match codeOf c a b with
    | none => c :: meantB (a :: b :: r)
    | some v => (if unres v then [v] else codeB v) ++ meantB r
def decodeB : B → Option B
  | [] => some []
  | [c] => if c = 37 then none else some [c]
  | [c, d] => if c = 37 then none else (decodeB [d]).map (c :: ·)
  | c :: a :: b :: r => if c = 37 then (match codeOf c a b with
    | none => none
    | some v => (decodeB r).map (v :: ·)) else (decodeB (a :: b :: r)).map (c :: ·)
def encodeB (s : B) : B := s.flatMap fun c => if unres c then [c] else codeB c
/-- What stands between the bytes x. -/
def cutAt (x : UInt8) : B → List B
  | [] => [[]]
  | b :: l => if b = x then [] :: cutAt x l else match cutAt x l with
    | [] => [[b]]
    | p :: r => (b :: p) :: r
/-- What stands behind each slash. -/
def segs (s : B) : List B := (cutAt 47 s).tail
def joinS (l : List B) : B := l.flatMap fun s => 47 :: s
/-- Without dot segments. -/
def dotsL : List B → List B → Option (List B)
  | [], out => some out
  | s :: r, out => if s = [46] then (if r = [] then some (out ++ [[]]) else dotsL r out)
    else if s = [46, 46] then (if out = [] then none else if r = [] then some (out.dropLast ++ [[]]) else dotsL r out.dropLast)
    else dotsL r (out ++ [s])
def normalB (p : B) : Option B := if isPath p then (dotsL (segs (meantB p)) []).map joinS else none
/-! ### Digits and codes -/
theorem hex_great : ∀ d : Fin 16, hexN (greatD d.1) = some d.1 := by decide
theorem great_small : ∀ d : Fin 16, greatD d.1 < 97 ∧ greatD d.1 ≠ 47 ∧ greatD d.1 ≠ 37 := by decide
theorem hexN_lt {c : UInt8} {x : Nat} (h : hexN c = some x) : x < 16 := by
  unfold hexN at h
  have hc : c.toNat < 256 := c.toNat_lt
  split at h
  · rename_i q
    have h1 : c.toNat ≤ 57 := by simpa using UInt8.le_iff_toNat_le.1 q.2
    simp only [Option.some.injEq] at h
    omega
  split at h
  · rename_i q
    have h1 : c.toNat ≤ 102 := by simpa using UInt8.le_iff_toNat_le.1 q.2
    simp only [Option.some.injEq] at h
    omega
  split at h
  · rename_i q
    have h1 : c.toNat ≤ 70 := by simpa using UInt8.le_iff_toNat_le.1 q.2
    simp only [Option.some.injEq] at h
    omega
  · cases h
theorem code_self (v : UInt8) : codeOf 37 (greatD (v.toNat / 16)) (greatD (v.toNat % 16)) = some v := by
  have hv : v.toNat < 256 := v.toNat_lt
  unfold codeOf
  rw [if_pos rfl, hex_great ⟨v.toNat / 16, by omega⟩, hex_great ⟨v.toNat % 16, by omega⟩]
  simp only
  congr 1
  apply UInt8.toNat_inj.1
  rw [UInt8.toNat_ofNat']
  omega
theorem code_none {c a b : UInt8} (h : c ≠ 37) : codeOf c a b = none := by unfold codeOf; rw [if_neg h]
theorem unres_ne (c : UInt8) (h : unres c = true) : c ≠ 37 ∧ c ≠ 47 := ⟨fun e => by subst e; revert h; decide, fun e => by subst e; revert h; decide⟩
theorem plain_ne (c : UInt8) (h : plainB c = true) : c ≠ 37 ∧ c ≠ 47 := ⟨fun e => by subst e; revert h; decide, fun e => by subst e; revert h; decide⟩
theorem unres_plain (c : UInt8) (h : unres c = true) : plainB c = true := by unfold plainB; rw [h]; rfl
/-! ### What is told in codes is decoded to it -/
theorem dec_cons {c : UInt8} (h : c ≠ 37) : ∀ l : B, decodeB (c :: l) = (decodeB l).map (c :: ·)
  | [] => by simp [decodeB, h]
  | [d] => by simp [decodeB, h]
  | a :: b :: r => by simp [decodeB, h]
theorem dec_code (v : UInt8) (l : B) : decodeB (codeB v ++ l) = (decodeB l).map (v :: ·) := by
  show decodeB (37 :: greatD (v.toNat / 16) :: greatD (v.toNat % 16) :: l) = _
  simp [decodeB, code_self]
theorem decode_encode : ∀ s : B, decodeB (encodeB s) = some s
  | [] => rfl
  | c :: l => by
    have ih := decode_encode l
    simp only [encodeB, List.flatMap_cons] at ih ⊢
    split
    · rename_i h
      rw [List.singleton_append, dec_cons (unres_ne c h).1, ih]
      rfl
    · rw [dec_code, ih]
      rfl
theorem encode_bytes : ∀ (s : B) (x : UInt8), x ∈ encodeB s → x = 37 ∨ unres x = true := by
  intro s x hx
  simp only [encodeB, List.mem_flatMap] at hx
  obtain ⟨c, _, hc⟩ := hx
  split at hc
  · rename_i h
    simp at hc
    subst hc
    exact .inr h
  · have hv : c.toNat < 256 := c.toNat_lt
    have hd : ∀ d : Fin 16, unres (greatD d.1) = true := by decide
    simp only [codeB, List.mem_cons, List.not_mem_nil, or_false] at hc
    rcases hc with rfl | rfl | rfl
    · exact .inl rfl
    · exact .inr (hd ⟨c.toNat / 16, by omega⟩)
    · exact .inr (hd ⟨c.toNat % 16, by omega⟩)
/-! ### Paths as they are meant -/
/-- Path bytes, slashes, and codes of other bytes with great letters. -/
inductive Clean : B → Prop
  | nil : Clean []
  | ch {c : UInt8} {l : B} : plainB c = true ∨ c = 47 → Clean l → Clean (c :: l)
  | cd {v : UInt8} {l : B} : unres v = false → ¬ v < 32 → v ≠ 127 → Clean l → Clean (codeB v ++ l)
theorem made_cons {c : UInt8} (h : (plainB c || [47].contains c) = true) : ∀ l : B, made [47] true (c :: l) = made [47] true l
  | [] => by simp only [made]; exact h
  | [d] => by simp only [made]; rw [h]; rfl
  | a :: b :: r => by simp only [made]; rw [if_pos h]
theorem made_code {v : UInt8} (h : ¬ v < 32) (h2 : v ≠ 127) (l : B) : made [47] true (codeB v ++ l) = made [47] true l := by
  show made [47] true (37 :: greatD (v.toNat / 16) :: greatD (v.toNat % 16) :: l) = _
  rw [made, if_neg (by decide), code_self]
  simp only
  rw [if_neg (by simp [h, h2])]
theorem meant_cons {c : UInt8} (h : c ≠ 37) : ∀ l : B, meantB (c :: l) = c :: meantB l
  | [] => rfl
  | [d] => rfl
  | a :: b :: r => by simp only [meantB, code_none h]
theorem meant_code (v : UInt8) (l : B) : meantB (codeB v ++ l) = (if unres v then [v] else codeB v) ++ meantB l := by
  show meantB (37 :: greatD (v.toNat / 16) :: greatD (v.toNat % 16) :: l) = _
  simp only [meantB, code_self]
theorem ch_in {c : UInt8} (h : plainB c = true ∨ c = 47) : (plainB c || [47].contains c) = true := by
  rcases h with h | h
  · rw [h]; rfl
  · subst h; decide
theorem ch_ne {c : UInt8} (h : plainB c = true ∨ c = 47) : c ≠ 37 := by
  rcases h with h | h
  · exact (plain_ne c h).1
  · subst h; decide
theorem ch_out {c : UInt8} (h : (plainB c || [47].contains c) = true) : plainB c = true ∨ c = 47 := by
  rw [Bool.or_eq_true] at h
  rcases h with h | h
  · exact .inl h
  · simp at h
    exact .inr h
theorem clean_meant : ∀ p : B, made [47] true p = true → Clean (meantB p)
  | [], _ => .nil
  | [c], h => by
    simp only [made] at h
    exact .ch (ch_out h) .nil
  | [c, d], h => by
    simp only [made, Bool.and_eq_true] at h
    exact .ch (ch_out h.1) (.ch (ch_out h.2) .nil)
  | c :: a :: b :: r, h => by
    rw [made] at h
    split at h
    · rename_i hc
      rw [meant_cons (ch_ne (ch_out hc))]
      exact .ch (ch_out hc) (clean_meant (a :: b :: r) h)
    · cases hv : codeOf c a b with
      | none => rw [hv] at h; cases h
      | some v =>
        rw [hv] at h
        simp only at h
        split at h
        · cases h
        · rename_i hs
          simp only [Bool.and_eq_true, Bool.or_eq_true, decide_eq_true_eq, beq_iff_eq, true_and, not_or] at hs
          simp only [meantB, hv]
          cases hu : unres v with
          | true => exact .ch (.inl (unres_plain v hu)) (clean_meant r h)
          | false => exact .cd hu hs.1 hs.2 (clean_meant r h)
theorem clean_made {m : B} (h : Clean m) : ∀ l : B, made [47] true (m ++ l) = made [47] true l ∧ meantB (m ++ l) = m ++ meantB l := by
  induction h with
  | nil => intro l; exact ⟨rfl, rfl⟩
  | ch hc _ ih =>
    intro l
    rw [List.cons_append, made_cons (ch_in hc), meant_cons (ch_ne hc), (ih l).1, (ih l).2]
    exact ⟨rfl, rfl⟩
  | cd hu h1 h2 _ ih =>
    intro l
    rw [List.append_assoc, made_code h1 h2, meant_code, hu, (ih l).1, (ih l).2]
    simp
theorem Clean.made {m : B} (h : Clean m) : Go.Proofs.YtbdbmlklijmefaaDoor.made [47] true m = true := by
  have := (clean_made h []).1
  rw [List.append_nil] at this
  rw [this]
  rfl
theorem Clean.meant {m : B} (h : Clean m) : meantB m = m := by
  have := (clean_made h []).2
  rw [List.append_nil] at this
  simpa [meantB] using this
theorem Clean.append {a b : B} (ha : Clean a) (hb : Clean b) : Clean (a ++ b) := by
  induction ha with
  | nil => exact hb
  | ch hc _ ih => exact .ch hc ih
  | cd hu h1 h2 _ ih => rw [List.append_assoc]; exact .cd hu h1 h2 ih
/-! ### Segments -/
theorem cut_ne (x : UInt8) (l : B) : cutAt x l ≠ [] := by
  cases l with
  | nil => simp [cutAt]
  | cons b l => unfold cutAt; split <;> (try split) <;> simp
theorem cut_none {x : UInt8} : ∀ l : B, (∀ y ∈ l, y ≠ x) → cutAt x l = [l]
  | [], _ => rfl
  | b :: l, h => by
    rw [cutAt, if_neg (h b (by simp)), cut_none l (fun y hy => h y (by simp [hy]))]
theorem cut_at {x : UInt8} : ∀ (p l : B), (∀ y ∈ p, y ≠ x) → cutAt x (p ++ x :: l) = p :: cutAt x l
  | [], l, _ => by rw [List.nil_append, cutAt, if_pos rfl]
  | b :: p, l, h => by
    rw [List.cons_append, cutAt, if_neg (h b (by simp)), cut_at p l (fun y hy => h y (by simp [hy]))]
theorem cut_no {x : UInt8} : ∀ (l p : B), p ∈ cutAt x l → ∀ y ∈ p, y ≠ x
  | [], p, h, y, hy => by simp [cutAt] at h; subst h; simp at hy
  | b :: l, p, h, y, hy => by
    unfold cutAt at h
    split at h
    · rcases List.mem_cons.1 h with rfl | h
      · simp at hy
      · exact cut_no l p h y hy
    · rename_i hb
      split at h
      · simp at h
        subst h
        simp at hy
        rw [hy]
        exact hb
      · rename_i q r hq
        rcases List.mem_cons.1 h with rfl | h
        · rcases List.mem_cons.1 hy with rfl | hy
          · exact hb
          · exact cut_no l q (by rw [hq]; simp) y hy
        · exact cut_no l p (by rw [hq]; simp [h]) y hy
/-- Pieces that have no slash. -/
def Whole (l : List B) : Prop := ∀ s ∈ l, ∀ y ∈ s, y ≠ (47 : UInt8)
theorem cut_join : ∀ (l : List B) (a : B), (∀ y ∈ a, y ≠ (47 : UInt8)) → Whole l → cutAt 47 (a ++ joinS l) = a :: l
  | [], a, ha, _ => by simp only [joinS, List.flatMap_nil, List.append_nil]; exact cut_none a ha
  | s :: l, a, ha, hl => by
    have ih := cut_join l s (hl s (by simp)) (fun t ht => hl t (by simp [ht]))
    simp only [joinS, List.flatMap_cons, List.cons_append] at ih ⊢
    rw [cut_at a _ ha, ih]
theorem segs_join {l : List B} (h : Whole l) : segs (joinS l) = l := by
  have := cut_join l [] (by simp) h
  rw [List.nil_append] at this
  unfold segs
  rw [this]
  rfl
theorem join_segs : ∀ l : B, ∃ a, cutAt 47 l = a :: segs l ∧ l = a ++ joinS (segs l)
  | [] => ⟨[], rfl, rfl⟩
  | b :: l => by
    obtain ⟨a, h1, h2⟩ := join_segs l
    by_cases hb : b = 47
    · subst hb
      have e : segs (47 :: l) = cutAt 47 l := by unfold segs; rw [cutAt, if_pos rfl]; rfl
      refine ⟨[], by rw [e, cutAt, if_pos rfl], ?_⟩
      rw [e, h1]
      simp only [joinS, List.flatMap_cons, List.nil_append, List.cons_append]
      rw [← joinS, ← h2]
    · have e : cutAt 47 (b :: l) = (b :: a) :: segs l := by rw [cutAt, if_neg hb, h1]
      have e2 : segs (b :: l) = segs l := by
        show (cutAt 47 (b :: l)).tail = segs l
        rw [e]
        rfl
      exact ⟨b :: a, by rw [e2]; exact e, by rw [e2, List.cons_append, ← h2]⟩
theorem segs_whole (l : B) : Whole (segs l) := fun s hs => cut_no l s (List.mem_of_mem_tail hs)
theorem join_app (a b : List B) : joinS (a ++ b) = joinS a ++ joinS b := by simp [joinS]
theorem slash_clean : Clean [47] := .ch (.inr rfl) .nil
/-- A piece of a clean text is clean. -/
theorem clean_split {m : B} (h : Clean m) : ∀ (a b : B), m = a ++ 47 :: b → Clean a ∧ Clean b := by
  induction h with
  | nil => intro a b e; cases a <;> simp at e
  | @ch c l hc hl ih =>
    intro a b e
    cases a with
    | nil =>
      simp only [List.nil_append, List.cons.injEq] at e
      rw [← e.2]
      exact ⟨.nil, hl⟩
    | cons d a =>
      simp only [List.cons_append, List.cons.injEq] at e
      obtain ⟨h1, h2⟩ := ih a b e.2
      rw [← e.1]
      exact ⟨.ch hc h1, h2⟩
  | @cd v l hu h1 h2 hl ih =>
    intro a b e
    have hv : v.toNat < 256 := v.toNat_lt
    obtain ⟨g1, g2⟩ := (great_small ⟨v.toNat / 16, by omega⟩)
    obtain ⟨g3, g4⟩ := (great_small ⟨v.toNat % 16, by omega⟩)
    have e' : (37 : UInt8) :: greatD (v.toNat / 16) :: greatD (v.toNat % 16) :: l = a ++ 47 :: b := e
    cases a with
    | nil => simp at e'
    | cons a0 a =>
      simp only [List.cons_append, List.cons.injEq] at e'
      obtain ⟨rfl, e'⟩ := e'
      cases a with
      | nil => simp at e'; exact absurd e'.1 g2.1
      | cons a1 a =>
        simp only [List.cons_append, List.cons.injEq] at e'
        obtain ⟨rfl, e'⟩ := e'
        cases a with
        | nil => simp at e'; exact absurd e'.1 g4.1
        | cons a2 a =>
          simp only [List.cons_append, List.cons.injEq] at e'
          obtain ⟨rfl, e'⟩ := e'
          obtain ⟨i1, i2⟩ := ih a b e'
          exact ⟨.cd hu h1 h2 i1, i2⟩
theorem clean_join : ∀ (l : List B) (a : B), Clean (a ++ joinS l) → Whole l → (∀ s ∈ l, Clean s) ∧ Clean a
  | [], a, h, _ => by simpa [joinS] using h
  | s :: l, a, h, hw => by
    simp only [joinS, List.flatMap_cons, List.cons_append] at h
    obtain ⟨h1, h2⟩ := clean_split h a _ rfl
    obtain ⟨h3, h4⟩ := clean_join l s h2 (fun t ht => hw t (by simp [ht]))
    refine ⟨fun t ht => ?_, h1⟩
    rcases List.mem_cons.1 ht with rfl | ht
    · exact h4
    · exact h3 t ht
theorem join_clean : ∀ l : List B, (∀ s ∈ l, Clean s) → Clean (joinS l)
  | [], _ => .nil
  | s :: l, h => by
    simp only [joinS, List.flatMap_cons, List.cons_append]
    exact .ch (.inr rfl) ((h s (by simp)).append (join_clean l fun t ht => h t (by simp [ht])))
/-! ### Dot segments -/
def NoDot (l : List B) : Prop := ∀ s ∈ l, s ≠ [46] ∧ s ≠ [46, 46]
theorem dots_none : ∀ (l out : List B), NoDot l → dotsL l out = some (out ++ l)
  | [], out, _ => by simp [dotsL]
  | s :: r, out, h => by
    have hs := h s (by simp)
    rw [dotsL, if_neg hs.1, if_neg hs.2, dots_none r _ (fun t ht => h t (by simp [ht]))]
    simp
theorem dots_out (P : B → Prop) (h0 : P []) : ∀ (l out o : List B), dotsL l out = some o → (∀ s ∈ l, s ≠ [46] → s ≠ [46, 46] → P s) → (∀ s ∈ out, P s) → (∀ s ∈ o, P s) ∧ (l ≠ [] ∨ out ≠ [] → o ≠ [])
  | [], out, o, h, _, ho => by
    simp only [dotsL, Option.some.injEq] at h
    subst h
    exact ⟨ho, fun q => q.resolve_left (by simp)⟩
  | s :: r, out, o, h, hl, ho => by
    have last : ∀ x : List B, (∀ s ∈ x, P s) → (∀ s ∈ x ++ [[]], P s) := fun x hx s hs => by
      rcases List.mem_append.1 hs with hs | hs
      · exact hx s hs
      · simp at hs
        rw [hs]
        exact h0
    have drop : ∀ s ∈ out.dropLast, P s := fun s hs => ho s (List.dropLast_subset _ hs)
    rw [dotsL] at h
    split at h
    · split at h
      · simp only [Option.some.injEq] at h
        subst h
        exact ⟨last _ ho, fun _ => by simp⟩
      · rename_i hr
        obtain ⟨a1, a2⟩ := dots_out P h0 r out o h (fun t ht => hl t (by simp [ht])) ho
        exact ⟨a1, fun _ => a2 (.inl hr)⟩
    · rename_i hs1
      split at h
      · split at h
        · cases h
        · split at h
          · simp only [Option.some.injEq] at h
            subst h
            exact ⟨last _ drop, fun _ => by simp⟩
          · rename_i hr
            obtain ⟨a1, a2⟩ := dots_out P h0 r _ o h (fun t ht => hl t (by simp [ht])) drop
            exact ⟨a1, fun _ => a2 (.inl hr)⟩
      · rename_i hs2
        obtain ⟨a1, a2⟩ := dots_out P h0 r _ o h (fun t ht => hl t (by simp [ht])) (fun t ht => by
          rcases List.mem_append.1 ht with ht | ht
          · exact ho t ht
          · simp at ht
            rw [ht]
            exact hl s (by simp) hs1 hs2)
        exact ⟨a1, fun _ => a2 (.inr (by simp))⟩
/-- What Normal answers: slashes and clean pieces, none of them dots. -/
structure Meant (s : B) (o : List B) : Prop where
  eq : s = joinS o
  ne : o ≠ []
  clean : ∀ t ∈ o, Clean t
  whole : Whole o
  nodot : NoDot o
theorem normal_meant {p s : B} (h : normalB p = some s) : ∃ o, Meant s o := by
  unfold normalB at h
  split at h
  · rename_i hp
    cases hd : dotsL (segs (meantB p)) [] with
    | none => rw [hd] at h; cases h
    | some o =>
      rw [hd] at h
      simp only [Option.map_some, Option.some.injEq] at h
      simp only [isPath, Bool.and_eq_true, decide_eq_true_eq] at hp
      have hm := clean_meant p hp.2
      obtain ⟨a, ha1, ha2⟩ := join_segs (meantB p)
      have hw := segs_whole (meantB p)
      have hc : ∀ t ∈ segs (meantB p), Clean t := by
        have : Clean (a ++ joinS (segs (meantB p))) := by rw [← ha2]; exact hm
        exact (clean_join _ a this hw).1
      have hne : segs (meantB p) ≠ [] := by
        cases p with
        | nil => simp at hp
        | cons c l =>
          simp only [List.head?_cons, Option.some.injEq] at hp
          obtain ⟨rfl, _⟩ := hp
          rw [meant_cons (by decide)]
          show (cutAt 47 (47 :: meantB l)).tail ≠ []
          rw [cutAt, if_pos rfl]
          exact cut_ne 47 _
      obtain ⟨h1, h2⟩ := dots_out (fun t => Clean t ∧ (∀ y ∈ t, y ≠ (47 : UInt8)) ∧ t ≠ [46] ∧ t ≠ [46, 46]) ⟨.nil, by simp, by simp, by simp⟩ _ _ _ hd (fun t ht e1 e2 => ⟨hc t ht, hw t ht, e1, e2⟩) (by simp)
      exact ⟨o, h.symm, h2 (.inl hne), fun t ht => (h1 t ht).1, fun t ht => (h1 t ht).2.1, fun t ht => (h1 t ht).2.2⟩
  · cases h
theorem Meant.path {s : B} {o : List B} (h : Meant s o) : isPath s = true := by
  have hc := join_clean o h.clean
  rw [← h.eq] at hc
  unfold isPath
  rw [hc.made]
  obtain ⟨t, r, rfl⟩ : ∃ t r, o = t :: r := by
    cases o with
    | nil => exact absurd rfl h.ne
    | cons t r => exact ⟨t, r, rfl⟩
  rw [h.eq]
  simp [joinS]
theorem Meant.normal {s : B} {o : List B} (h : Meant s o) : normalB s = some s := by
  have hc := join_clean o h.clean
  rw [← h.eq] at hc
  unfold normalB
  rw [if_pos h.path, hc.meant]
  conv => lhs; rw [h.eq]
  rw [segs_join h.whole, dots_none o [] h.nodot, List.nil_append, Option.map_some, ← h.eq]
/-- Normal of Normal is it. -/
theorem normal_twice {p s : B} (h : normalB p = some s) : normalB s = some s := by
  obtain ⟨o, ho⟩ := normal_meant h
  exact ho.normal
theorem Meant.segs {s : B} {o : List B} (h : Meant s o) : Go.Proofs.YtbdbmlklijmefaaDoor.segs s = o := by rw [h.eq]; exact segs_join h.whole
/-- Where a code begins in what is meant. -/
theorem clean_code {m : B} (h : Clean m) : ∀ (a b : B), m = a ++ 37 :: b → ∃ v r, b = greatD (v.toNat / 16) :: greatD (v.toNat % 16) :: r ∧ unres v = false := by
  induction h with
  | nil => intro a b e; cases a <;> simp at e
  | @ch c l hc hl ih =>
    intro a b e
    cases a with
    | nil =>
      simp only [List.nil_append, List.cons.injEq] at e
      exact absurd e.1 (ch_ne hc)
    | cons d a =>
      simp only [List.cons_append, List.cons.injEq] at e
      exact ih a b e.2
  | @cd v l hu h1 h2 hl ih =>
    intro a b e
    have hv : v.toNat < 256 := v.toNat_lt
    obtain ⟨g1, g2⟩ := (great_small ⟨v.toNat / 16, by omega⟩)
    obtain ⟨g3, g4⟩ := (great_small ⟨v.toNat % 16, by omega⟩)
    have e' : (37 : UInt8) :: greatD (v.toNat / 16) :: greatD (v.toNat % 16) :: l = a ++ 37 :: b := e
    cases a with
    | nil =>
      simp only [List.nil_append, List.cons.injEq, true_and] at e'
      exact ⟨v, l, e'.symm, hu⟩
    | cons a0 a =>
      simp only [List.cons_append, List.cons.injEq] at e'
      obtain ⟨rfl, e'⟩ := e'
      cases a with
      | nil => simp at e'; exact absurd e'.1 g2.2
      | cons a1 a =>
        simp only [List.cons_append, List.cons.injEq] at e'
        obtain ⟨rfl, e'⟩ := e'
        cases a with
        | nil => simp at e'; exact absurd e'.1 g4.2
        | cons a2 a =>
          simp only [List.cons_append, List.cons.injEq] at e'
          obtain ⟨rfl, e'⟩ := e'
          exact ih a b e'
/-! ### Dot segments laid into what is meant -/
theorem dots_app : ∀ (l r out : List B), NoDot l → dotsL (l ++ r) out = dotsL r (out ++ l)
  | [], r, out, _ => by simp
  | s :: l, r, out, h => by
    have hs := h s (by simp)
    rw [List.cons_append, dotsL, if_neg hs.1, if_neg hs.2, dots_app l r _ (fun t ht => h t (by simp [ht]))]
    simp
theorem meant_at : ∀ (o : List B) (a b : B), Whole o → joinS o = a ++ 47 :: b → ∃ o1 o2, o = o1 ++ o2 ∧ o2 ≠ [] ∧ a = joinS o1 ∧ 47 :: b = joinS o2
  | [], a, b, _, e => by cases a <;> simp [joinS] at e
  | s :: o, a, b, hw, e => by
    simp only [joinS, List.flatMap_cons, List.cons_append] at e
    rw [← joinS] at e
    cases a with
    | nil => exact ⟨[], s :: o, rfl, by simp, rfl, by simp only [List.nil_append] at e; rw [← e]; simp [joinS]⟩
    | cons a0 a =>
      simp only [List.cons_append, List.cons.injEq] at e
      obtain ⟨rfl, e⟩ := e
      have hs : ∀ y ∈ s, y ≠ (47 : UInt8) := hw s (by simp)
      have key : ∀ (s a : B), (∀ y ∈ s, y ≠ (47 : UInt8)) → s ++ joinS o = a ++ 47 :: b → ∃ a', a = s ++ a' ∧ joinS o = a' ++ 47 :: b := by
        intro s
        induction s with
        | nil => intro a _ e; exact ⟨a, rfl, e⟩
        | cons c s ih =>
          intro a h e
          cases a with
          | nil =>
            simp only [List.cons_append, List.nil_append, List.cons.injEq] at e
            exact absurd e.1 (h c (by simp))
          | cons d a =>
            simp only [List.cons_append, List.cons.injEq] at e
            obtain ⟨a', h1, h2⟩ := ih a (fun y hy => h y (by simp [hy])) e.2
            exact ⟨a', by rw [h1, e.1]; rfl, h2⟩
      obtain ⟨a', h1, h2⟩ := key s a hs e
      obtain ⟨o1, o2, e1, e2, e3, e4⟩ := meant_at o a' b (fun t ht => hw t (by simp [ht])) h2
      exact ⟨s :: o1, o2, by rw [e1]; rfl, e2, by rw [h1, e3]; simp [joinS], e4⟩
/-- One dot, or a segment and two dots (one of them a code), laid ahead of a slash change nothing. -/
theorem laid_dot {s a b : B} {o : List B} (h : Meant s o) (e : s = a ++ 47 :: b) : normalB (a ++ [47, 46] ++ 47 :: b) = some s := by
  rw [h.eq] at e
  obtain ⟨o1, o2, rfl, e2, rfl, e4⟩ := meant_at o a b h.whole e
  rw [e4]
  have c1 : Clean (joinS o1) := join_clean o1 fun t ht => h.clean t (by simp [ht])
  have c2 : Clean (joinS o2) := join_clean o2 fun t ht => h.clean t (by simp [ht])
  have cd : Clean [47, 46] := .ch (.inr rfl) (.ch (.inl (by decide)) .nil)
  have cl := (c1.append cd).append c2
  have ej : joinS o1 ++ [47, 46] ++ joinS o2 = joinS (o1 ++ [[46]] ++ o2) := by rw [join_app, join_app]; simp [joinS]
  have hw : Whole (o1 ++ [[46]] ++ o2) := by
    intro t ht
    simp only [List.mem_append, List.mem_singleton] at ht
    rcases ht with (ht | rfl) | ht
    · exact h.whole t (by simp [ht])
    · decide
    · exact h.whole t (by simp [ht])
  have hp : isPath (joinS o1 ++ [47, 46] ++ joinS o2) = true := by
    unfold isPath
    rw [cl.made]
    cases o1 with
    | nil => simp [joinS]
    | cons t r => simp [joinS]
  unfold normalB
  rw [if_pos hp, cl.meant, ej, segs_join hw, List.append_assoc, dots_app o1 _ _ (fun t ht => h.nodot t (by simp [ht])), List.nil_append]
  rw [List.singleton_append, dotsL, if_pos rfl, if_neg e2, dots_none o2 _ (fun t ht => h.nodot t (by simp [ht])), Option.map_some, h.eq]
theorem laid_two {s a b : B} {o : List B} (h : Meant s o) (e : s = a ++ 47 :: b) : normalB (a ++ [47, 120, 47, 37, 50, 69, 46] ++ 47 :: b) = some s := by
  rw [h.eq] at e
  obtain ⟨o1, o2, rfl, e2, rfl, e4⟩ := meant_at o a b h.whole e
  rw [e4]
  have c1 : Clean (joinS o1) := join_clean o1 fun t ht => h.clean t (by simp [ht])
  have c2 : Clean (joinS o2) := join_clean o2 fun t ht => h.clean t (by simp [ht])
  have m2 := clean_made c2 []
  rw [List.append_nil] at m2
  have step : ∀ l : B, made [47] true ([47, 120, 47, 37, 50, 69, 46] ++ l) = made [47] true l ∧ meantB ([47, 120, 47, 37, 50, 69, 46] ++ l) = [47, 120, 47, 46, 46] ++ meantB l := by
    intro l
    have e1 : ([47, 120, 47, 37, 50, 69, 46] : B) ++ l = 47 :: 120 :: 47 :: (codeB 46 ++ (46 :: l)) := rfl
    rw [e1, made_cons (by decide), made_cons (by decide), made_cons (by decide), made_code (by decide) (by decide), made_cons (by decide)]
    rw [meant_cons (by decide), meant_cons (by decide), meant_cons (by decide), meant_code, meant_cons (by decide)]
    exact ⟨rfl, rfl⟩
  have hm1 := clean_made c1 ([47, 120, 47, 37, 50, 69, 46] ++ joinS o2)
  rw [(step (joinS o2)).1, (step (joinS o2)).2, c2.made, c2.meant] at hm1
  rw [List.append_assoc]
  have ej : joinS o1 ++ ([47, 120, 47, 46, 46] ++ joinS o2) = joinS (o1 ++ ([[120]] ++ ([[46, 46]] ++ o2))) := by rw [join_app, join_app, join_app]; simp [joinS]
  have hw : Whole (o1 ++ ([[120]] ++ ([[46, 46]] ++ o2))) := by
    intro t ht
    simp only [List.mem_append, List.mem_singleton] at ht
    rcases ht with ht | rfl | rfl | ht
    · exact h.whole t (by simp [ht])
    · decide
    · decide
    · exact h.whole t (by simp [ht])
  have hp : isPath (joinS o1 ++ ([47, 120, 47, 37, 50, 69, 46] ++ joinS o2)) = true := by
    unfold isPath
    rw [hm1.1]
    cases o1 with
    | nil => simp [joinS]
    | cons t r => simp [joinS]
  unfold normalB
  rw [if_pos hp, hm1.2, ej, segs_join hw, dots_app o1 _ _ (fun t ht => h.nodot t (by simp [ht])), List.nil_append]
  rw [List.singleton_append, dotsL, if_neg (by decide), if_neg (by decide), List.singleton_append, dotsL, if_neg (by decide), if_pos rfl, if_neg (by simp), if_neg e2, List.dropLast_concat]
  rw [dots_none o2 _ (fun t ht => h.nodot t (by simp [ht])), Option.map_some, h.eq]
/-! ### Targets -/
theorem all256 {P : UInt8 → Prop} (h : ∀ n : Fin 256, P (UInt8.ofNat n.1)) (c : UInt8) : P c := by
  have := h ⟨c.toNat, c.toNat_lt⟩
  rwa [show UInt8.ofNat c.toNat = c from UInt8.ofNat_toNat] at this
def smallC (c : UInt8) : UInt8 := if 65 ≤ c ∧ c ≤ 90 then c + 32 else c
def smallB (s : B) : B := s.map smallC
def hostB (c : UInt8) : Bool := letterB c || ([45, 46, 95, 58] : B).contains c
/-- What stands ahead of the first x, behind it, and whether there is one. -/
def cutF (x : UInt8) : B → B × B × Bool
  | [] => ([], [], false)
  | c :: l => if c = x then ([], l, true) else (c :: (cutF x l).1, (cutF x l).2.1, (cutF x l).2.2)
structure TG where
  form : Int
  host : B
  path : B
  query : B
  has : Bool
deriving DecidableEq
def TG.zero : TG := ⟨0, [], [], [], false⟩
def pathOf (f : Int) (p : B) : B := if p = [] ∧ f = 2 then [47] else p
def behindB (f : Int) (h s : B) : TG × Nat :=
  if isPath (pathOf f (cutF 63 s).1) = false ∨ isQuery (cutF 63 s).2.1 = false then (TG.zero, 23) else (⟨f, h, pathOf f (cutF 63 s).1, (cutF 63 s).2.1, (cutF 63 s).2.2⟩, 0)
def httpB : B := [104, 116, 116, 112, 58, 47, 47]
def parseT (s : B) : TG × Nat :=
  if 65536 < s.length then (TG.zero, 2)
  else if s = [42] then (⟨3, [], [], [], false⟩, 0)
  else if s.head? = some 47 then behindB 1 [] s
  else if s.length < 7 ∨ smallB (s.take 7) ≠ httpB then (TG.zero, 23)
  else if ((s.drop 7).takeWhile hostB).length < 1 ∨ 255 < ((s.drop 7).takeWhile hostB).length then (TG.zero, 23)
  else behindB 2 (smallB ((s.drop 7).takeWhile hostB)) ((s.drop 7).dropWhile hostB)
/-- The shortest text of a target's parts, if they are any's. -/
def tellT (t : TG) : B := (if t.form = 3 then [42] else if t.form = 1 then t.path else if t.form = 2 then httpB ++ t.host ++ (if t.path ≠ [47] then t.path else []) else []) ++ (if t.has then 63 :: t.query else [])
def textT (t : TG) : B × Nat := if (parseT (tellT t)).2 ≠ 0 ∨ (parseT (tellT t)).1 ≠ t then ([], 23) else (tellT t, 0)
theorem cutF_no {x : UInt8} : ∀ p : B, (∀ y ∈ p, y ≠ x) → cutF x p = (p, [], false)
  | [], _ => rfl
  | c :: l, h => by rw [cutF, if_neg (h c (by simp)), cutF_no l (fun y hy => h y (by simp [hy]))]
theorem cutF_at {x : UInt8} : ∀ (p q : B), (∀ y ∈ p, y ≠ x) → cutF x (p ++ x :: q) = (p, q, true)
  | [], q, _ => by rw [List.nil_append, cutF, if_pos rfl]
  | c :: l, q, h => by rw [List.cons_append, cutF, if_neg (h c (by simp)), cutF_at l q (fun y hy => h y (by simp [hy]))]
theorem cutF_spec (x : UInt8) : ∀ s : B, (∀ y ∈ (cutF x s).1, y ≠ x) ∧ s = (cutF x s).1 ++ (if (cutF x s).2.2 then x :: (cutF x s).2.1 else []) ∧ ((cutF x s).2.2 = false → (cutF x s).2.1 = [])
  | [] => by simp [cutF]
  | c :: l => by
    obtain ⟨h1, h2, h3⟩ := cutF_spec x l
    by_cases hc : c = x
    · rw [cutF, if_pos hc, hc]
      simp
    · rw [cutF, if_neg hc]
      refine ⟨fun y hy => ?_, ?_, h3⟩
      · rcases List.mem_cons.1 hy with rfl | hy
        · exact hc
        · exact h1 y hy
      · simp only [List.cons_append]
        rw [← h2]
/-- What is laid together is cut again. -/
theorem cutF_join {x : UInt8} {p q : B} {h : Bool} (hp : ∀ y ∈ p, y ≠ x) (hq : h = false → q = []) : cutF x (p ++ (if h then x :: q else [])) = (p, q, h) := by
  cases h with
  | true => exact cutF_at p q hp
  | false =>
    rw [hq rfl]
    simpa using cutF_no p hp
theorem plain_63 : plainB 63 = false := by decide
theorem made_no : ∀ s : B, made [47] true s = true → ∀ y ∈ s, y ≠ (63 : UInt8)
  | [], _, y, hy => by simp at hy
  | [c], h, y, hy => by
    simp only [made] at h
    simp at hy
    rintro rfl
    subst hy
    revert h
    decide
  | [c, d], h, y, hy => by
    simp only [made, Bool.and_eq_true] at h
    rintro rfl
    simp at hy
    rcases hy with rfl | rfl
    · have := h.1; revert this; decide
    · have := h.2; revert this; decide
  | c :: a :: b :: r, h, y, hy => by
    rw [made] at h
    split at h
    · rename_i hc
      rcases List.mem_cons.1 hy with rfl | hy
      · rintro rfl
        revert hc
        decide
      · exact made_no (a :: b :: r) h y hy
    · cases hv : codeOf c a b with
      | none => rw [hv] at h; cases h
      | some v =>
        rw [hv] at h
        simp only at h
        split at h
        · cases h
        · have hx : ∀ z : UInt8, hexN z ≠ none → z ≠ 63 := fun z hz e => hz (by rw [e]; decide)
          unfold codeOf at hv
          split at hv
          · rename_i h37
            have ha : hexN a ≠ none := fun e => by rw [e] at hv; cases hv
            have hb : hexN b ≠ none := fun e => by
              rw [e] at hv
              cases h2 : hexN a with
              | none => rw [h2] at hv; cases hv
              | some z => rw [h2] at hv; cases hv
            rcases List.mem_cons.1 hy with rfl | hy
            · rw [h37]; decide
            · rcases List.mem_cons.1 hy with rfl | hy
              · exact hx _ ha
              · rcases List.mem_cons.1 hy with rfl | hy
                · exact hx _ hb
                · exact made_no r h y hy
          · cases hv
theorem path_no {s : B} (h : isPath s = true) : ∀ y ∈ s, y ≠ (63 : UInt8) := by
  simp only [isPath, Bool.and_eq_true] at h
  exact made_no s h.2
set_option maxRecDepth 20000 in
theorem small_small (c : UInt8) : smallC (smallC c) = smallC c := all256 (P := fun c => smallC (smallC c) = smallC c) (by decide) c
set_option maxRecDepth 20000 in
theorem small_host (c : UInt8) : hostB c = true → hostB (smallC c) = true := all256 (P := fun c => hostB c = true → hostB (smallC c) = true) (by decide) c
theorem smallB_twice (s : B) : smallB (smallB s) = smallB s := by
  unfold smallB
  rw [List.map_map]
  exact List.map_congr_left fun c _ => small_small c
/-- What behind reads of what it told. -/
theorem behind_again {f : Int} {h s : B} {t : TG} (hb : behindB f h s = (t, 0)) : t.form = f ∧ t.host = h ∧ isPath t.path = true ∧ isQuery t.query = true ∧ (t.has = false → t.query = []) ∧ (∃ p, s = p ++ (if t.has then 63 :: t.query else []) ∧ t.path = if p = [] ∧ f = 2 then [47] else p) := by
  obtain ⟨h1, h2, h3⟩ := cutF_spec 63 s
  unfold behindB at hb
  split at hb
  · simp at hb
  · rename_i hn
    simp only [Prod.mk.injEq, and_true] at hb
    subst hb
    simp only [not_or, Bool.not_eq_false] at hn
    exact ⟨rfl, rfl, hn.1, hn.2, h3, (cutF 63 s).1, h2, rfl⟩
theorem behind_tell {f : Int} {h p q : B} {hs : Bool} {path : B} (hp : isPath path = true) (hq : isQuery q = true) (he : hs = false → q = []) (hpp : path = if p = [] ∧ f = 2 then [47] else p) (hno : ∀ y ∈ p, y ≠ (63 : UInt8)) : behindB f h (p ++ (if hs then 63 :: q else [])) = (⟨f, h, path, q, hs⟩, 0) := by
  unfold behindB
  rw [cutF_join hno he]
  show (if isPath (pathOf f p) = false ∨ isQuery q = false then (TG.zero, 23) else (⟨f, h, pathOf f p, q, hs⟩, 0)) = _
  rw [show pathOf f p = path from hpp.symm, hp, hq]
  simp
theorem take_while_app {f : UInt8 → Bool} : ∀ (a b : B), (∀ y ∈ a, f y = true) → (∀ y, b.head? = some y → f y = false) → (a ++ b).takeWhile f = a ∧ (a ++ b).dropWhile f = b
  | [], b, _, hb => by
    cases b with
    | nil => exact ⟨rfl, rfl⟩
    | cons c l =>
      have := hb c rfl
      simp [this]
  | c :: a, b, ha, hb => by
    obtain ⟨h1, h2⟩ := take_while_app a b (fun y hy => ha y (by simp [hy])) hb
    have := ha c (by simp)
    simp [this, h1, h2]
theorem httpB_len : httpB.length = 7 := rfl
/-- What is told of a target's parts is read as them, and is no longer. -/
theorem tell_back {s : B} {t : TG} (h : parseT s = (t, 0)) : parseT (tellT t) = (t, 0) ∧ (tellT t).length ≤ s.length := by
  have h0 := h
  unfold parseT at h
  split at h
  · simp at h
  rename_i hlen
  split at h
  · rename_i hs
    simp only [Prod.mk.injEq, and_true] at h
    subst h
    subst hs
    exact ⟨by decide, by decide⟩
  rename_i hstar
  split at h
  · rename_i h47
    obtain ⟨e1, e2, e3, e4, e5, p, e6, e7⟩ := behind_again h
    have hpp : t.path = p := by rw [e7, if_neg (by simp)]
    have hu : tellT t = s := by
      unfold tellT
      rw [e1, e6, hpp]
      simp
    rw [hu]
    exact ⟨h0, Nat.le_refl _⟩
  rename_i h47
  split at h
  · simp at h
  rename_i hhead
  split at h
  · simp at h
  rename_i hhost
  obtain ⟨e1, e2, e3, e4, e5, p, e6, e7⟩ := behind_again h
  simp only [not_or, Nat.not_lt] at hhead hhost
  have hall : ∀ y ∈ t.host, hostB y = true := by
    rw [e2]
    intro y hy
    obtain ⟨z, hz, rfl⟩ := List.mem_map.1 hy
    exact small_host z (List.all_eq_true.1 List.all_takeWhile z hz)
  have hhl : t.host.length = ((s.drop 7).takeWhile hostB).length := by rw [e2]; simp [smallB]
  have hno : ∀ y ∈ p, y ≠ (63 : UInt8) := by
    by_cases hp0 : p = []
    · rw [hp0]; simp
    · have := path_no e3
      rw [e7, if_neg (fun q => hp0 q.1)] at this
      exact this
  -- the path that is told
  obtain ⟨pp, hpp⟩ : ∃ pp, (if t.path ≠ [47] then t.path else []) = pp := ⟨_, rfl⟩
  have hpl : pp.length ≤ p.length := by
    rw [← hpp]
    split
    · rename_i hq
      rw [e7] at hq ⊢
      split at hq
      · exact absurd rfl hq
      · rename_i hr
        rw [if_neg hr]
        exact Nat.le_refl _
    · simp
  have hpt : t.path = if pp = [] ∧ (2 : Int) = 2 then [47] else pp := by
    rw [← hpp]
    by_cases hq : t.path = [47]
    · simp [hq]
    · have hne : t.path ≠ [] := fun e => by
        rw [e] at e3
        simp [isPath] at e3
      simp [hq, hne]
  have hppno : ∀ y ∈ pp, y ≠ (63 : UInt8) := by
    rw [← hpp]
    split
    · exact path_no e3
    · simp
  have hu : tellT t = httpB ++ (t.host ++ (pp ++ (if t.has then 63 :: t.query else []))) := by
    unfold tellT
    rw [e1, hpp]
    simp
  have hrest : ∀ y, (pp ++ (if t.has then 63 :: t.query else [])).head? = some y → hostB y = false := by
    intro y hy
    cases hpp2 : pp with
    | nil =>
      rw [hpp2] at hy
      cases ht : t.has with
      | true =>
        rw [ht] at hy
        simp at hy
        rw [← hy]
        decide
      | false =>
        rw [ht] at hy
        simp at hy
    | cons c l =>
      rw [hpp2] at hy
      simp at hy
      have hc : t.path = c :: l := by rw [hpt, hpp2]; simp
      rw [hc] at e3
      simp only [isPath, Bool.and_eq_true, decide_eq_true_eq, List.head?_cons, Option.some.injEq] at e3
      rw [← hy, e3.1]
      decide
  obtain ⟨tw, dw⟩ := take_while_app t.host _ hall hrest
  have hsl : s.length = 7 + (((s.drop 7).takeWhile hostB).length + (p.length + (if t.has then 63 :: t.query else []).length)) := by
    have a1 : s = s.take 7 ++ s.drop 7 := (List.take_append_drop 7 s).symm
    have a2 : s.drop 7 = (s.drop 7).takeWhile hostB ++ (s.drop 7).dropWhile hostB := (List.takeWhile_append_dropWhile).symm
    have l1 : (s.take 7).length = 7 := by rw [List.length_take]; omega
    have l2 := congrArg List.length a1
    have l3 := congrArg List.length a2
    have l4 := congrArg List.length e6
    rw [List.length_append] at l2 l3 l4
    omega
  have hul : (tellT t).length = 7 + (t.host.length + (pp.length + (if t.has then 63 :: t.query else []).length)) := by
    rw [hu]
    simp only [List.length_append, httpB_len]
  refine ⟨?_, by omega⟩
  unfold parseT
  rw [if_neg (by omega), if_neg (by rw [hu]; simp [httpB]), if_neg (by rw [hu]; simp [httpB])]
  have htake : (tellT t).take 7 = httpB := by rw [hu]; exact List.take_left' httpB_len
  have hdrop : (tellT t).drop 7 = t.host ++ (pp ++ (if t.has then 63 :: t.query else [])) := by rw [hu]; exact List.drop_left' httpB_len
  rw [htake, hdrop, tw, dw, if_neg (by simp only [not_or]; exact ⟨by omega, by decide⟩), if_neg (by rw [hhl]; simp only [not_or, Nat.not_lt]; exact hhost)]
  have hsm : smallB t.host = t.host := by rw [e2]; exact smallB_twice _
  rw [hsm, behind_tell e3 e4 e5 hpt hppno]
  have : t = ⟨2, t.host, t.path, t.query, t.has⟩ := by
    cases t
    simp only at e1
    simp [e1]
  rw [← this]
theorem text_back {s : B} {t : TG} (h : parseT s = (t, 0)) : textT t = (tellT t, 0) := by
  obtain ⟨h1, _⟩ := tell_back h
  unfold textT
  rw [h1]
  simp
end Go.Proofs.YtbdbmlklijmefaaDoor
