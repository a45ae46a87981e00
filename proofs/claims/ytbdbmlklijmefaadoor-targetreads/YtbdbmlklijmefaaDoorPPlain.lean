/- What the program computes of targets, as plain functions, and that it is the document's. -/
import Derived.Test.YtbdbmlklijmefaaDoorPlain
namespace Go.Proofs.YtbdbmlklijmefaaDoor

/-- Each code as its byte, what is none as it stands. -/
def decP : B → B
  | [] => []
  | [c] => [c]
  | [c, d] => [c, d]
  | c :: a :: b :: r => match codeOf c a b with
    | none => c :: decP (a :: b :: r)
    | some v => v :: decP r
theorem decP_of : ∀ (s d : B), decodeB s = some d → decP s = d
  | [], d, h => by simp only [decodeB, Option.some.injEq] at h; rw [← h]; rfl
  | [c], d, h => by
    simp only [decodeB] at h
    split at h
    · cases h
    · simp only [Option.some.injEq] at h; rw [← h]; rfl
  | [c, e], d, h => by
    simp only [decodeB] at h
    split at h
    · cases h
    · split at h
      · simp at h
      · simp only [Option.map_some, Option.some.injEq] at h; rw [← h]; rfl
  | c :: a :: b :: r, d, h => by
    rw [decodeB] at h
    rw [decP]
    by_cases hc : c = 37
    · rw [if_pos hc] at h
      cases hv : codeOf c a b with
      | none => rw [hv] at h; cases h
      | some v =>
        rw [hv] at h
        simp only at h ⊢
        cases hd : decodeB r with
        | none => rw [hd] at h; cases h
        | some d2 =>
          rw [hd] at h
          simp only [Option.map_some, Option.some.injEq] at h
          rw [decP_of r d2 hd, h]
    · rw [if_neg hc] at h
      rw [code_none hc]
      simp only
      cases hd : decodeB (a :: b :: r) with
      | none => rw [hd] at h; cases h
      | some d2 =>
        rw [hd] at h
        simp only [Option.map_some, Option.some.injEq] at h
        rw [decP_of (a :: b :: r) d2 hd, h]
/-- Made of plain bytes and of codes of bytes that may stand in codes. -/
def madeP (p q : UInt8 → Bool) : B → Bool
  | [] => true
  | [c] => decide (c ≠ 37) && p c
  | [c, d] => decide (c ≠ 37) && p c && (decide (d ≠ 37) && p d)
  | c :: a :: b :: r => if c = 37 then (match codeOf c a b with
    | none => false
    | some v => q v && madeP p q r) else p c && madeP p q (a :: b :: r)
def softC (c : UInt8) : Bool := decide (32 ≤ c) && decide (c ≠ 127)
def anyC (_ : UInt8) : Bool := true
def inPathC (c : UInt8) : Bool := c == 47 || plainB c
def inQueryC (c : UInt8) : Bool := c == 63 || inPathC c
theorem inPath_eq (c : UInt8) : inPathC c = (plainB c || ([47] : B).contains c) := by
  unfold inPathC
  rw [Bool.or_comm]
  simp only [List.contains_cons, List.contains_nil, Bool.or_false]
theorem inQuery_eq (c : UInt8) : inQueryC c = (plainB c || ([47, 63] : B).contains c) := by
  unfold inQueryC inPathC
  simp only [List.contains_cons, List.contains_nil, Bool.or_false]
  cases plainB c <;> cases (c == 47) <;> cases (c == 63) <;> rfl
theorem in37 (o : B) (h : o.contains 37 = false) : (plainB 37 || o.contains 37) = false := by rw [h]; decide
theorem made_is {p q : UInt8 → Bool} {o : B} {soft : Bool} (hp : ∀ c, p c = (plainB c || o.contains c)) (ho : o.contains 37 = false) (hq : ∀ v, q v = !(soft && (decide (v < 32) || v == 127))) : ∀ s : B, madeP p q s = made o soft s
  | [] => rfl
  | [c] => by
    simp only [madeP, made]
    rw [hp]
    by_cases hc : c = 37
    · rw [hc, in37 o ho]; simp
    · simp [hc]
  | [c, d] => by
    simp only [madeP, made]
    rw [hp, hp]
    by_cases hc : c = 37
    · rw [hc, in37 o ho]; simp
    · by_cases hd : d = 37
      · rw [hd, in37 o ho]; simp
      · simp [hc, hd]
  | c :: a :: b :: r => by
    rw [madeP, made]
    by_cases hc : c = 37
    · rw [if_pos hc, if_neg (by rw [hc, in37 o ho]; simp)]
      cases hv : codeOf c a b with
      | none => rfl
      | some v =>
        simp only
        rw [hq, made_is hp ho hq r]
        cases (soft && (decide (v < 32) || v == 127)) <;> rfl
    · rw [if_neg hc, hp, made_is hp ho hq (a :: b :: r)]
      by_cases h : (plainB c || o.contains c) = true
      · rw [if_pos h, h]; rfl
      · rw [if_neg h, code_none hc]
        rw [Bool.not_eq_true] at h
        rw [h]; rfl
theorem path_made (s : B) : madeP inPathC softC s = made [47] true s := by
  refine made_is inPath_eq (by decide) (fun v => ?_) s
  unfold softC
  rw [Bool.eq_iff_iff]
  simp only [Bool.and_eq_true, decide_eq_true_eq, Bool.not_eq_true', Bool.true_and, Bool.or_eq_false_iff, decide_eq_false_iff_not, beq_eq_false_iff_ne, ne_eq, UInt8.not_lt]
theorem query_made (s : B) : madeP inQueryC anyC s = isQuery s := made_is inQuery_eq (by decide) (fun v => by simp [anyC]) s
theorem any_made : ∀ s : B, madeP anyC anyC s = (decodeB s).isSome
  | [] => rfl
  | [c] => by by_cases h : c = 37 <;> simp [madeP, decodeB, anyC, h]
  | [c, d] => by by_cases h : c = 37 <;> by_cases g : d = 37 <;> simp [madeP, decodeB, anyC, h, g]
  | c :: a :: b :: r => by
    rw [madeP, decodeB]
    by_cases hc : c = 37
    · rw [if_pos hc, if_pos hc]
      cases hv : codeOf c a b with
      | none => rfl
      | some v =>
        simp only
        rw [any_made r]
        cases decodeB r <;> rfl
    · rw [if_neg hc, if_neg hc, any_made (a :: b :: r)]
      cases decodeB (a :: b :: r) <;> rfl
/-- What Decode answers. -/
theorem dec_two (s : B) : decodeB s = if madeP anyC anyC s then some (decP s) else none := by
  rw [any_made]
  cases h : decodeB s with
  | none => rfl
  | some d => rw [decP_of s d h]; rfl
/-- A piece of a made text is decoded softly as it is decoded. -/
theorem dec_get {s : B} (h : madeP anyC anyC s = true) : (decodeB s).getD [] = decP s := by rw [dec_two, if_pos h]; rfl
/-! ### Dots: what is left of the segments so far -/
/-- The segments still to come. -/
def toCome (rest : B) (more : Bool) : List B := if more then cutAt 47 rest else []
theorem come_cut (rest : B) : toCome rest true = (cutF 47 rest).1 :: toCome (cutF 47 rest).2.1 (cutF 47 rest).2.2 := by
  show cutAt 47 rest = _
  obtain ⟨h1, h2, h3⟩ := cutF_spec 47 rest
  cases h : (cutF 47 rest).2.2 with
  | true =>
    rw [h] at h2
    simp only [if_true] at h2
    conv => lhs; rw [h2]
    rw [cut_at _ _ h1]
    rfl
  | false =>
    rw [h] at h2
    simp only [Bool.false_eq_true, if_false, List.append_nil] at h2
    conv => lhs; rw [h2]
    rw [cut_none _ h1]
    rfl
theorem come_nil (rest : B) (more : Bool) : toCome rest more = [] ↔ more = false := by
  cases more with
  | true => simp [toCome, cut_ne]
  | false => simp [toCome]
theorem cutF_lens (x : UInt8) (s : B) : (cutF x s).1.length + (cutF x s).2.1.length ≤ s.length := by
  obtain ⟨h1, h2, h3⟩ := cutF_spec x s
  have := congrArg List.length h2
  rw [List.length_append] at this
  cases h : (cutF x s).2.2 with
  | true => rw [h] at this; simp at this; omega
  | false => rw [h3 h]; rw [h] at this; simp at this; simp; omega
theorem cutF_more (x : UInt8) (s : B) (h : (cutF x s).2.2 = true) : (cutF x s).2.1.length < s.length := by
  obtain ⟨h1, h2, h3⟩ := cutF_spec x s
  have := congrArg List.length h2
  rw [List.length_append, h] at this
  simp at this
  omega
/-! ### Targets: the program's way -/
/-- A path and a query. -/
def originT (s : B) : Option TG := if isPath (cutF 63 s).1 = false ∨ isQuery (cutF 63 s).2.1 = false then none else some ⟨1, [], (cutF 63 s).1, (cutF 63 s).2.1, (cutF 63 s).2.2⟩
def stopC (c : UInt8) : Bool := decide (c ≠ 47) && decide (c ≠ 63)
def isHostB (h : B) : Bool := h.all hostB && decide (h ≠ []) && decide (h.length ≤ 255)
def rooted (s : B) : B := if s.head? = some 47 then s else 47 :: s
def absoluteT (s : B) : Option TG :=
  if s.length < 7 ∨ smallB (s.take 7) ≠ httpB then none
  else if isHostB ((s.drop 7).takeWhile stopC) = false then none
  else (originT (rooted ((s.drop 7).dropWhile stopC))).map fun t => ⟨2, smallB ((s.drop 7).takeWhile stopC), t.path, t.query, t.has⟩
def parseP (s : B) : TG × Nat :=
  if 65536 < s.length then (TG.zero, 2)
  else if s = [42] then (⟨3, [], [], [], false⟩, 0)
  else match originT s with
    | some t => (t, 0)
    | none => match absoluteT s with
      | some t => (t, 0)
      | none => (TG.zero, 23)
theorem origin_is (s : B) : behindB 1 [] s = match originT s with | some t => (t, 0) | none => (TG.zero, 23) := by
  have hp : ∀ p : B, pathOf 1 p = p := fun p => by unfold pathOf; rw [if_neg (by simp)]
  unfold behindB originT
  rw [hp]
  split <;> rfl
theorem cut_head {s : B} (h : ¬ s.head? = some 47) : isPath (cutF 63 s).1 = false := by
  unfold isPath
  cases s with
  | nil => rfl
  | cons c l =>
    rw [cutF]
    split
    · rfl
    · rw [List.head?_cons, Option.some.injEq] at h
      simp [h]
theorem origin_no {s : B} (h : ¬ s.head? = some 47) : originT s = none := by
  unfold originT
  rw [if_pos (.inl (cut_head h))]
theorem slash_http {s : B} (h : s.head? = some 47) : absoluteT s = none := by
  unfold absoluteT
  rw [if_pos]
  right
  cases s with
  | nil => cases h
  | cons c l =>
    rw [List.head?_cons, Option.some.injEq] at h
    subst h
    intro e
    have := congrArg List.head? e
    simp [smallB, smallC, httpB] at this
set_option maxRecDepth 20000 in
theorem host_stop (c : UInt8) : hostB c = true → stopC c = true := all256 (P := fun c => hostB c = true → stopC c = true) (by decide) c
theorem tw_all {f g : UInt8 → Bool} (hfg : ∀ c, f c = true → g c = true) : ∀ s : B, (∀ y ∈ s.takeWhile g, f y = true) → s.takeWhile f = s.takeWhile g ∧ s.dropWhile f = s.dropWhile g
  | [], _ => ⟨rfl, rfl⟩
  | c :: l, h => by
    cases hg : g c with
    | true =>
      have hf : f c = true := h c (by rw [List.takeWhile_cons, if_pos hg]; simp)
      obtain ⟨h1, h2⟩ := tw_all hfg l (fun y hy => h y (by rw [List.takeWhile_cons, if_pos hg]; simp [hy]))
      rw [List.takeWhile_cons, if_pos hf, List.takeWhile_cons, if_pos hg, List.dropWhile_cons, if_pos hf, List.dropWhile_cons, if_pos hg, h1]
      exact ⟨rfl, h2⟩
    | false =>
      have hf : f c = false := by
        cases e : f c with
        | false => rfl
        | true => rw [hfg c e] at hg; cases hg
      rw [List.takeWhile_cons, if_neg (by rw [hf]; simp), List.takeWhile_cons, if_neg (by rw [hg]; simp), List.dropWhile_cons, if_neg (by rw [hf]; simp), List.dropWhile_cons, if_neg (by rw [hg]; simp)]
      exact ⟨rfl, rfl⟩
/-- Where a byte of the host is wrong, what stands behind the good ones begins with it. -/
theorem tw_bad {f g : UInt8 → Bool} : ∀ s : B, (s.takeWhile g).all f = false → ∃ z r, s.dropWhile f = z :: r ∧ f z = false ∧ g z = true
  | [], h => by simp at h
  | c :: l, h => by
    cases hg : g c with
    | false => rw [List.takeWhile_cons, if_neg (by rw [hg]; simp)] at h; simp at h
    | true =>
      rw [List.takeWhile_cons, if_pos hg] at h
      cases hf : f c with
      | false => exact ⟨c, l, by rw [List.dropWhile_cons, if_neg (by rw [hf]; simp)], hf, hg⟩
      | true =>
        rw [List.all_cons, hf, Bool.true_and] at h
        obtain ⟨z, r, e, h1, h2⟩ := tw_bad l h
        exact ⟨z, r, by rw [List.dropWhile_cons, if_pos hf]; exact e, h1, h2⟩
theorem dw_head {g : UInt8 → Bool} : ∀ (s : B) (z : UInt8) (r : B), s.dropWhile g = z :: r → g z = false
  | [], z, r, h => by cases h
  | c :: l, z, r, h => by
    cases hg : g c with
    | true => rw [List.dropWhile_cons, if_pos hg] at h; exact dw_head l z r h
    | false =>
      rw [List.dropWhile_cons, if_neg (by rw [hg]; simp)] at h
      cases h
      exact hg
theorem stop_cases {z : UInt8} (h : stopC z = false) : z = 47 ∨ z = 63 := by
  unfold stopC at h
  by_cases h1 : z = 47
  · exact .inl h1
  · by_cases h2 : z = 63
    · exact .inr h2
    · simp [h1, h2] at h
theorem rooted_is (h s : B) (hs : ∀ z r, s = z :: r → z = 47 ∨ z = 63) : behindB 2 h s = match originT (rooted s) with | some t => (⟨2, h, t.path, t.query, t.has⟩, 0) | none => (TG.zero, 23) := by
  have key : ∀ P Q : B, ∀ K : Bool, pathOf 2 (cutF 63 s).1 = P → (cutF 63 s).2.1 = Q → (cutF 63 s).2.2 = K → cutF 63 (rooted s) = (P, Q, K) → behindB 2 h s = match originT (rooted s) with | some t => (⟨2, h, t.path, t.query, t.has⟩, 0) | none => (TG.zero, 23) := by
    intro P Q K e1 e2 e3 e4
    unfold behindB originT
    rw [e4, e1, e2, e3]
    simp only
    split <;> rfl
  cases s with
  | nil => exact key [47] [] false rfl rfl rfl rfl
  | cons z r =>
    rcases hs z r rfl with rfl | rfl
    · refine key (cutF 63 (47 :: r)).1 _ _ ?_ rfl rfl ?_
      · rw [cutF, if_neg (by decide)]
        unfold pathOf
        rw [if_neg (by simp)]
      · unfold rooted
        rw [if_pos (by simp)]
    · refine key [47] r true ?_ ?_ ?_ ?_
      · rw [cutF, if_pos rfl]; rfl
      · rw [cutF, if_pos rfl]
      · rw [cutF, if_pos rfl]
      · unfold rooted
        rw [if_neg (by simp), cutF, if_neg (by decide), cutF, if_pos rfl]
theorem behind_bad (h : B) {z : UInt8} {r : B} (h1 : z ≠ 47) (h2 : z ≠ 63) : behindB 2 h (z :: r) = (TG.zero, 23) := by
  unfold behindB
  rw [if_pos]
  left
  rw [cutF, if_neg h2]
  unfold pathOf isPath
  rw [if_neg (by simp)]
  simp [h1]
theorem parse_is (s : B) : parseP s = parseT s := by
  unfold parseP parseT
  split
  · rfl
  split
  · rfl
  by_cases hh : s.head? = some 47
  · rw [if_pos hh, origin_is s, slash_http hh]
  · rw [if_neg hh]
    rw [origin_no hh]
    simp only
    unfold absoluteT
    by_cases hq : s.length < 7 ∨ smallB (s.take 7) ≠ httpB
    · rw [if_pos hq, if_pos hq]
    · rw [if_neg hq, if_neg hq]
      generalize (s.drop 7) = l
      cases hall : (l.takeWhile stopC).all hostB with
      | true =>
        obtain ⟨e1, e2⟩ := tw_all host_stop l (fun y hy => List.all_eq_true.1 hall y hy)
        rw [e1, e2]
        have hr := rooted_is (smallB (l.takeWhile stopC)) (l.dropWhile stopC) (fun z r e => stop_cases (dw_head l z r e))
        generalize l.takeWhile stopC = H at *
        generalize l.dropWhile stopC = T at *
        unfold isHostB
        rw [hall, Bool.true_and]
        by_cases hl : H.length < 1 ∨ 255 < H.length
        · rw [if_pos hl, if_pos]
          simp only [Bool.and_eq_false_iff, decide_eq_false_iff_not]
          rcases hl with hl | hl
          · left
            intro q
            exact q (List.eq_nil_of_length_eq_zero (by omega))
          · right; omega
        · rw [if_neg hl, if_neg, hr]
          · cases originT (rooted T) <;> rfl
          · simp only [Bool.and_eq_false_iff, decide_eq_false_iff_not]
            rintro (q | q)
            · exact hl (.inl (by rw [Decidable.of_not_not q]; simp))
            · exact hl (.inr (by omega))
      | false =>
        obtain ⟨z, r, e, h1, h2⟩ := tw_bad l hall
        unfold isHostB
        rw [hall, Bool.false_and, Bool.false_and, if_pos rfl]
        simp only
        split
        · rfl
        · rw [e]
          unfold stopC at h2
          simp only [Bool.and_eq_true, decide_eq_true_eq] at h2
          rw [behind_bad _ h2.1 h2.2]
/-- The shortest text. -/
def shortT (t : TG) : B := if t.form = 3 then [42] else (if t.form = 2 then httpB ++ t.host ++ (if t.path = [47] then [] else t.path) else t.path) ++ (if t.has then 63 :: t.query else [])
theorem behind_form {f : Int} {h s : B} : (behindB f h s).2 = 0 → (behindB f h s).1.form = f := by
  unfold behindB
  split
  · intro h; cases h
  · intro _; rfl
theorem parse_form (s : B) : (parseT s).2 = 0 → (parseT s).1.form = 1 ∨ (parseT s).1.form = 2 ∨ (parseT s).1.form = 3 := by
  unfold parseT
  split
  · intro h; cases h
  split
  · intro _; simp
  split
  · intro h; exact .inl (behind_form h)
  split
  · intro h; cases h
  split
  · intro h; cases h
  · intro h; exact .inr (.inl (behind_form h))
theorem star_query (q : B) : parseT (42 :: 63 :: q) = (TG.zero, 23) ∨ parseT (42 :: 63 :: q) = (TG.zero, 2) := by
  unfold parseT
  split
  · exact .inr rfl
  · left
    rw [if_neg (by simp), if_neg (by simp), if_pos]
    right
    intro e
    have := congrArg List.head? e
    simp [smallB, smallC, httpB] at this
/-- What the program tells is what the document tells. -/
theorem text_is (t : TG) : (if (parseT (shortT t)).2 ≠ 0 ∨ (parseT (shortT t)).1 ≠ t then (([] : B), 23) else (shortT t, 0)) = textT t := by
  unfold textT
  by_cases h3 : t.form = 3
  · have e1 : shortT t = [42] := by unfold shortT; rw [if_pos h3]
    cases hh : t.has with
    | false =>
      have e2 : tellT t = [42] := by unfold tellT; rw [if_pos h3, hh]; rfl
      rw [e1, e2]
    | true =>
      have e2 : tellT t = 42 :: 63 :: t.query := by unfold tellT; rw [if_pos h3, hh]; rfl
      have e3 : parseT [42] = (⟨3, [], [], [], false⟩, 0) := by decide
      rw [e1, e2, e3, if_pos, if_pos]
      · rcases star_query t.query with e | e <;> rw [e] <;> simp
      · right
        intro e
        rw [← e] at hh
        cases hh
  · by_cases h1 : t.form = 1
    · have e : shortT t = tellT t := by unfold shortT tellT; rw [if_neg h3, if_neg h3, if_pos h1, if_neg (by omega)]
      rw [e]
    · by_cases h2 : t.form = 2
      · have e : shortT t = tellT t := by
          unfold shortT tellT
          rw [if_neg h3, if_neg h3, if_neg h1, if_pos h2, if_pos h2]
          by_cases hp : t.path = [47]
          · rw [if_pos hp, if_neg (c := t.path ≠ [47]) (fun q => q hp)]
          · rw [if_neg hp, if_pos hp]
        rw [e]
      · have key : ∀ s : B, (parseT s).2 ≠ 0 ∨ (parseT s).1 ≠ t := by
          intro s
          by_cases hz : (parseT s).2 = 0
          · right
            intro e
            have := parse_form s hz
            rw [e] at this
            omega
          · exact .inl hz
        rw [if_pos (key _), if_pos (key _)]
/-! ### Queries -/
def plusC (c : UInt8) : UInt8 := if c = 43 then 32 else c
def formB (s : B) : B := (decodeB (s.map plusC)).getD []
def pairB (p : B) : B × B := (formB (cutF 61 p).1, formB (cutF 61 p).2.1)
/-- The fields of the parts to come, behind those that there are. -/
def pairsL : List B → List (B × B) → Option (List (B × B))
  | [], out => some out
  | p :: r, out => if p = [] then pairsL r out else if out.length = 64 then none else pairsL r (out ++ [pairB p])
def pairsT (q : B) : List (B × B) × Nat := if isQuery q then (match pairsL (cutAt 38 q) [] with
  | some l => (l, 0)
  | none => ([], 2)) else ([], 23)
def comeQ (rest : B) (more : Bool) : List B := if more then cutAt 38 rest else []
theorem comeQ_cut (rest : B) : comeQ rest true = (cutF 38 rest).1 :: comeQ (cutF 38 rest).2.1 (cutF 38 rest).2.2 := by
  show cutAt 38 rest = _
  obtain ⟨h1, h2, h3⟩ := cutF_spec 38 rest
  cases h : (cutF 38 rest).2.2 with
  | true =>
    rw [h] at h2
    simp only [if_true] at h2
    conv => lhs; rw [h2]
    rw [cut_at _ _ h1]
    rfl
  | false =>
    rw [h] at h2
    simp only [Bool.false_eq_true, if_false, List.append_nil] at h2
    conv => lhs; rw [h2]
    rw [cut_none _ h1]
    rfl
/-- Behind the last part nothing is left: an empty rest has no field. -/
theorem pairs_end (out : List (B × B)) : pairsL (comeQ [] true) out = some out ∧ pairsL (comeQ [] false) out = some out := by
  constructor
  · simp [comeQ, cutAt, pairsL]
  · simp [comeQ, pairsL]
end Go.Proofs.YtbdbmlklijmefaaDoor
