/- What the document keeps of a head, and what the program keeps: byte by byte alike. -/
import Derived.Test.YtnlmjlfoeodleaaGreatDoorPSpec
namespace Go.Proofs.YtnlmjlfoeodleaaGreatDoor

/-- The begin of a version. -/
def verP (p : B) : Prop := p.length ≤ 8 ∧ (ver0.take p.length = p ∨ ver1.take p.length = p)
def staP (p : B) : Prop := p.length ≤ 3 ∧ ∀ i c, p[i]? = some c → staAt i c = true
/-- The line under way, and what the reader holds of it. -/
inductive LineR : Bool → Bool → B → PS → Prop
  | m0 {s : PS} : s.st = 0 → allB 0 s.part = true → LineR false true s.part s
  | t1 {s : PS} : s.st = 1 → s.method ≠ [] → allB 0 s.method = true → allB 1 s.part = true → LineR false true (s.method ++ 32 :: s.part) s
  | v2 {s : PS} : s.st = 2 → s.method ≠ [] → allB 0 s.method = true → s.target ≠ [] → allB 1 s.target = true → verP s.part → LineR false true (s.method ++ 32 :: (s.target ++ 32 :: s.part)) s
  | e6 {s : PS} {v : B} : s.st = 6 → s.part = [] → s.method ≠ [] → allB 0 s.method = true → s.target ≠ [] → allB 1 s.target = true → verP v → v.length = 8 → s.minor = minorOf v → LineR false true ((s.method ++ 32 :: (s.target ++ 32 :: v)) ++ [13]) s
  | v3 {s : PS} : s.st = 3 → verP s.part → LineR true true s.part s
  | s4 {s : PS} {v : B} : s.st = 4 → verP v → v.length = 8 → s.minor = minorOf v → staP s.part → LineR true true (v ++ 32 :: s.part) s
  | r5 {s : PS} {v d : B} : s.st = 5 → verP v → v.length = 8 → s.minor = minorOf v → staP d → d.length = 3 → s.status = statusOf d → allB 2 s.part = true → LineR true true (v ++ 32 :: (d ++ 32 :: s.part)) s
  | e6r {s : PS} {v d : B} : s.st = 6 → s.part = [] → verP v → v.length = 8 → s.minor = minorOf v → staP d → d.length = 3 → s.status = statusOf d → allB 2 s.reason = true → LineR true true ((v ++ 32 :: (d ++ 32 :: s.reason)) ++ [13]) s
  | n7 {r : Bool} {s : PS} : s.st = 7 → allB 0 s.part = true → LineR r false s.part s
  | f8 {r : Bool} {s : PS} : s.st = 8 → s.fn ≠ [] → allB 0 s.fn = true → allB 2 s.part = true → LineR r false (s.fn ++ 58 :: s.part) s
  | e9 {r : Bool} {s : PS} {q : B} : s.st = 9 → s.part = [] → s.fn ≠ [] → allB 0 s.fn = true → allB 2 q = true → s.fv = trimL q → LineR r false ((s.fn ++ 58 :: q) ++ [13]) s
  | e10 {r : Bool} {s : PS} : s.st = 10 → s.part = [] → LineR r false [13] s
theorem LineR.taken {r f : Bool} {l : B} {s : PS} (h : LineR r f l s) (t : Nat) : LineR r f l { s with taken := t } := by
  cases h with
  | m0 a b => exact LineR.m0 (s := { s with taken := t }) a b
  | t1 a b c d => exact LineR.t1 (s := { s with taken := t }) a b c d
  | v2 a b c d e f => exact LineR.v2 (s := { s with taken := t }) a b c d e f
  | e6 a b c d e f g h i => exact LineR.e6 (s := { s with taken := t }) a b c d e f g h i
  | v3 a b => exact LineR.v3 (s := { s with taken := t }) a b
  | s4 a b c d e => exact LineR.s4 (s := { s with taken := t }) a b c d e
  | r5 a b c d e f g h => exact LineR.r5 (s := { s with taken := t }) a b c d e f g h
  | e6r a b c d e f g h i => exact LineR.e6r (s := { s with taken := t }) a b c d e f g h i
  | n7 a b => exact LineR.n7 (s := { s with taken := t }) a b
  | f8 a b c d => exact LineR.f8 (s := { s with taken := t }) a b c d
  | e9 a b c d e f => exact LineR.e9 (s := { s with taken := t }) a b c d e f
  | e10 a b => exact LineR.e10 (s := { s with taken := t }) a b
theorem cls_ne {k : Nat} {c : UInt8} (h : clsB k c = true) : c ≠ 13 ∧ c ≠ 10 := by
  unfold clsB at h
  split at h
  · revert h; exact all256 (P := fun c => visB (c.toNat : Int) = true → c ≠ 13 ∧ c ≠ 10) (by decide +kernel) c
  · split at h
    · revert h; exact all256 (P := fun c => valB (c.toNat : Int) = true → c ≠ 13 ∧ c ≠ 10) (by decide +kernel) c
    · revert h; exact all256 (P := fun c => tokB (c.toNat : Int) = true → c ≠ 13 ∧ c ≠ 10) (by decide +kernel) c
theorem tok_ne {c : UInt8} (h : clsB 0 c = true) : c ≠ 32 ∧ c ≠ 58 := by
  revert h; exact all256 (P := fun c => clsB 0 c = true → c ≠ 32 ∧ c ≠ 58) (by decide +kernel) c
theorem vis_ne {c : UInt8} (h : clsB 1 c = true) : c ≠ 32 := by
  revert h; exact all256 (P := fun c => clsB 1 c = true → c ≠ 32) (by decide +kernel) c
theorem allB_mem {k : Nat} {p : B} (h : allB k p = true) : ∀ y ∈ p, clsB k y = true := by
  unfold allB at h
  exact List.all_eq_true.1 h
theorem allB_snoc (k : Nat) (p : B) (c : UInt8) : allB k (p ++ [c]) = (allB k p && clsB k c) := by simp [allB]
theorem all_last {k : Nat} {p : B} (h : allB k p = true) : p.getLast? ≠ some 13 := fun e => (cls_ne (allB_mem h 13 (List.mem_of_getLast? e))).1 rfl
theorem last_app {p : B} {x : UInt8} {q : B} (hx : x ≠ 13) (hq : q.getLast? ≠ some 13) : (p ++ x :: q).getLast? ≠ some 13 := by
  rw [List.getLast?_append]
  cases q with
  | nil => simpa using hx
  | cons y r =>
    rw [List.getLast?_cons_cons]
    cases e : (y :: r).getLast? with
    | none => simp at e
    | some z => rw [e] at hq; simpa using hq
theorem ver_mem {p : B} (h : verP p) : ∀ y ∈ p, y ≠ 13 ∧ y ≠ 10 ∧ y ≠ 32 := by
  intro y hy
  have key : ∀ y, y ∈ ver0 ∨ y ∈ ver1 → y ≠ 13 ∧ y ≠ 10 ∧ y ≠ 32 := by
    intro y h
    simp [ver0, ver1] at h
    rcases h with h | h <;> rcases h with rfl | rfl | rfl | rfl | rfl | rfl | rfl <;> decide
  rcases h.2 with e | e
  · rw [← e] at hy; exact key y (.inl (List.mem_of_mem_take hy))
  · rw [← e] at hy; exact key y (.inr (List.mem_of_mem_take hy))
theorem ver_last {p : B} (h : verP p) : p.getLast? ≠ some 13 := fun e => (ver_mem h 13 (List.mem_of_getLast? e)).1 rfl
theorem sta_mem {p : B} (h : staP p) : ∀ y ∈ p, y ≠ 13 ∧ y ≠ 10 ∧ y ≠ 32 := by
  intro y hy
  obtain ⟨i, hi⟩ := List.mem_iff_getElem?.1 hy
  have := h.2 i y hi
  have key : ∀ y : UInt8, (49 ≤ y.toNat ∧ y.toNat ≤ 53) ∨ digB (y.toNat : Int) = true → y ≠ 13 ∧ y ≠ 10 ∧ y ≠ 32 := all256 (by decide +kernel)
  apply key
  unfold staAt at this
  split at this
  · left; simpa using this
  · right; simp at this; exact this.2
theorem sta_last {p : B} (h : staP p) : p.getLast? ≠ some 13 := fun e => (sta_mem h 13 (List.mem_of_getLast? e)).1 rfl
/-- One byte more in a version. -/
theorem ver_more {p : B} {c : UInt8} (h : verP p) : verAt p.length c = true ↔ verP (p ++ [c]) := by
  obtain ⟨h8, hv⟩ := h
  have hl : p.length = 0 ∨ p.length = 1 ∨ p.length = 2 ∨ p.length = 3 ∨ p.length = 4 ∨ p.length = 5 ∨ p.length = 6 ∨ p.length = 7 ∨ p.length = 8 := by omega
  unfold verP verAt
  rw [List.length_append]
  rcases hl with e | e | e | e | e | e | e | e | e <;> rw [e] at hv ⊢ <;> simp [ver0, ver1] at hv ⊢ <;> (try (rcases hv with rfl | rfl)) <;> (try subst hv) <;> (try simp) <;> (try constructor) <;> (try (intro h; simp_all)) <;> (try grind)
theorem ver_full {p : B} (h : verP p) (h8 : p.length = 8) : p = ver0 ∨ p = ver1 := by
  rcases h.2 with e | e <;> rw [h8] at e
  · left; rw [← e]; rfl
  · right; rw [← e]; rfl
theorem sta_more {p : B} {c : UInt8} (h : staP p) (h3 : p.length < 3) : staAt p.length c = true ↔ staP (p ++ [c]) := by
  constructor
  · intro hc
    refine ⟨by simp; omega, fun i d hi => ?_⟩
    by_cases hip : i < p.length
    · rw [List.getElem?_append_left hip] at hi
      exact h.2 i d hi
    · have : i = p.length := by
        have := (List.getElem?_eq_some_iff.1 hi).1
        simp at this; omega
      subst this
      simp at hi
      subst hi
      exact hc
  · intro h2
    exact h2.2 p.length c (by simp)
theorem begins_ver (p : B) : beginsB p false = true ↔ verP p := by
  unfold beginsB verP
  by_cases h : p.length > 8
  · rw [if_pos (.inl h)]; simp; omega
  · rw [if_neg (by simp; omega)]
    simp
    omega
theorem begins_whole (p : B) : beginsB p true = true ↔ verP p ∧ p.length = 8 := by
  unfold beginsB verP
  by_cases h : p.length = 8
  · rw [if_neg (by simp; omega)]; simp [h]
  · rw [if_pos (.inr ⟨rfl, h⟩)]; simp [h]
/-- One byte more in a line that no byte 13 ends: the line then, or none. -/
def docStep (resp : Bool) (nl : Nat) (line : B) (c : UInt8) : Option B :=
  if c = 10 then none
  else if c = 13 then (if goesB resp nl line true = true ∨ (line = [] ∧ 0 < nl) then some (line ++ [13]) else none)
  else if goesB resp nl (line ++ [c]) false = true then some (line ++ [c]) else none
theorem byte_doc (h : HS) (c : UInt8) (hm : ¬ h.most < (h.len : Int) + 1) (hl : h.line.getLast? ≠ some 13) :
    byteH h c = (match docStep h.resp h.lines.length h.line c with
      | none => { h with len := h.len + 1, err := kindN h.lines.length }
      | some l => { h with len := h.len + 1, line := l }) := by
  unfold byteH docStep
  rw [if_neg hm, if_neg hl]
  have hne : (h.lines ≠ []) ↔ 0 < h.lines.length := by rw [List.length_pos_iff]
  by_cases h10 : c = 10
  · simp [h10]
  · rw [if_neg h10, if_neg h10]
    by_cases h13 : c = 13
    · rw [if_pos h13, if_pos h13]
      by_cases hg : goesB h.resp h.lines.length h.line true = true ∨ h.line = [] ∧ 0 < h.lines.length
      · rw [if_pos hg, if_pos (by rw [hne]; exact hg)]
      · rw [if_neg hg, if_neg (by rw [hne]; exact hg)]
    · rw [if_neg h13, if_neg h13]
      by_cases hg : goesB h.resp h.lines.length (h.line ++ [c]) false = true
      · rw [if_pos hg, if_pos hg]
      · rw [if_neg hg, if_neg hg]
/-- What does not turn within a line. -/
structure Held (first : Bool) (s s' : PS) : Prop where
  resp : s'.resp = s.resp
  most : s'.most = s.most
  taken : s'.taken = s.taken
  err : s'.err = s.err
  fields : s'.fields = s.fields
  st : s'.st ≠ 11
  rest : first = false → s'.method = s.method ∧ s'.target = s.target ∧ s'.reason = s.reason ∧ s'.minor = s.minor ∧ s'.status = s.status
def Both (resp first : Bool) (nl : Nat) (line : B) (c : UInt8) (s : PS) : Prop :=
  (docStep resp nl line c = none ∧ stepP s c = none) ∨ ∃ l' s', docStep resp nl line c = some l' ∧ stepP s c = some s' ∧ LineR resp first l' s' ∧ Held first s s'
theorem Both.no {resp first : Bool} {nl : Nat} {line : B} {c : UInt8} {s : PS} (h1 : docStep resp nl line c = none) (h2 : stepP s c = none) : Both resp first nl line c s := .inl ⟨h1, h2⟩
theorem Both.yes {resp first : Bool} {nl : Nat} {line l' : B} {c : UInt8} {s s' : PS} (h1 : docStep resp nl line c = some l') (h2 : stepP s c = some s') (h3 : LineR resp first l' s') (h4 : Held first s s') : Both resp first nl line c s := .inr ⟨l', s', h1, h2, h3, h4⟩
theorem goes_req (l : B) (w : Bool) : goesB false 0 l w = requestB l w := rfl
theorem goes_sta (l : B) (w : Bool) : goesB true 0 l w = statusB l w := rfl
theorem goes_fld {r : Bool} {nl : Nat} (h : 0 < nl) (l : B) (w : Bool) : goesB r nl l w = fieldB l w := by unfold goesB; rw [if_pos h]
theorem doc10 (resp : Bool) (nl : Nat) (line : B) : docStep resp nl line 10 = none := rfl
theorem doc13 {resp : Bool} {nl : Nat} {line : B} (h : goesB resp nl line true = false) (h2 : ¬ (line = [] ∧ 0 < nl)) : docStep resp nl line 13 = none := by
  unfold docStep
  rw [if_neg (by decide), if_pos rfl, if_neg]
  rw [h]; simpa using h2
theorem doc13y {resp : Bool} {nl : Nat} {line : B} (h : goesB resp nl line true = true ∨ (line = [] ∧ 0 < nl)) : docStep resp nl line 13 = some (line ++ [13]) := by
  unfold docStep
  rw [if_neg (by decide), if_pos rfl, if_pos h]
theorem docC {resp : Bool} {nl : Nat} {line : B} {c : UInt8} (h10 : c ≠ 10) (h13 : c ≠ 13) : docStep resp nl line c = if goesB resp nl (line ++ [c]) false = true then some (line ++ [c]) else none := by
  unfold docStep
  rw [if_neg h10, if_neg h13]
theorem tok_mem {p : B} (h : allB 0 p = true) : (∀ y ∈ p, y ≠ 32) ∧ ∀ y ∈ p, y ≠ 58 := ⟨fun y hy => (tok_ne (allB_mem h y hy)).1, fun y hy => (tok_ne (allB_mem h y hy)).2⟩
theorem vis_mem {p : B} (h : allB 1 p = true) : ∀ y ∈ p, y ≠ 32 := fun y hy => vis_ne (allB_mem h y hy)
theorem mem_snoc {p : B} {c x : UInt8} (h : ∀ y ∈ p, y ≠ x) (hc : c ≠ x) : ∀ y ∈ p ++ [c], y ≠ x := by
  intro y hy
  rcases List.mem_append.1 hy with hy | hy
  · exact h y hy
  · rw [List.mem_singleton.1 hy]; exact hc
theorem pos_len {p : B} (h : p ≠ []) : 0 < p.length := List.length_pos_iff.2 h
/-- The request line's parts. -/
theorem req_a {p : B} (h : allB 0 p = true) (w : Bool) : requestB p w = !w := by
  unfold requestB
  rw [cutF_no p (tok_mem h).1]
  simp [h]
theorem req_a1 {p : B} {c : UInt8} (h : allB 0 p = true) (hc : c ≠ 32) : requestB (p ++ [c]) false = clsB 0 c := by
  unfold requestB
  rw [cutF_no _ (mem_snoc (tok_mem h).1 hc)]
  simp [allB_snoc, h]
theorem req_b {m q : B} (h : allB 0 m = true) (hm : m ≠ []) (w : Bool) : requestB (m ++ 32 :: q) w = restB q w := by
  unfold requestB
  rw [cutF_at m q (tok_mem h).1]
  simp [h, pos_len hm]
theorem rest_a {p : B} (h : allB 1 p = true) (w : Bool) : restB p w = !w := by
  unfold restB
  rw [cutF_no p (vis_mem h)]
  simp [h]
theorem rest_a1 {p : B} {c : UInt8} (h : allB 1 p = true) (hc : c ≠ 32) : restB (p ++ [c]) false = clsB 1 c := by
  unfold restB
  rw [cutF_no _ (mem_snoc (vis_mem h) hc)]
  simp [allB_snoc, h]
theorem rest_b {m q : B} (h : allB 1 m = true) (hm : m ≠ []) (w : Bool) : restB (m ++ 32 :: q) w = beginsB q w := by
  unfold restB
  rw [cutF_at m q (vis_mem h)]
  simp [h, pos_len hm]
theorem fld_a {p : B} (h : allB 0 p = true) (w : Bool) : fieldB p w = !w := by
  unfold fieldB
  rw [cutF_no p (tok_mem h).2]
  simp [h]
theorem fld_a1 {p : B} {c : UInt8} (h : allB 0 p = true) (hc : c ≠ 58) : fieldB (p ++ [c]) false = clsB 0 c := by
  unfold fieldB
  rw [cutF_no _ (mem_snoc (tok_mem h).2 hc)]
  simp [allB_snoc, h]
theorem fld_b {m q : B} (h : allB 0 m = true) (hm : m ≠ []) (w : Bool) : fieldB (m ++ 58 :: q) w = allB 2 q := by
  unfold fieldB
  rw [cutF_at m q (tok_mem h).2]
  simp [h, pos_len hm]
theorem cls13 (k : Nat) : clsB k 13 = false := by
  cases h : clsB k 13 with
  | false => rfl
  | true => exact absurd rfl (cls_ne h).1
theorem cls10 (k : Nat) : clsB k 10 = false := by
  cases h : clsB k 10 with
  | false => rfl
  | true => exact absurd rfl (cls_ne h).2
/-- The status line's parts. -/
theorem sta_a {p : B} (h : verP p) (w : Bool) : statusB p w = !w := by
  unfold statusB
  rw [if_pos h.1, (begins_ver p).2 h]; simp
theorem sta_a1 {p : B} {c : UInt8} (h : verP p) (h8 : p.length < 8) : statusB (p ++ [c]) false = verAt p.length c := by
  unfold statusB
  rw [if_pos (by simp; omega)]
  rw [Bool.eq_iff_iff, ver_more h]
  simp only [Bool.not_false, Bool.true_and]
  exact begins_ver _
theorem take8 {v q : B} (h : v.length = 8) : (v ++ q).take 8 = v := by rw [← h]; simp
theorem at8 {v q : B} {x : UInt8} (h : v.length = 8) : (v ++ x :: q)[8]? = some x := by rw [← h]; simp
theorem drop9 {v q : B} {x : UInt8} (h : v.length = 8) : (v ++ x :: q)[9]? = q[0]? ∧ (v ++ x :: q)[10]? = q[1]? ∧ (v ++ x :: q)[11]? = q[2]? ∧ (v ++ x :: q)[12]? = q[3]? := by
  refine ⟨?_, ?_, ?_, ?_⟩ <;> rw [List.getElem?_append_right (by omega), h] <;> rfl
theorem drop13 {v q : B} {x : UInt8} (h : v.length = 8) : (v ++ x :: q).drop 13 = q.drop 4 := by
  rw [List.drop_append, h, List.drop_of_length_le (by omega)]; rfl
theorem sta_blank {v : B} {c : UInt8} (h : verP v) (h8 : v.length = 8) : statusB (v ++ [c]) false = decide (c = 32) := by
  unfold statusB
  rw [if_neg (by simp; omega), take8 h8, at8 h8, (begins_whole v).2 ⟨h, h8⟩]
  by_cases hc : c = 32
  · subst hc
    obtain ⟨e1, e2, e3, _⟩ := drop9 (v := v) (q := []) (x := 32) h8
    rw [if_neg (by simp), if_neg (by unfold okB; simp only [List.all_cons, e1, e2, e3]; simp), if_pos (by simp; omega)]
    simp
  · rw [if_pos (by simp [hc])]; simp [hc]
theorem ok_sta {i : Nat} (c : UInt8) (hi : i < 3) : okD (i + 9) c = staAt i c := by
  have key : ∀ c : UInt8, okD 9 c = staAt 0 c ∧ okD 10 c = staAt 1 c ∧ okD 11 c = staAt 2 c := all256 (by decide +kernel)
  obtain ⟨a, b, d⟩ := key c
  have : i = 0 ∨ i = 1 ∨ i = 2 := by omega
  rcases this with rfl | rfl | rfl
  · exact a
  · exact b
  · exact d
theorem okB_at {v q : B} (h8 : v.length = 8) : okB (v ++ 32 :: q) = ((q[0]?.map (staAt 0)).getD true && ((q[1]?.map (staAt 1)).getD true && (q[2]?.map (staAt 2)).getD true)) := by
  obtain ⟨e1, e2, e3, _⟩ := drop9 (v := v) (q := q) (x := 32) h8
  have f0 : okD 9 = staAt 0 := funext fun c => ok_sta (i := 0) c (by omega)
  have f1 : okD 10 = staAt 1 := funext fun c => ok_sta (i := 1) c (by omega)
  have f2 : okD 11 = staAt 2 := funext fun c => ok_sta (i := 2) c (by omega)
  unfold okB
  simp only [List.all_cons, List.all_nil, Bool.and_true, e1, e2, e3, f0, f1, f2]
theorem okB_sta {v d q : B} (h8 : v.length = 8) (hd : staP d) (h3 : d.length = 3 ∨ q = []) : okB (v ++ 32 :: (d ++ q)) = true := by
  rw [okB_at h8]
  have key : ∀ i, i < 3 → ((d ++ q)[i]?.map (staAt i)).getD true = true := by
    intro i hi
    cases e : (d ++ q)[i]? with
    | none => rfl
    | some c =>
      rcases h3 with h3 | rfl
      · rw [List.getElem?_append_left (by omega)] at e
        exact hd.2 i c e
      · rw [List.append_nil] at e
        exact hd.2 i c e
  rw [key 0 (by omega), key 1 (by omega), key 2 (by omega)]; rfl
theorem sta_b {v d : B} (h : verP v) (h8 : v.length = 8) (hd : staP d) (w : Bool) : statusB (v ++ 32 :: d) w = !w := by
  unfold statusB
  have := hd.1
  rw [if_neg (by simp; omega), take8 h8, at8 h8, (begins_whole v).2 ⟨h, h8⟩, if_neg (by simp), if_neg (by have := okB_sta (q := []) h8 hd (.inr rfl); rw [List.append_nil] at this; rw [this]; simp), if_pos (by simp; omega)]
theorem sta_b1 {v d : B} {c : UInt8} (h : verP v) (h8 : v.length = 8) (hd : staP d) (h3 : d.length < 3) : statusB (v ++ 32 :: d ++ [c]) false = staAt d.length c := by
  unfold statusB
  rw [List.append_assoc, List.cons_append, if_neg (by simp; omega), take8 h8, at8 h8, (begins_whole v).2 ⟨h, h8⟩, if_neg (by simp)]
  by_cases hc : staAt d.length c = true
  · rw [if_neg (by have := okB_sta (q := []) h8 ((sta_more hd h3).1 hc) (.inr rfl); rw [List.append_nil] at this; rw [this]; simp), if_pos (by simp; omega), hc]; rfl
  · have e : okB (v ++ 32 :: (d ++ [c])) = false := by
      have hi : (d ++ [c])[d.length]? = some c := by simp
      have hc2 : staAt d.length c = false := by simpa using hc
      rw [okB_at h8]
      have : d.length = 0 ∨ d.length = 1 ∨ d.length = 2 := by omega
      rcases this with e | e | e <;> rw [e] at hi hc2 <;> rw [hi] <;> simp [hc2]
    rw [if_pos e]
    simpa using hc
theorem sta_c {v d q : B} (h : verP v) (h8 : v.length = 8) (hd : staP d) (h3 : d.length = 3) (c : UInt8) (w : Bool) : statusB (v ++ 32 :: (d ++ c :: q)) w = (decide (c = 32) && allB 2 q) := by
  unfold statusB
  obtain ⟨_, _, _, e4⟩ := drop9 (v := v) (q := d ++ c :: q) (x := 32) h8
  have e5 : (d ++ c :: q)[3]? = some c := by rw [← h3]; simp
  have e6 : (d ++ c :: q).drop 4 = q := by rw [List.drop_append, h3, List.drop_of_length_le (by omega)]; rfl
  rw [if_neg (by simp; omega), take8 h8, at8 h8, (begins_whole v).2 ⟨h, h8⟩, if_neg (by simp), if_neg (by rw [okB_sta (q := c :: q) h8 hd (.inl h3)]; simp), if_neg (by simp; omega), e4, e5, drop13 h8, e6]
  simp
theorem row_no {s : PS} {c x : UInt8} {may done : Bool} {n : Nat} (hx : ¬ (c = x ∧ done = true)) (hm : may = false) : rowP s c may x done n = none := by
  unfold rowP; rw [if_neg hx, hm]; rfl
theorem row_end {s : PS} {c x : UInt8} {may done : Bool} {n : Nat} (hx : c = x) (hd : done = true) : rowP s c may x done n = some { keepP s with st := n } := by
  unfold rowP; rw [if_pos ⟨hx, hd⟩]
theorem row_on {s : PS} {c x : UInt8} {may done : Bool} {n : Nat} (hx : ¬ (c = x ∧ done = true)) (hm : may = true) : rowP s c may x done n = some { s with part := s.part ++ [c] } := by
  unfold rowP; rw [if_neg hx, if_pos hm]
theorem keep0 {s : PS} (h : s.st = 0) : keepP s = { s with part := [], method := s.part } := by unfold keepP; rw [if_pos h]
theorem keep1 {s : PS} (h : s.st = 1) : keepP s = { s with part := [], target := s.part } := by unfold keepP; rw [if_neg (by omega), if_pos h]
theorem keep2 {s : PS} (h : s.st = 2 ∨ s.st = 3) : keepP s = { s with part := [], minor := minorOf s.part } := by unfold keepP; rw [if_neg (by omega), if_neg (by omega), if_pos h]
theorem keep4 {s : PS} (h : s.st = 4) : keepP s = { s with part := [], status := statusOf s.part } := by unfold keepP; rw [if_neg (by omega), if_neg (by omega), if_neg (by omega), if_pos h]
theorem keep5 {s : PS} (h : s.st = 5) : keepP s = { s with part := [], reason := s.part } := by unfold keepP; rw [if_neg (by omega), if_neg (by omega), if_neg (by omega), if_neg (by omega), if_pos h]
theorem keep7 {s : PS} (h : s.st = 7) : keepP s = { s with part := [], fn := s.part } := by unfold keepP; rw [if_neg (by omega), if_neg (by omega), if_neg (by omega), if_neg (by omega), if_neg (by omega), if_pos h]
theorem keep8 {s : PS} (h : s.st = 8) : keepP s = { s with part := [], fv := trimL s.part } := by unfold keepP; rw [if_neg (by omega), if_neg (by omega), if_neg (by omega), if_neg (by omega), if_neg (by omega), if_neg (by omega), if_pos h]
theorem step_0 {s : PS} (c : UInt8) (h : s.st = 0) : stepP s c = rowP s c (clsB 0 c) 32 (decide (0 < s.part.length)) 1 := by unfold stepP; rw [if_pos h]
theorem step_1 {s : PS} (c : UInt8) (h : s.st = 1) : stepP s c = rowP s c (clsB 1 c) 32 (decide (0 < s.part.length)) 2 := by unfold stepP; rw [if_neg (by omega), if_pos h]
theorem step_2 {s : PS} (c : UInt8) (h : s.st = 2) : stepP s c = rowP s c (verAt s.part.length c) 13 (decide (s.part.length = 8)) 6 := by unfold stepP; rw [if_neg (by omega), if_neg (by omega), if_pos h]
theorem step_3 {s : PS} (c : UInt8) (h : s.st = 3) : stepP s c = rowP s c (verAt s.part.length c) 32 (decide (s.part.length = 8)) 4 := by unfold stepP; rw [if_neg (by omega), if_neg (by omega), if_neg (by omega), if_pos h]
theorem step_4 {s : PS} (c : UInt8) (h : s.st = 4) : stepP s c = rowP s c (staAt s.part.length c) 32 (decide (s.part.length = 3)) 5 := by unfold stepP; rw [if_neg (by omega), if_neg (by omega), if_neg (by omega), if_neg (by omega), if_pos h]
theorem step_5 {s : PS} (c : UInt8) (h : s.st = 5) : stepP s c = rowP s c (clsB 2 c) 13 true 6 := by unfold stepP; rw [if_neg (by omega), if_neg (by omega), if_neg (by omega), if_neg (by omega), if_neg (by omega), if_pos h]
theorem step_6 {s : PS} (c : UInt8) (h : s.st = 6) : stepP s c = endP s c 7 := by unfold stepP; rw [if_neg (by omega), if_neg (by omega), if_neg (by omega), if_neg (by omega), if_neg (by omega), if_neg (by omega), if_pos h]
theorem step_7 {s : PS} (c : UInt8) (h : s.st = 7) : stepP s c = if s.part.length = 0 ∧ c = 13 then some { s with st := 10 } else rowP s c (clsB 0 c) 58 (decide (0 < s.part.length)) 8 := by unfold stepP; rw [if_neg (by omega), if_neg (by omega), if_neg (by omega), if_neg (by omega), if_neg (by omega), if_neg (by omega), if_neg (by omega), if_pos h]
theorem step_8 {s : PS} (c : UInt8) (h : s.st = 8) : stepP s c = rowP s c (clsB 2 c) 13 true 9 := by unfold stepP; rw [if_neg (by omega), if_neg (by omega), if_neg (by omega), if_neg (by omega), if_neg (by omega), if_neg (by omega), if_neg (by omega), if_neg (by omega), if_pos h]
theorem step_9 {s : PS} (c : UInt8) (h : s.st = 9) : stepP s c = endP s c 7 := by unfold stepP; rw [if_neg (by omega), if_neg (by omega), if_neg (by omega), if_neg (by omega), if_neg (by omega), if_neg (by omega), if_neg (by omega), if_neg (by omega), if_neg (by omega), if_pos h]
theorem step_10 {s : PS} (c : UInt8) (h : s.st = 10) : stepP s c = endP s c 11 := by unfold stepP; rw [if_neg (by omega), if_neg (by omega), if_neg (by omega), if_neg (by omega), if_neg (by omega), if_neg (by omega), if_neg (by omega), if_neg (by omega), if_neg (by omega), if_neg (by omega), if_pos h]
theorem held_on {f : Bool} {s : PS} {p : B} (h : s.st ≠ 11) : Held f s { s with part := p } := ⟨rfl, rfl, rfl, rfl, rfl, h, fun _ => ⟨rfl, rfl, rfl, rfl, rfl⟩⟩
theorem both_m0 {s : PS} {c : UInt8} (h0 : s.st = 0) (ha : allB 0 s.part = true) : Both false true 0 s.part c s := by
  by_cases h10 : c = 10
  · subst h10; exact .no rfl (by rw [step_0 _ h0]; exact row_no (by simp) (cls10 0))
  by_cases h13 : c = 13
  · subst h13; exact .no (doc13 (by rw [goes_req, req_a ha]; rfl) (by simp)) (by rw [step_0 _ h0]; exact row_no (by simp) (cls13 0))
  by_cases h32 : c = 32
  · subst h32
    by_cases hp : s.part = []
    · exact .no (by rw [docC h10 h13, goes_req, hp]; rfl) (by rw [step_0 _ h0]; exact row_no (by simp [hp]) (by decide))
    · refine .yes (by rw [docC h10 h13, goes_req, req_b ha hp, if_pos (by rfl)]) (by rw [step_0 _ h0]; exact row_end rfl (by simp [pos_len hp])) (by rw [keep0 h0]; exact LineR.t1 (s := { s with part := [], method := s.part, st := 1 }) rfl hp ha rfl) ?_
      rw [keep0 h0]
      exact ⟨rfl, rfl, rfl, rfl, rfl, by simp, fun h => by cases h⟩
  cases hc : clsB 0 c with
  | false => exact .no (by rw [docC h10 h13, goes_req, req_a1 ha h32, hc]; rfl) (by rw [step_0 _ h0]; exact row_no (by simp [h32]) hc)
  | true => exact .yes (by rw [docC h10 h13, goes_req, req_a1 ha h32, hc]; rfl) (by rw [step_0 _ h0]; exact row_on (by simp [h32]) hc) (LineR.m0 (s := { s with part := s.part ++ [c] }) h0 (by rw [allB_snoc, ha, hc]; rfl)) (held_on (by omega))
theorem both_t1 {s : PS} {c : UInt8} (h0 : s.st = 1) (hm : s.method ≠ []) (hma : allB 0 s.method = true) (ha : allB 1 s.part = true) : Both false true 0 (s.method ++ 32 :: s.part) c s := by
  by_cases h10 : c = 10
  · subst h10; exact .no rfl (by rw [step_1 _ h0]; exact row_no (by simp) (cls10 1))
  by_cases h13 : c = 13
  · subst h13; exact .no (doc13 (by rw [goes_req, req_b hma hm, rest_a ha]; rfl) (by simp)) (by rw [step_1 _ h0]; exact row_no (by simp) (cls13 1))
  have e : (s.method ++ 32 :: s.part) ++ [c] = s.method ++ 32 :: (s.part ++ [c]) := by simp
  by_cases h32 : c = 32
  · subst h32
    by_cases hp : s.part = []
    · exact .no (by rw [docC h10 h13, e, goes_req, req_b hma hm, hp]; rfl) (by rw [step_1 _ h0]; exact row_no (by simp [hp]) (by decide))
    · refine .yes (by rw [docC h10 h13, e, goes_req, req_b hma hm, rest_b ha hp, if_pos (by rfl)]) (by rw [step_1 _ h0]; exact row_end rfl (by simp [pos_len hp])) (by rw [keep1 h0]; exact LineR.v2 (s := { s with part := [], target := s.part, st := 2 }) rfl hm hma hp ha ⟨by simp, .inl rfl⟩) ?_
      rw [keep1 h0]
      exact ⟨rfl, rfl, rfl, rfl, rfl, by simp, fun h => by cases h⟩
  cases hc : clsB 1 c with
  | false => exact .no (by rw [docC h10 h13, e, goes_req, req_b hma hm, rest_a1 ha h32, hc]; rfl) (by rw [step_1 _ h0]; exact row_no (by simp [h32]) hc)
  | true => exact .yes (by rw [docC h10 h13, e, goes_req, req_b hma hm, rest_a1 ha h32, hc]; rfl) (by rw [step_1 _ h0]; exact row_on (by simp [h32]) hc) (LineR.t1 (s := { s with part := s.part ++ [c] }) h0 hm hma (by rw [allB_snoc, ha, hc]; rfl)) (held_on (by omega))
theorem ver_no {p : B} {c : UInt8} (h8 : p.length = 8) : verAt p.length c = false := by
  unfold verAt; rw [h8]; rfl
theorem ver_cr (n : Nat) : verAt n 13 = false ∧ verAt n 10 = false ∧ verAt n 32 = false := by
  by_cases h : n < 7
  · have : n = 0 ∨ n = 1 ∨ n = 2 ∨ n = 3 ∨ n = 4 ∨ n = 5 ∨ n = 6 := by omega
    rcases this with rfl | rfl | rfl | rfl | rfl | rfl | rfl <;> decide
  · unfold verAt; simp [h]
theorem sta_cr (n : Nat) : staAt n 13 = false ∧ staAt n 10 = false ∧ staAt n 32 = false := by
  by_cases h : n = 0
  · subst h; decide
  · unfold staAt; simp [h, digB]
theorem both_v2 {s : PS} {c : UInt8} (h0 : s.st = 2) (hm : s.method ≠ []) (hma : allB 0 s.method = true) (ht : s.target ≠ []) (hta : allB 1 s.target = true) (hv : verP s.part) : Both false true 0 (s.method ++ 32 :: (s.target ++ 32 :: s.part)) c s := by
  by_cases h10 : c = 10
  · subst h10; exact .no rfl (by rw [step_2 _ h0]; exact row_no (by simp) (ver_cr _).2.1)
  by_cases h13 : c = 13
  · subst h13
    by_cases h8 : s.part.length = 8
    · refine .yes (doc13y (.inl (by rw [goes_req, req_b hma hm, rest_b hta ht]; exact (begins_whole _).2 ⟨hv, h8⟩))) (by rw [step_2 _ h0]; exact row_end rfl (by simp [h8])) (by rw [keep2 (.inl h0)]; exact LineR.e6 (s := { s with part := [], minor := minorOf s.part, st := 6 }) (v := s.part) rfl rfl hm hma ht hta hv h8 rfl) ?_
      rw [keep2 (.inl h0)]
      exact ⟨rfl, rfl, rfl, rfl, rfl, by simp, fun h => by cases h⟩
    · exact .no (doc13 (by rw [goes_req, req_b hma hm, rest_b hta ht, Bool.eq_false_iff]; exact fun h => h8 ((begins_whole _).1 h).2) (by simp)) (by rw [step_2 _ h0]; exact row_no (by simp [h8]) (ver_cr _).1)
  have e : (s.method ++ 32 :: (s.target ++ 32 :: s.part)) ++ [c] = s.method ++ 32 :: (s.target ++ 32 :: (s.part ++ [c])) := by simp
  cases hc : verAt s.part.length c with
  | false => exact .no (by rw [docC h10 h13, e, goes_req, req_b hma hm, rest_b hta ht, if_neg]; rw [begins_ver, ← ver_more hv, hc]; simp) (by rw [step_2 _ h0]; exact row_no (by simp [h13]) hc)
  | true => exact .yes (by rw [docC h10 h13, e, goes_req, req_b hma hm, rest_b hta ht, if_pos ((begins_ver _).2 ((ver_more hv).1 hc))]) (by rw [step_2 _ h0]; exact row_on (by simp [h13]) hc) (LineR.v2 (s := { s with part := s.part ++ [c] }) h0 hm hma ht hta ((ver_more hv).1 hc)) (held_on (by omega))
theorem both_v3 {s : PS} {c : UInt8} (h0 : s.st = 3) (hv : verP s.part) : Both true true 0 s.part c s := by
  by_cases h10 : c = 10
  · subst h10; exact .no rfl (by rw [step_3 _ h0]; exact row_no (by simp) (ver_cr _).2.1)
  by_cases h13 : c = 13
  · subst h13; exact .no (doc13 (by rw [goes_sta, sta_a hv]; rfl) (by simp)) (by rw [step_3 _ h0]; exact row_no (by simp) (ver_cr _).1)
  by_cases h8 : s.part.length = 8
  · by_cases h32 : c = 32
    · subst h32
      refine .yes (by rw [docC h10 h13, goes_sta, sta_blank hv h8, if_pos (by rfl)]) (by rw [step_3 _ h0]; exact row_end rfl (by simp [h8])) (by rw [keep2 (.inr h0)]; exact LineR.s4 (s := { s with part := [], minor := minorOf s.part, st := 4 }) (v := s.part) rfl hv h8 rfl ⟨by simp, fun i c h => by simp at h⟩) ?_
      rw [keep2 (.inr h0)]
      exact ⟨rfl, rfl, rfl, rfl, rfl, by simp, fun h => by cases h⟩
    · exact .no (by rw [docC h10 h13, goes_sta, sta_blank hv h8, if_neg (by simp [h32])]) (by rw [step_3 _ h0]; exact row_no (by simp [h32]) (ver_no h8))
  · have h8' : s.part.length < 8 := by have := hv.1; omega
    cases hc : verAt s.part.length c with
    | false => exact .no (by rw [docC h10 h13, goes_sta, sta_a1 hv h8', hc]; rfl) (by rw [step_3 _ h0]; exact row_no (by simp [h8]) hc)
    | true => exact .yes (by rw [docC h10 h13, goes_sta, sta_a1 hv h8', hc]; rfl) (by rw [step_3 _ h0]; exact row_on (by simp [h8]) hc) (LineR.v3 (s := { s with part := s.part ++ [c] }) h0 ((ver_more hv).1 hc)) (held_on (by omega))
theorem both_s4 {s : PS} {c : UInt8} {v : B} (h0 : s.st = 4) (hv : verP v) (hv8 : v.length = 8) (hmi : s.minor = minorOf v) (hd : staP s.part) : Both true true 0 (v ++ 32 :: s.part) c s := by
  by_cases h10 : c = 10
  · subst h10; exact .no rfl (by rw [step_4 _ h0]; exact row_no (by simp) (sta_cr _).2.1)
  by_cases h13 : c = 13
  · subst h13; exact .no (doc13 (by rw [goes_sta, sta_b hv hv8 hd]; rfl) (by simp)) (by rw [step_4 _ h0]; exact row_no (by simp) (sta_cr _).1)
  by_cases h3 : s.part.length = 3
  · have e : (v ++ 32 :: s.part) ++ [c] = v ++ 32 :: (s.part ++ c :: []) := by simp
    by_cases h32 : c = 32
    · subst h32
      refine .yes (by rw [docC h10 h13, e, goes_sta, sta_c hv hv8 hd h3, if_pos (by rfl)]) (by rw [step_4 _ h0]; exact row_end rfl (by simp [h3])) (by rw [keep4 h0]; exact LineR.r5 (s := { s with part := [], status := statusOf s.part, st := 5 }) (v := v) (d := s.part) rfl hv hv8 hmi hd h3 rfl rfl) ?_
      rw [keep4 h0]
      exact ⟨rfl, rfl, rfl, rfl, rfl, by simp, fun h => by cases h⟩
    · exact .no (by rw [docC h10 h13, e, goes_sta, sta_c hv hv8 hd h3, if_neg (by simp [h32])]) (by rw [step_4 _ h0]; exact row_no (by simp [h32]) (by unfold staAt; rw [h3]; rfl))
  · have h3' : s.part.length < 3 := by have := hd.1; omega
    cases hc : staAt s.part.length c with
    | false => exact .no (by rw [docC h10 h13, goes_sta, sta_b1 hv hv8 hd h3', hc]; rfl) (by rw [step_4 _ h0]; exact row_no (by simp [h3]) hc)
    | true => exact .yes (by rw [docC h10 h13, goes_sta, sta_b1 hv hv8 hd h3', hc, if_pos rfl, List.append_assoc, List.cons_append]) (by rw [step_4 _ h0]; exact row_on (by simp [h3]) hc) (LineR.s4 (s := { s with part := s.part ++ [c] }) (v := v) h0 hv hv8 hmi ((sta_more hd h3').1 hc)) (held_on (by omega))
theorem both_r5 {s : PS} {c : UInt8} {v d : B} (h0 : s.st = 5) (hv : verP v) (hv8 : v.length = 8) (hmi : s.minor = minorOf v) (hd : staP d) (h3 : d.length = 3) (hst : s.status = statusOf d) (ha : allB 2 s.part = true) : Both true true 0 (v ++ 32 :: (d ++ 32 :: s.part)) c s := by
  by_cases h10 : c = 10
  · subst h10; exact .no rfl (by rw [step_5 _ h0]; exact row_no (by simp) (cls10 2))
  by_cases h13 : c = 13
  · subst h13
    refine .yes (doc13y (.inl (by rw [goes_sta, sta_c hv hv8 hd h3, ha]; rfl))) (by rw [step_5 _ h0]; exact row_end rfl rfl) (by rw [keep5 h0]; exact LineR.e6r (s := { s with part := [], reason := s.part, st := 6 }) (v := v) (d := d) rfl rfl hv hv8 hmi hd h3 hst ha) ?_
    rw [keep5 h0]
    exact ⟨rfl, rfl, rfl, rfl, rfl, by simp, fun h => by cases h⟩
  have e : (v ++ 32 :: (d ++ 32 :: s.part)) ++ [c] = v ++ 32 :: (d ++ 32 :: (s.part ++ [c])) := by simp
  cases hc : clsB 2 c with
  | false => exact .no (by rw [docC h10 h13, e, goes_sta, sta_c hv hv8 hd h3, allB_snoc, hc, ha]; rfl) (by rw [step_5 _ h0]; exact row_no (by simp [h13]) hc)
  | true => exact .yes (by rw [docC h10 h13, e, goes_sta, sta_c hv hv8 hd h3, allB_snoc, hc, ha]; rfl) (by rw [step_5 _ h0]; exact row_on (by simp [h13]) hc) (LineR.r5 (s := { s with part := s.part ++ [c] }) (v := v) (d := d) h0 hv hv8 hmi hd h3 hst (by rw [allB_snoc, ha, hc]; rfl)) (held_on (by omega))
theorem both_n7 {r : Bool} {nl : Nat} {s : PS} {c : UInt8} (hn : 0 < nl) (h0 : s.st = 7) (ha : allB 0 s.part = true) : Both r false nl s.part c s := by
  by_cases hs : s.part.length = 0 ∧ c = 13
  · obtain ⟨h1, rfl⟩ := hs
    have hp : s.part = [] := List.eq_nil_of_length_eq_zero h1
    refine .yes (doc13y (.inr ⟨hp, hn⟩)) (by rw [step_7 _ h0, if_pos ⟨h1, rfl⟩]) (by rw [show s.part ++ [13] = [13] from by rw [hp]; rfl]; exact LineR.e10 (s := { s with st := 10 }) rfl hp) ?_
    exact ⟨rfl, rfl, rfl, rfl, rfl, by simp, fun _ => ⟨rfl, rfl, rfl, rfl, rfl⟩⟩
  have hst := step_7 c h0
  rw [if_neg hs] at hst
  by_cases h10 : c = 10
  · subst h10; exact .no rfl (by rw [hst]; exact row_no (by simp) (cls10 0))
  by_cases h13 : c = 13
  · subst h13; exact .no (doc13 (by rw [goes_fld hn, fld_a ha]; rfl) (fun h => hs ⟨by rw [h.1]; rfl, rfl⟩)) (by rw [hst]; exact row_no (by simp) (cls13 0))
  by_cases h58 : c = 58
  · subst h58
    by_cases hp : s.part = []
    · exact .no (by rw [docC h10 h13, goes_fld hn, hp]; rfl) (by rw [hst]; exact row_no (by simp [hp]) (by decide))
    · refine .yes (by rw [docC h10 h13, goes_fld hn, fld_b ha hp, if_pos (by rfl)]) (by rw [hst]; exact row_end rfl (by simp [pos_len hp])) (by rw [keep7 h0]; exact LineR.f8 (s := { s with part := [], fn := s.part, st := 8 }) rfl hp ha rfl) ?_
      rw [keep7 h0]
      exact ⟨rfl, rfl, rfl, rfl, rfl, by simp, fun _ => ⟨rfl, rfl, rfl, rfl, rfl⟩⟩
  cases hc : clsB 0 c with
  | false => exact .no (by rw [docC h10 h13, goes_fld hn, fld_a1 ha h58, hc]; rfl) (by rw [hst]; exact row_no (by simp [h58]) hc)
  | true => exact .yes (by rw [docC h10 h13, goes_fld hn, fld_a1 ha h58, hc]; rfl) (by rw [hst]; exact row_on (by simp [h58]) hc) (LineR.n7 (s := { s with part := s.part ++ [c] }) h0 (by rw [allB_snoc, ha, hc]; rfl)) (held_on (by omega))
theorem both_f8 {r : Bool} {nl : Nat} {s : PS} {c : UInt8} (hn : 0 < nl) (h0 : s.st = 8) (hm : s.fn ≠ []) (hma : allB 0 s.fn = true) (ha : allB 2 s.part = true) : Both r false nl (s.fn ++ 58 :: s.part) c s := by
  by_cases h10 : c = 10
  · subst h10; exact .no rfl (by rw [step_8 _ h0]; exact row_no (by simp) (cls10 2))
  by_cases h13 : c = 13
  · subst h13
    refine .yes (doc13y (.inl (by rw [goes_fld hn, fld_b hma hm, ha]))) (by rw [step_8 _ h0]; exact row_end rfl rfl) (by rw [keep8 h0]; exact LineR.e9 (s := { s with part := [], fv := trimL s.part, st := 9 }) (q := s.part) rfl rfl hm hma ha rfl) ?_
    rw [keep8 h0]
    exact ⟨rfl, rfl, rfl, rfl, rfl, by simp, fun _ => ⟨rfl, rfl, rfl, rfl, rfl⟩⟩
  have e : (s.fn ++ 58 :: s.part) ++ [c] = s.fn ++ 58 :: (s.part ++ [c]) := by simp
  cases hc : clsB 2 c with
  | false => exact .no (by rw [docC h10 h13, e, goes_fld hn, fld_b hma hm, allB_snoc, hc, ha]; rfl) (by rw [step_8 _ h0]; exact row_no (by simp [h13]) hc)
  | true => exact .yes (by rw [docC h10 h13, e, goes_fld hn, fld_b hma hm, allB_snoc, hc, ha]; rfl) (by rw [step_8 _ h0]; exact row_on (by simp [h13]) hc) (LineR.f8 (s := { s with part := s.part ++ [c] }) h0 hm hma (by rw [allB_snoc, ha, hc]; rfl)) (held_on (by omega))
def fieldOf (l : B) : B × B := ((cutF 58 l).1, trimL (cutF 58 l).2.1)
/-- What the document tells of a first line. -/
def methodD (l : B) : B := (cutF 32 l).1
def targetD (l : B) : B := (cutF 32 (cutF 32 l).2.1).1
def byteNum (c : UInt8) : Int := (((c.toNat + 208) % 256 : Nat) : Int)
def minorD (l : B) : Int := byteNum (l.getLast?.getD 48)
def statusD (l : B) : Int := numN 10 999 ⟨((l.drop 9).take 3).toArray⟩
def reasonD (l : B) : B := l.drop 13
def minorR (l : B) : Int := byteNum (l.getD 7 48)
def FirstOk (resp : Bool) (l : B) (s : PS) : Prop :=
  if resp = true then 13 ≤ l.length ∧ s.status = statusD l ∧ s.reason = reasonD l ∧ s.minor = minorR l
  else requestB l true = true ∧ s.method = methodD l ∧ s.target = targetD l ∧ s.minor = minorD l
/-- A line of a field, whole. -/
def FldOk (l : B) : Prop := (cutF 58 l).2.2 = true
def LinesR (resp : Bool) : List B → PS → Prop
  | [], s => s.fields = []
  | l :: fs, s => FirstOk resp l s ∧ s.fields = fs.map fieldOf ∧ ∀ x ∈ fs, FldOk x
/-- A head under way, at both. -/
structure Under (h : HS) (s : PS) : Prop where
  err : h.err = 0
  done : h.done = false
  resp : s.resp = h.resp
  most : s.most = h.most
  taken : s.taken = h.len
  errP : s.err = 0
  st : s.st ≠ 11
  line : LineR h.resp h.lines.isEmpty h.line s
  lines : LinesR h.resp h.lines s
  few : h.lines.length ≤ 65
def Rel (h : HS) (s : PS) : Prop :=
  (h.err ≠ 0 ∧ s = spoilP h.len h.err) ∨
  (h.err = 0 ∧ h.done = true ∧ s.err = 0 ∧ s.st = 11 ∧ s.resp = h.resp ∧ s.taken = h.len ∧ h.lines ≠ [] ∧ LinesR h.resp h.lines s ∧ h.lines.length ≤ 65) ∨ Under h s
theorem LinesR.held {r : Bool} {ls : List B} {s s' : PS} (h : LinesR r ls s) (hh : Held ls.isEmpty s s') : LinesR r ls s' := by
  cases ls with
  | nil => exact hh.fields.trans h
  | cons l fs =>
    obtain ⟨h1, h2, h3⟩ := h
    obtain ⟨a, b, c, d, e⟩ := hh.rest rfl
    refine ⟨?_, hh.fields.trans h2, h3⟩
    unfold FirstOk at h1 ⊢
    rw [a, b, c, d, e]
    exact h1
theorem LineR.both {r : Bool} {nl : Nat} {l : B} {f : Bool} {s : PS} (h : LineR r f l s) (hf : f = true ↔ nl = 0) (c : UInt8) (h6 : s.st ≠ 6) (h9 : s.st ≠ 9) (h10 : s.st ≠ 10) : l.getLast? ≠ some 13 ∧ Both r f nl l c s := by
  cases h with
  | m0 a b => obtain rfl : nl = 0 := hf.1 rfl; exact ⟨all_last b, both_m0 a b⟩
  | t1 a b c d => obtain rfl : nl = 0 := hf.1 rfl; exact ⟨last_app (by decide) (all_last d), both_t1 a b c d⟩
  | v2 a b c d e f => obtain rfl : nl = 0 := hf.1 rfl; exact ⟨last_app (by decide) (last_app (by decide) (ver_last f)), both_v2 a b c d e f⟩
  | e6 a => exact absurd a h6
  | v3 a b => obtain rfl : nl = 0 := hf.1 rfl; exact ⟨ver_last b, both_v3 a b⟩
  | s4 a b c d e => obtain rfl : nl = 0 := hf.1 rfl; exact ⟨last_app (by decide) (sta_last e), both_s4 a b c d e⟩
  | r5 a b c d e f g h => obtain rfl : nl = 0 := hf.1 rfl; exact ⟨last_app (by decide) (last_app (by decide) (all_last h)), both_r5 a b c d e f g h⟩
  | e6r a => exact absurd a h6
  | n7 a b => have hn : 0 < nl := by have : ¬ nl = 0 := fun e => by simpa using hf.2 e
                                     omega
              exact ⟨all_last b, both_n7 hn a b⟩
  | f8 a b c d => have hn : 0 < nl := by have : ¬ nl = 0 := fun e => by simpa using hf.2 e
                                         omega
                  exact ⟨last_app (by decide) (all_last d), both_f8 hn a b c d⟩
  | e9 a => exact absurd a h9
  | e10 a => exact absurd a h10
theorem fault_kind {r f : Bool} {l : B} {s : PS} {nl : Nat} (h : LineR r f l s) (hf : f = true ↔ nl = 0) : faultN s.st = kindN nl := by
  cases h <;> (first | obtain rfl : nl = 0 := hf.1 rfl | have hn : 0 < nl := by have : ¬ nl = 0 := fun e => by simpa using hf.2 e
                                                                                omega) <;> simp_all [faultN, kindN]
theorem empty_iff (ls : List B) : ls.isEmpty = true ↔ ls.length = 0 := by simp
theorem numN_same {d : B} (h : staP d) (h3 : d.length = 3) : statusOf d = numN 10 999 ⟨d.toArray⟩ := by
  obtain ⟨a, b, c, rfl⟩ : ∃ a b c, d = [a, b, c] := by
    match d, h3 with
    | [a, b, c], _ => exact ⟨a, b, c, rfl⟩
  have ha := h.2 0 a rfl
  have hb := h.2 1 b rfl
  have hc := h.2 2 c rfl
  have hbd := b.toNat_lt
  have hcd := c.toNat_lt
  simp [staAt, digB] at ha hb hc
  have e1 : hexV (a.toNat : Int) = a.toNat - 48 := by unfold hexV; rw [if_pos (by omega)]
  have e2 : hexV (b.toNat : Int) = b.toNat - 48 := by unfold hexV; rw [if_pos (by omega)]
  have e3 : hexV (c.toNat : Int) = c.toNat - 48 := by unfold hexV; rw [if_pos (by omega)]
  have key : ∀ m : Int, 599 ≤ m → numN 10 m ⟨#[a, b, c]⟩ = if digAll 10 ⟨#[a, b, c]⟩ = false then 0 else ((a.toNat : Int) - 48) * 100 + ((b.toNat : Int) - 48) * 10 + ((c.toNat : Int) - 48) := by
    intro m hm
    unfold numN
    rw [if_neg (show ¬ m < 0 by omega)]
    congr 1
    show (numL 10 m [a, b, c] 0).getD 0 = _
    unfold numL
    rw [e1, if_neg (by omega)]
    unfold numL
    rw [e2, if_neg (by omega)]
    unfold numL
    rw [e3, if_neg (by omega)]
    unfold numL
    simp only [Option.getD_some]
    omega
  unfold statusOf
  exact (key 599 (by omega)).trans (key 999 (by omega)).symm
theorem end_yes {s : PS} {c : UInt8} {n : Nat} (hc : c = 10) (h9 : s.st ≠ 9) : endP s c n = some { s with st := n } := by unfold endP; rw [if_pos hc, if_neg h9]
theorem end_yes9 {s : PS} {c : UInt8} {n : Nat} (hc : c = 10) (h9 : s.st = 9) : endP s c n = some { s with fields := s.fields ++ [(s.fn, s.fv)], st := n } := by unfold endP; rw [if_pos hc, if_pos h9]
theorem end_no {s : PS} {c : UInt8} {n : Nat} (hc : c ≠ 10) : endP s c n = none := by unfold endP; rw [if_neg hc]
theorem kind_ne (n : Nat) : kindN n ≠ 0 := by unfold kindN; split <;> simp
theorem last_concat' (p : B) (x : UInt8) : (p ++ [x]).getLast? = some x := by simp
theorem line_new (r : Bool) (s : PS) (h : s.st = 7) (hp : s.part = []) : LineR r false [] s := by
  have := LineR.n7 (r := r) (s := s) h (by rw [hp]; rfl)
  rwa [hp] at this
/-- A byte more: both go on alike. -/
theorem Under.step {h : HS} {s : PS} (u : Under h s) (c : UInt8) : Rel (byteH h c) (takeP s c) := by
  obtain ⟨he, hd, hr, hm, ht, hep, h11, hline, hlines, hfew⟩ := u
  unfold takeP
  by_cases hsz : s.most < (s.taken : Int) + 1
  · rw [if_pos hsz]
    left
    unfold byteH
    rw [if_pos (by rw [← hm, ← ht]; exact hsz)]
    exact ⟨by simp, by rw [ht]⟩
  rw [if_neg hsz]
  have hsz' : ¬ h.most < (h.len : Int) + 1 := by rw [← hm, ← ht]; exact hsz
  have hline1 := hline.taken (s.taken + 1)
  obtain ⟨s1, hs1⟩ : ∃ s1, s1 = { s with taken := s.taken + 1 } := ⟨_, rfl⟩
  rw [← hs1] at hline1 ⊢
  have hst : s1.st = s.st := by rw [hs1]
  have hlines1 : LinesR h.resp h.lines s1 := by
    rw [hs1]
    cases hl : h.lines with
    | nil => rw [hl] at hlines; exact hlines
    | cons l fs => rw [hl] at hlines; exact hlines
  have hfk := fault_kind hline (empty_iff h.lines)
  by_cases h6 : s.st = 6
  · -- the first line's end
    rw [step_6 _ (by rw [hst]; exact h6)]
    have key : ∃ l0, h.lines = [] ∧ h.line = l0 ++ [13] ∧ l0 ≠ [] ∧ FirstOk h.resp l0 s1 ∧ s1.part = [] := by
      rw [← hst] at h6
      have hb : h.lines.isEmpty = true ∧ ∃ l0, h.line = l0 ++ [13] ∧ l0 ≠ [] ∧ FirstOk h.resp l0 s1 ∧ s1.part = [] := by
        revert hline1
        generalize h.lines.isEmpty = f
        generalize h.line = l
        generalize h.resp = r
        intro hline1
        cases hline1 with
        | e6 a b c d e f g h i =>
          rename_i v
          refine ⟨rfl, _, rfl, by simp, ?_, b⟩
          unfold FirstOk
          rw [if_neg (by simp)]
          refine ⟨?_, ?_, ?_, ?_⟩
          · rw [req_b d c, rest_b f e]; exact (begins_whole _).2 ⟨g, h⟩
          · unfold methodD; rw [cutF_at _ _ (tok_mem d).1]
          · unfold targetD; rw [cutF_at _ _ (tok_mem d).1, cutF_at _ _ (vis_mem f)]
          · rw [i]
            unfold minorD minorOf byteNum
            rcases ver_full g h with rfl | rfl
            · rw [show (s1.method ++ 32 :: (s1.target ++ 32 :: ver0)) = (s1.method ++ 32 :: (s1.target ++ 32 :: [72, 84, 84, 80, 47, 49, 46])) ++ [48] from by simp [ver0], last_concat']; rfl
            · rw [show (s1.method ++ 32 :: (s1.target ++ 32 :: ver1)) = (s1.method ++ 32 :: (s1.target ++ 32 :: [72, 84, 84, 80, 47, 49, 46])) ++ [49] from by simp [ver1], last_concat']; rfl
        | e6r a b c d e f g h i =>
          rename_i v dd
          refine ⟨rfl, _, rfl, by simp, ?_, b⟩
          unfold FirstOk
          rw [if_pos rfl]
          refine ⟨by simp; omega, ?_, ?_, ?_⟩
          · rw [h, numN_same f g]
            unfold statusD
            rw [List.drop_append, d, List.drop_of_length_le (by omega), List.nil_append, show (9 - 8) = 1 from rfl, List.drop_succ_cons, List.drop_zero, List.take_append_of_le_length (by omega), List.take_of_length_le (by omega)]
          · unfold reasonD
            rw [drop13 d, List.drop_append, g, List.drop_of_length_le (by omega)]; rfl
          · rw [e]
            unfold minorR minorOf byteNum
            congr 4
            simp only [List.getD_eq_getElem?_getD]
            rw [List.getElem?_append_left (by omega)]
        | m0 a => rw [a] at h6; cases h6
        | t1 a => rw [a] at h6; cases h6
        | v2 a => rw [a] at h6; cases h6
        | v3 a => rw [a] at h6; cases h6
        | s4 a => rw [a] at h6; cases h6
        | r5 a => rw [a] at h6; cases h6
        | n7 a => rw [a] at h6; cases h6
        | f8 a => rw [a] at h6; cases h6
        | e9 a => rw [a] at h6; cases h6
        | e10 a => rw [a] at h6; cases h6
      obtain ⟨hb1, l0, e1, e2, e3, e4⟩ := hb
      exact ⟨l0, List.isEmpty_iff.1 hb1, e1, e2, e3, e4⟩
    obtain ⟨l0, hls, hl, hl0, hfo, hpart⟩ := key
    unfold byteH
    rw [if_neg hsz', if_pos (by rw [hl]; exact last_concat' _ _)]
    by_cases hc : c = 10
    · rw [if_pos hc, if_neg (by rw [hls]; simp)]
      rw [end_yes hc (by omega)]
      rw [hls] at hlines1
      have hf0 : s1.fields = [] := hlines1
      dsimp only
      rw [if_neg (show ¬ 64 < s1.fields.length by rw [hf0]; simp)]
      right; right
      refine ⟨by rw [if_neg (by rw [hls]; simp)]; exact he, hd, by rw [hs1]; exact hr, by rw [hs1]; exact hm, by rw [hs1]; simp [ht], by rw [hs1]; exact hep, by simp, ?_, ?_, by rw [hls]; simp⟩
      · have h0 := line_new h.resp { s1 with st := 7 } rfl hpart
        simpa [hls] using h0
      · rw [hls, hl]
        refine ⟨?_, ?_, by simp⟩
        · rw [List.dropLast_concat]
          exact hfo
        · simpa using hf0
    · rw [if_neg hc]
      rw [end_no hc]
      left
      exact ⟨kind_ne _, by rw [hfk, ht]⟩
  by_cases h9 : s.st = 9
  · rw [step_9 _ (by rw [hst]; exact h9)]
    have key : ∃ q, h.lines ≠ [] ∧ h.line = (s1.fn ++ 58 :: q) ++ [13] ∧ s1.fn ≠ [] ∧ allB 0 s1.fn = true ∧ s1.fv = trimL q ∧ s1.part = [] := by
      rw [← hst] at h9
      have hb : h.lines.isEmpty = false ∧ ∃ q, h.line = (s1.fn ++ 58 :: q) ++ [13] ∧ s1.fn ≠ [] ∧ allB 0 s1.fn = true ∧ s1.fv = trimL q ∧ s1.part = [] := by
        revert hline1
        generalize h.lines.isEmpty = f
        generalize h.line = l
        generalize h.resp = r
        intro hline1
        cases hline1 with
        | e9 a b c d e f => exact ⟨rfl, _, rfl, c, d, f, b⟩
        | e6 a => rw [a] at h9; cases h9
        | e6r a => rw [a] at h9; cases h9
        | m0 a => rw [a] at h9; cases h9
        | t1 a => rw [a] at h9; cases h9
        | v2 a => rw [a] at h9; cases h9
        | v3 a => rw [a] at h9; cases h9
        | s4 a => rw [a] at h9; cases h9
        | r5 a => rw [a] at h9; cases h9
        | n7 a => rw [a] at h9; cases h9
        | f8 a => rw [a] at h9; cases h9
        | e10 a => rw [a] at h9; cases h9
      obtain ⟨hb1, q, e1, e2, e3, e4, e5⟩ := hb
      exact ⟨q, by simpa using hb1, e1, e2, e3, e4, e5⟩
    obtain ⟨q, hne, hl, hfn, hfa, hfv, hpart⟩ := key
    unfold byteH
    rw [if_neg hsz', if_pos (by rw [hl]; exact last_concat' _ _)]
    by_cases hc : c = 10
    · rw [if_pos hc, if_neg (by rw [hl, List.dropLast_concat]; simp)]
      rw [end_yes9 hc (by rw [hst]; exact h9)]
      dsimp only
      cases hls : h.lines with
      | nil => exact absurd hls hne
      | cons l0 fs =>
        rw [hls] at hlines1
        obtain ⟨hfo, hfl, hok⟩ := hlines1
        have hlen : (s1.fields ++ [(s1.fn, s1.fv)]).length = fs.length + 1 := by rw [hfl]; simp
        by_cases hmany : 64 < (s1.fields ++ [(s1.fn, s1.fv)]).length
        · rw [if_pos hmany]
          left
          rw [if_pos (by simp; omega)]
          exact ⟨by simp, by rw [ht]⟩
        · rw [if_neg hmany]
          right; right
          refine ⟨by rw [if_neg (by simp; omega)]; exact he, hd, by rw [hs1]; exact hr, by rw [hs1]; exact hm, by rw [hs1]; simp [ht], by rw [hs1]; exact hep, by simp, ?_, ?_, by simp; omega⟩
          · have h0 := line_new h.resp { s1 with fields := s1.fields ++ [(s1.fn, s1.fv)], st := 7 } rfl hpart
            simpa using h0
          · refine ⟨hfo, ?_, ?_⟩
            · dsimp only
              rw [show fs.append [List.dropLast h.line] = fs ++ [List.dropLast h.line] from rfl, List.map_append, hfl, hl, List.dropLast_concat]
              simp only [List.map_cons, List.map_nil, fieldOf]
              rw [cutF_at _ _ (tok_mem hfa).2, hfv]
            · intro x hx
              rcases List.mem_append.1 hx with hx | hx
              · exact hok x hx
              · rw [List.mem_singleton.1 hx, hl, List.dropLast_concat]
                unfold FldOk
                rw [cutF_at _ _ (tok_mem hfa).2]
    · rw [if_neg hc]
      rw [end_no hc]
      left
      exact ⟨kind_ne _, by rw [hfk, ht]⟩
  by_cases h10 : s.st = 10
  · rw [step_10 _ (by rw [hst]; exact h10)]
    have key : h.lines ≠ [] ∧ h.line = [13] := by
      rw [← hst] at h10
      have hb : h.lines.isEmpty = false ∧ h.line = [13] := by
        revert hline1
        generalize h.lines.isEmpty = f
        generalize h.line = l
        generalize h.resp = r
        intro hline1
        cases hline1 with
        | e10 a b => exact ⟨rfl, rfl⟩
        | e9 a => rw [a] at h10; cases h10
        | e6 a => rw [a] at h10; cases h10
        | e6r a => rw [a] at h10; cases h10
        | m0 a => rw [a] at h10; cases h10
        | t1 a => rw [a] at h10; cases h10
        | v2 a => rw [a] at h10; cases h10
        | v3 a => rw [a] at h10; cases h10
        | s4 a => rw [a] at h10; cases h10
        | r5 a => rw [a] at h10; cases h10
        | n7 a => rw [a] at h10; cases h10
        | f8 a => rw [a] at h10; cases h10
      exact ⟨by simpa using hb.1, hb.2⟩
    obtain ⟨hne, hl⟩ := key
    unfold byteH
    rw [if_neg hsz', if_pos (by rw [hl]; rfl)]
    by_cases hc : c = 10
    · rw [if_pos hc, if_pos ⟨by rw [hl]; rfl, hne⟩]
      rw [end_yes hc (by rw [hst]; omega)]
      dsimp only
      have hle : s1.fields.length ≤ 64 := by
        cases hls : h.lines with
        | nil => exact absurd hls hne
        | cons l0 fs =>
          rw [hls] at hlines1 hfew
          rw [hlines1.2.1]
          simp at hfew ⊢
          omega
      rw [if_neg (by omega)]
      right; left
      refine ⟨he, rfl, by rw [hs1]; exact hep, rfl, by rw [hs1]; exact hr, by rw [hs1]; simp [ht], hne, ?_, hfew⟩
      cases hls : h.lines with
      | nil => exact absurd hls hne
      | cons l fs => rw [hls] at hlines1; exact hlines1
    · rw [if_neg hc]
      rw [end_no hc]
      left
      exact ⟨kind_ne _, by rw [hfk, ht]⟩
  · obtain ⟨hlast, hboth⟩ := hline1.both (nl := h.lines.length) (empty_iff h.lines) c (by rw [hst]; exact h6) (by rw [hst]; exact h9) (by rw [hst]; exact h10)
    rw [byte_doc h c hsz' hlast]
    rcases hboth with ⟨e1, e2⟩ | ⟨l', s', e1, e2, e3, e4⟩
    · rw [e1, e2]
      left
      exact ⟨kind_ne _, by rw [hfk, ht]⟩
    · rw [e1, e2]
      dsimp only
      have hl2 := hlines1.held e4
      have hle : s'.fields.length ≤ 64 := by
        rw [e4.fields]
        cases hls : h.lines with
        | nil => rw [hls] at hlines1; rw [show s1.fields = [] from hlines1]; simp
        | cons l0 fs =>
          rw [hls] at hlines1 hfew
          rw [hlines1.2.1]
          simp at hfew ⊢
          omega
      rw [if_neg (by omega)]
      right; right
      exact ⟨he, hd, by rw [e4.resp, hs1]; exact hr, by rw [e4.most, hs1]; exact hm, by rw [e4.taken, hs1]; simp [ht], by rw [e4.err, hs1]; exact hep, e4.st, e3, hl2, hfew⟩
end Go.Proofs.YtnlmjlfoeodleaaGreatDoor
