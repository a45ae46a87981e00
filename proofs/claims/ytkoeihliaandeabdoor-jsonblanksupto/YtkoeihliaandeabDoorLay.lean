/- Blanks laid around the signs of a printed text change nothing of what is read. -/
import Derived.Test.YtkoeihliaandeabDoorFit
import Derived.Test.YtkoeihliaandeabDoorRefP
namespace Go.Proofs.YtkoeihliaandeabDoor

/-- A sign around which blanks may stand. -/
def signB (c : UInt8) : Bool := [91, 93, 123, 125, 44, 58].contains c
/-- Whether a text goes on, and whether a backslash stands ahead, behind a byte. -/
def tnext (t e : Bool) (c : UInt8) : Bool × Bool := if e then (t, false) else if t && c == 92 then (t, true) else if c == 34 then (!t, false) else (t, false)
def lay (g : Nat → UInt8) : Nat → Bool → Bool → B → B
  | _, _, _, [] => []
  | k, t, e, c :: s => if (!t && signB c) = true then g k :: c :: 32 :: lay g (k + 1) (tnext t e c).1 (tnext t e c).2 s else c :: lay g k (tnext t e c).1 (tnext t e c).2 s
section
variable (g : Nat → UInt8)
theorem sign_cases {c : UInt8} (h : signB c = true) : c = 91 ∨ c = 93 ∨ c = 123 ∨ c = 125 ∨ c = 44 ∨ c = 58 := by
  simpa [signB] using h
theorem lay_sign {c : UInt8} (h : signB c = true) (k : Nat) (s : B) : lay g k false false (c :: s) = g k :: c :: 32 :: lay g (k + 1) false false s := by
  rcases sign_cases h with rfl | rfl | rfl | rfl | rfl | rfl <;> rfl
theorem lay_plain {c : UInt8} (h : signB c = false) (h2 : c ≠ 34) (k : Nat) (s : B) : lay g k false false (c :: s) = c :: lay g k false false s := by
  have e : tnext false false c = (false, false) := by simp [tnext, h2]
  simp [lay, h, e]
theorem lay_open (k : Nat) (s : B) : lay g k false false (34 :: s) = 34 :: lay g k true false s := rfl
theorem lay_shut (k : Nat) (s : B) : lay g k true false (34 :: s) = 34 :: lay g k false false s := rfl
theorem lay_back (k : Nat) (s : B) : lay g k true false (92 :: s) = 92 :: lay g k true true s := rfl
theorem lay_esc (k : Nat) (c : UInt8) (s : B) : lay g k true true (c :: s) = c :: lay g k true false s := rfl
theorem lay_in {c : UInt8} (h : c ≠ 34) (h2 : c ≠ 92) (k : Nat) (s : B) : lay g k true false (c :: s) = c :: lay g k true false s := by
  have e : tnext true false c = (true, false) := by simp [tnext, h, h2]
  simp [lay, e]
theorem lay_plains (k : Nat) (r : B) : ∀ l : B, (∀ c ∈ l, signB c = false ∧ c ≠ 34) → lay g k false false (l ++ r) = l ++ lay g k false false r
  | [], _ => rfl
  | c :: l, h => by
    obtain ⟨h1, h2⟩ := h c (by simp)
    rw [List.cons_append, lay_plain g h1 h2, lay_plains k r l (fun x hx => h x (by simp [hx]))]
    rfl
theorem hexD_ne : ∀ n, n < 16 → hexD n ≠ 34 ∧ hexD n ≠ 92 := by decide
theorem lay_escs (k : Nat) (r : B) : ∀ s : B, lay g k true false (escs s ++ 34 :: r) = escs s ++ 34 :: lay g k false false r
  | [] => rfl
  | c :: s => by
    have ih := lay_escs k r s
    have e0 : escs (c :: s) = esc c ++ escs s := rfl
    rw [e0, List.append_assoc, List.append_assoc]
    unfold esc
    by_cases h1 : c = 34 ∨ c = 92
    · rw [if_pos h1]
      simp only [List.cons_append, List.nil_append]
      rw [lay_back, lay_esc, ih]
    · rw [if_neg h1]
      by_cases h2 : c = 10
      · rw [if_pos h2]
        simp only [List.cons_append, List.nil_append]
        rw [lay_back, lay_esc, ih]
      · rw [if_neg h2]
        by_cases h3 : c = 13
        · rw [if_pos h3]
          simp only [List.cons_append, List.nil_append]
          rw [lay_back, lay_esc, ih]
        · rw [if_neg h3]
          by_cases h4 : c = 9
          · rw [if_pos h4]
            simp only [List.cons_append, List.nil_append]
            rw [lay_back, lay_esc, ih]
          · rw [if_neg h4]
            by_cases h5 : c.toNat < 32
            · rw [if_pos h5]
              obtain ⟨a1, a2⟩ := hexD_ne (c.toNat / 16) (by omega)
              obtain ⟨b1, b2⟩ := hexD_ne (c.toNat % 16) (by omega)
              simp only [List.cons_append, List.nil_append]
              rw [lay_back, lay_esc, lay_in g (by decide) (by decide), lay_in g (by decide) (by decide), lay_in g a1 a2, lay_in g b1 b2, ih]
            · rw [if_neg h5]
              simp only [List.cons_append, List.nil_append]
              rw [lay_in g (fun e => h1 (.inl e)) (fun e => h1 (.inr e)), ih]
theorem lay_quote (k : Nat) (s r : B) : lay g k false false (quoteB s ++ r) = quoteB s ++ lay g k false false r := by
  unfold quoteB
  simp only [List.cons_append, List.append_assoc, List.nil_append]
  rw [lay_open, lay_escs]
theorem lay_len : ∀ (l : B) (k : Nat) (t e : Bool), (lay g k t e l).length ≤ 3 * l.length
  | [], _, _, _ => Nat.le_refl _
  | c :: l, k, t, e => by
    simp only [lay]
    split
    · have := lay_len l (k + 1) (tnext t e c).1 (tnext t e c).2
      simp only [List.length_cons]
      omega
    · have := lay_len l k (tnext t e c).1 (tnext t e c).2
      simp only [List.length_cons]
      omega
end
/-- What is read of a text with blanks in it. -/
def ReadsB (f : B → Res JV) (v : JV) (o : B) : Prop := ∀ r, Free r → ∃ u, f (blanks (o ++ r)) = .ok v u ∧ blanks u = blanks r
/-- It begins with no end of a list or an object. -/
def HeadB (o : B) : Prop := ∃ c t, (o = c :: t ∨ ∃ b, blanksL.contains b = true ∧ o = b :: c :: t) ∧ blanksL.contains c = false ∧ c ≠ 93 ∧ c ≠ 125
theorem blank_skip {b : UInt8} (h : blanksL.contains b = true) (l : B) : blanks (b :: l) = blanks l := by
  show skips blanksL (b :: l) = _
  simp only [skips]
  rw [if_pos h]
theorem blank_stop {c : UInt8} (h : blanksL.contains c = false) (l : B) : blanks (c :: l) = c :: l := by
  show skips blanksL (c :: l) = _
  simp only [skips]
  rw [if_neg (by rw [h]; decide)]
theorem HeadB.go {o : B} (h : HeadB o) (r : B) : ∃ c t, blanks (o ++ r) = c :: t ∧ c ≠ 93 ∧ c ≠ 125 ∧ o.length + r.length ≤ t.length + 2 := by
  obtain ⟨c, t, h1 | ⟨b, h0, h1⟩, h2, h3, h4⟩ := h
  · subst h1
    refine ⟨c, t ++ r, ?_, h3, h4, by simp only [List.length_cons, List.length_append]; omega⟩
    rw [List.cons_append, blank_stop h2]
  · subst h1
    refine ⟨c, t ++ r, ?_, h3, h4, by simp only [List.length_cons, List.length_append]; omega⟩
    rw [List.cons_append, blank_skip h0, List.cons_append, blank_stop h2]
theorem Head.toB {o : B} (h : Head o) : HeadB o := by
  obtain ⟨c, r, rfl, h1, h2, h3⟩ := h
  exact ⟨c, r, .inl rfl, h1, h2, h3⟩
def LaidV (g : Nat → UInt8) (f : B → Res JV) (v : JV) : Prop := ∀ k, ∃ k' o, (∀ r, lay g k false false (printV v ++ r) = o ++ lay g k' false false r) ∧ ReadsB f v o ∧ HeadB o
theorem free_blank {b : UInt8} (h : blanksL.contains b = true) (r : B) : Free (b :: r) := fun c t e => by
  cases e
  have : b = 32 ∨ b = 9 ∨ b = 10 ∨ b = 13 := by simpa [blanksL] using h
  rcases this with rfl | rfl | rfl | rfl <;> decide
theorem blanks_sign {b c : UInt8} (h : blanksL.contains b = true) (hc : signB c = true) (l : B) : blanks (b :: c :: l) = c :: l := by
  rw [blank_skip h]
  apply blank_stop
  rcases sign_cases hc with rfl | rfl | rfl | rfl | rfl | rfl <;> decide
theorem parts_lay {g : Nat → UInt8} (hg : ∀ k, blanksL.contains (g k) = true) {f : B → Res JV} : ∀ (xs : List JV) (x : JV) (ns : List B) (k : Nat), (∀ y ∈ x :: xs, LaidV g f y) →
    ∃ k' o, (∀ r, lay g k false false (printV x ++ (printL false false xs ns ++ 93 :: r)) = o ++ lay g k' false false r) ∧ xs.length + 3 ≤ o.length ∧ HeadB o ∧
      ∀ r acc gas, xs.length < gas → partsF (listStep f) [93] gas acc (blanks (o ++ r)) = .ok (acc.1, acc.2 ++ x :: xs) (32 :: r)
  | [], x, ns, k, h => by
    obtain ⟨k1, o, h1, h2, h3⟩ := h x (by simp) k
    have hh := h3
    obtain ⟨c, t, hot, q1, q2, q3⟩ := h3
    refine ⟨k1 + 1, o ++ [g k1, 93, 32], fun r => ?_, ?_, ?_, fun r acc gas hgas => ?_⟩
    · simp only [printL, List.nil_append]
      rw [h1, lay_sign g (by decide)]
      simp
    · rcases hot with rfl | ⟨b, _, rfl⟩ <;> simp
    · rcases hot with rfl | ⟨b, hb, rfl⟩
      · exact ⟨c, t ++ [g k1, 93, 32], .inl rfl, q1, q2, q3⟩
      · exact ⟨c, t ++ [g k1, 93, 32], .inr ⟨b, hb, rfl⟩, q1, q2, q3⟩
    · cases gas with
      | zero => omega
      | succ gas =>
        obtain ⟨u, e1, e2⟩ := h2 (g k1 :: 93 :: 32 :: r) (free_blank (hg k1) _)
        rw [blanks_sign (hg k1) (by decide)] at e2
        have e3 : listStep f acc (blanks (o ++ [g k1, 93, 32] ++ r)) = .ok (acc.1, acc.2 ++ [x]) u := by
          unfold listStep
          rw [show o ++ [g k1, 93, 32] ++ r = o ++ g k1 :: 93 :: 32 :: r by simp, e1]
        simp only [partsF, e3, e2]
        rfl
  | y :: ys, x, ns, k, h => by
    obtain ⟨k1, o1, h1, h2, h3⟩ := h x (by simp) k
    obtain ⟨k2, o2, i1, i2, i4, i3⟩ := parts_lay hg ys y ns.tail (k1 + 1) (fun z hz => h z (by simp only [List.mem_cons] at hz ⊢; exact .inr hz))
    have hh := h3
    obtain ⟨c, t, hot, q1, q2, q3⟩ := h3
    refine ⟨k2, o1 ++ g k1 :: 44 :: 32 :: o2, fun r => ?_, ?_, ?_, fun r acc gas hgas => ?_⟩
    · have e0 : printL false false (y :: ys) ns = 44 :: (printV y ++ printL false false ys ns.tail) := by simp [printL]
      rw [e0, h1]
      simp only [List.cons_append, List.append_assoc]
      rw [lay_sign g (by decide), i1]
    · simp only [List.length_append, List.length_cons]
      omega
    · rcases hot with rfl | ⟨b, hb, rfl⟩
      · exact ⟨c, t ++ g k1 :: 44 :: 32 :: o2, .inl rfl, q1, q2, q3⟩
      · exact ⟨c, t ++ g k1 :: 44 :: 32 :: o2, .inr ⟨b, hb, rfl⟩, q1, q2, q3⟩
    · cases gas with
      | zero => omega
      | succ gas =>
        obtain ⟨u, e1, e2⟩ := h2 (g k1 :: 44 :: 32 :: (o2 ++ r)) (free_blank (hg k1) _)
        rw [blanks_sign (hg k1) (by decide)] at e2
        have e3 : listStep f acc (blanks (o1 ++ g k1 :: 44 :: 32 :: o2 ++ r)) = .ok (acc.1, acc.2 ++ [x]) u := by
          unfold listStep
          rw [show o1 ++ g k1 :: 44 :: 32 :: o2 ++ r = o1 ++ g k1 :: 44 :: 32 :: (o2 ++ r) by simp, e1]
        have s1 : skip [93] (44 :: 32 :: (o2 ++ r)) = none := rfl
        have s2 : skip [44] (44 :: 32 :: (o2 ++ r)) = some (32 :: (o2 ++ r)) := rfl
        have s3 : blanks (32 :: (o2 ++ r)) = blanks (o2 ++ r) := blank_skip (by decide) _
        simp only [partsF, e3, e2, s1, s2]
        rw [s3, i3 r (acc.1, acc.2 ++ [x]) gas (by simp only [List.length_cons] at hgas; omega)]
        simp
theorem name_lay {ns : List B} {nm r : B} {b : UInt8} (hb : blanksL.contains b = true) (hv : Lib.validD nm = true) (hc : ns.contains nm = false) : nameS ns (quoteB nm ++ b :: 58 :: 32 :: r) = .ok nm (blanks r) := by
  unfold nameS
  rw [if_neg (by simp [quoteB, nx]), text_quote nm hv]
  simp only
  rw [if_neg (by rw [hc]; decide), blanks_sign hb (by decide)]
  have s : skip [58] (58 :: 32 :: r) = some (32 :: r) := rfl
  simp only [s]
  rw [blank_skip (by decide)]
theorem members_lay {g : Nat → UInt8} (hg : ∀ k, blanksL.contains (g k) = true) {f : B → Res JV} : ∀ (xs : List JV) (x : JV) (nms : List B) (nm : B) (k : Nat), (∀ y ∈ x :: xs, LaidV g f y) → (∀ z ∈ nm :: nms, Lib.validD z = true) → nms.length = xs.length →
    ∃ k' o, (∀ r, lay g k false false (quoteB nm ++ 58 :: (printV x ++ (printL true false xs nms ++ 125 :: r))) = o ++ lay g k' false false r) ∧ xs.length + 3 ≤ o.length ∧ (∃ t, o = 34 :: t) ∧
      ∀ r acc gas, xs.length < gas → Fresh acc.1 (nm :: nms) → partsF (objStep f) [125] gas acc (o ++ r) = .ok (acc.1 ++ nm :: nms, acc.2 ++ x :: xs) (32 :: r)
  | [], x, nms, nm, k, h, hva, hl => by
    have hn0 : nms = [] := by simpa using hl
    subst hn0
    obtain ⟨k1, o, h1, h2, h3⟩ := h x (by simp) (k + 1)
    refine ⟨k1 + 1, quoteB nm ++ g k :: 58 :: 32 :: (o ++ [g k1, 125, 32]), fun r => ?_, ?_, ⟨_, rfl⟩, fun r acc gas hgas hfr => ?_⟩
    · simp only [printL, List.nil_append]
      rw [lay_quote, lay_sign g (by decide), h1, lay_sign g (by decide)]
      simp
    · simp only [List.length_append, List.length_cons, List.length_nil]
      omega
    · cases gas with
      | zero => omega
      | succ gas =>
        obtain ⟨u, e1, e2⟩ := h2 (g k1 :: 125 :: 32 :: r) (free_blank (hg k1) _)
        rw [blanks_sign (hg k1) (by decide)] at e2
        have e3 : objStep f acc (quoteB nm ++ g k :: 58 :: 32 :: (o ++ [g k1, 125, 32]) ++ r) = .ok (acc.1 ++ [nm], acc.2 ++ [x]) u := by
          unfold objStep
          rw [show quoteB nm ++ g k :: 58 :: 32 :: (o ++ [g k1, 125, 32]) ++ r = quoteB nm ++ g k :: 58 :: 32 :: (o ++ g k1 :: 125 :: 32 :: r) by simp, name_lay (hg k) (hva nm (by simp)) hfr.1]
          simp only
          rw [e1]
        simp only [partsF, e3, e2]
        rfl
  | y :: ys, x, nms, nm, k, h, hva, hl => by
    cases nms with
    | nil => simp at hl
    | cons nm2 nms2 =>
      obtain ⟨k1, o1, h1, h2, h3⟩ := h x (by simp) (k + 1)
      obtain ⟨k2, o2, i1, i2, ⟨t2, it⟩, i3⟩ := members_lay hg ys y nms2 nm2 (k1 + 1) (fun z hz => h z (by simp only [List.mem_cons] at hz ⊢; exact .inr hz)) (fun z hz => hva z (by simp only [List.mem_cons] at hz ⊢; exact .inr hz)) (by simpa using hl)
      refine ⟨k2, quoteB nm ++ g k :: 58 :: 32 :: (o1 ++ g k1 :: 44 :: 32 :: o2), fun r => ?_, ?_, ⟨_, rfl⟩, fun r acc gas hgas hfr => ?_⟩
      · have e0 : printL true false (y :: ys) (nm2 :: nms2) = 44 :: (quoteB nm2 ++ 58 :: (printV y ++ printL true false ys nms2)) := by simp [printL]
        rw [e0, lay_quote, lay_sign g (by decide), h1]
        simp only [List.cons_append, List.append_assoc]
        rw [lay_sign g (by decide), i1]
      · simp only [List.length_append, List.length_cons]
        omega
      · cases gas with
        | zero => omega
        | succ gas =>
          obtain ⟨u, e1, e2⟩ := h2 (g k1 :: 44 :: 32 :: (o2 ++ r)) (free_blank (hg k1) _)
          rw [blanks_sign (hg k1) (by decide)] at e2
          have e3 : objStep f acc (quoteB nm ++ g k :: 58 :: 32 :: (o1 ++ g k1 :: 44 :: 32 :: o2) ++ r) = .ok (acc.1 ++ [nm], acc.2 ++ [x]) u := by
            unfold objStep
            rw [show quoteB nm ++ g k :: 58 :: 32 :: (o1 ++ g k1 :: 44 :: 32 :: o2) ++ r = quoteB nm ++ g k :: 58 :: 32 :: (o1 ++ g k1 :: 44 :: 32 :: (o2 ++ r)) by simp, name_lay (hg k) (hva nm (by simp)) hfr.1]
            simp only
            rw [e1]
          have s1 : skip [125] (44 :: 32 :: (o2 ++ r)) = none := rfl
          have s2 : skip [44] (44 :: 32 :: (o2 ++ r)) = some (32 :: (o2 ++ r)) := rfl
          have s3 : blanks (32 :: (o2 ++ r)) = o2 ++ r := by
            rw [blank_skip (by decide), it, List.cons_append, blank_stop (by decide)]
          simp only [partsF, e3, e2, s1, s2]
          rw [s3, i3 r (acc.1 ++ [nm], acc.2 ++ [x]) gas (by simp only [List.length_cons] at hgas; omega) hfr.2]
          simp
theorem num_plain : ∀ c ∈ numL, signB c = false ∧ c ≠ 34 := by decide
theorem nstep_mem {c : UInt8} {q k : Nat} (hq : q ≤ 8) (h : nstepN q c.toNat = some k) : numL.contains c = true ∧ k ≤ 8 := by
  have key : ∀ n, n < 256 → ∀ q, q < 9 → ∀ k, nstepN q (UInt8.ofNat n).toNat = some k → numL.contains (UInt8.ofNat n) = true ∧ k ≤ 8 := by
    intro n hn q hq k hk
    have key2 : ∀ n : Fin 256, ∀ q : Fin 9, (nstepN q.val (UInt8.ofNat n.val).toNat).all (fun k => numL.contains (UInt8.ofNat n.val) && decide (k ≤ 8)) = true := by decide +kernel
    have := key2 ⟨n, hn⟩ ⟨q, hq⟩
    simp only [hk, Option.all_some, Bool.and_eq_true, decide_eq_true_eq] at this
    exact this
  have := key c.toNat c.toNat_lt q (by omega) k
  rw [UInt8.ofNat_toNat] at this
  exact this h
theorem runU_mem : ∀ (l : B) (q : Nat), q ≤ 8 → (nrunU q l).2 = [] → ∀ c ∈ l, numL.contains c = true
  | [], _, _, _, c, h => by simp at h
  | c :: t, q, hq, h, x, hx => by
    cases hs : nstepN q c.toNat with
    | none => rw [step_none hs] at h; cases h
    | some q' =>
      rw [step_some hs] at h
      obtain ⟨h1, h2⟩ := nstep_mem hq hs
      simp only [List.mem_cons] at hx
      rcases hx with rfl | hx
      · exact h1
      · exact runU_mem t q' h2 h x hx
theorem num_mem {t : B} (h : isNum t = true) : ∀ c ∈ t, numL.contains c = true := by
  have h1 := (number_parts (isNum_ok h)).1
  rw [← run0] at h1
  have e : (nrunU 0 t).2 = [] := by
    have := nend_left (nrunU 0 t).1 (nrunU 0 t).2
    rw [show nend (nrunU 0 t).1 (nrunU 0 t).2 = .ok () [] from h1] at this
    exact this.symm
  exact runU_mem t 0 (by omega) e
/-- A value with no parts: what is laid is what was printed. -/
theorem flat_lay {g : Nat → UInt8} {f : B → Res JV} {v : JV} (hp : ∀ k r, lay g k false false (printV v ++ r) = printV v ++ lay g k false false r) (hf : fault v = 0) (hr : Reads f v) : LaidV g f v := fun k => by
  have hh := print_head hf
  refine ⟨k, printV v, hp k, fun r hfr => ⟨r, ?_, rfl⟩, hh.toB⟩
  rw [hh.blanks]
  exact hr r hfr
theorem val_lay {g : Nat → UInt8} (hg : ∀ k, blanksL.contains (g k) = true) : ∀ (n : Nat) (v : JV), fault v = 0 → depthN (n + 1) v ≤ n → LaidV g (val n) v := by
  intro n
  induction n with
  | zero =>
    intro v hf hd
    refine flat_lay (fun k r => ?_) hf (val_print 0 v hf hd)
    obtain ⟨k0, b, t, m, hh, ls, ns⟩ := v
    obtain ⟨h1, _, _⟩ := fault_zero hf
    rcases formed_cases h1 with e | e | ⟨e1, rfl, e⟩ | ⟨e1, e⟩ | e | ⟨_, _, e⟩
    · rw [e]; rfl
    · rw [e]; cases b <;> rfl
    · exact lay_plains g k r t (fun c hc => num_plain c (by simpa using num_mem e1 c hc))
    · rw [e]; exact lay_quote g k t r
    · rw [e] at hd
      have := (depth_parts (.inl rfl) hd).1
      omega
    · rw [e] at hd
      have := (depth_parts (.inr rfl) hd).1
      omega
  | succ n ih =>
    intro v hf hd
    have hR := val_print (n + 1) v hf hd
    have hf0 := hf
    obtain ⟨k0, b, t, m, hh, ls, ns⟩ := v
    obtain ⟨h1, h2, h3⟩ := fault_zero hf
    rcases formed_cases h1 with e | e | ⟨e1, rfl, e⟩ | ⟨e1, e⟩ | e | ⟨l1, l2, e⟩
    · refine flat_lay (fun k r => ?_) hf0 hR
      rw [e]; rfl
    · refine flat_lay (fun k r => ?_) hf0 hR
      rw [e]; cases b <;> rfl
    · refine flat_lay (fun k r => ?_) hf0 hR
      exact lay_plains g k r t (fun c hc => num_plain c (by simpa using num_mem e1 c hc))
    · refine flat_lay (fun k r => ?_) hf0 hR
      rw [e]; exact lay_quote g k t r
    · clear hR
      rw [e] at hd ⊢
      have hp := (depth_parts (.inl rfl) hd).2
      have hL : ∀ y ∈ ls, LaidV g (val n) y := fun y hy => ih y (h3 y hy) (hp y hy)
      intro k
      have ev : ∀ r, printV (.mk 5 false [] 0 false ls []) ++ r = 91 :: (printL false true ls [] ++ 93 :: r) := fun r => by
        show 91 :: (printL false true ls [] ++ [93]) ++ r = _
        simp
      have vw : ∀ l x u, nestedS (listStep (val n)) [93] ([], []) l = .ok x u → val (n + 1) (91 :: l) = .ok (.mk 5 false [] 0 false x.2 x.1) u := fun l x u hx => by
        show valWith (some (val n)) (91 :: l) = _
        unfold valWith
        rw [show nx (91 :: l) = 91 from rfl]
        rw [if_neg (by decide), if_neg (by decide), if_neg (by decide), if_neg (by decide), if_pos rfl]
        simp only [List.drop_succ_cons, List.drop_zero]
        rw [hx]
      cases ls with
      | nil =>
        refine ⟨k + 1 + 1, [g k, 91, 32, g (k + 1), 93, 32], fun r => ?_, fun r _ => ⟨32 :: r, ?_, rfl⟩, ⟨91, _, .inr ⟨g k, hg k, rfl⟩, by decide, by decide, by decide⟩⟩
        · rw [ev, lay_sign g (by decide), printL, List.nil_append, lay_sign g (by decide)]
          rfl
        · simp only [List.cons_append, List.nil_append]
          rw [blanks_sign (hg k) (by decide)]
          refine vw _ ([], []) _ ?_
          unfold nestedS
          rw [blank_skip (by decide), blanks_sign (hg (k + 1)) (by decide)]
          rfl
      | cons x xs =>
        obtain ⟨k2, o, i1, i2, i4, i3⟩ := parts_lay hg xs x [] (k + 1) hL
        refine ⟨k2, g k :: 91 :: 32 :: o, fun r => ?_, fun r _ => ⟨32 :: r, ?_, rfl⟩, ⟨91, _, .inr ⟨g k, hg k, rfl⟩, by decide, by decide, by decide⟩⟩
        · have e3 : printL false true (x :: xs) [] ++ 93 :: r = printV x ++ (printL false false xs [] ++ 93 :: r) := by simp [printL]
          rw [ev, e3, lay_sign g (by decide), i1]
          rfl
        · simp only [List.cons_append]
          rw [blanks_sign (hg k) (by decide)]
          refine vw _ ([], x :: xs) _ ?_
          unfold nestedS
          rw [blank_skip (by decide)]
          obtain ⟨c, t, e5, c1, c2, c3⟩ := i4.go r
          have s1 : skip [93] (blanks (o ++ r)) = none := by
            rw [e5]
            simp [skip, c1]
          rw [s1]
          simp only
          rw [i3 r ([], []) _ (by rw [e5]; simp only [List.length_cons]; omega)]
          rfl
    · clear hR
      rw [e] at hd ⊢
      have hp := (depth_parts (.inr rfl) hd).2
      have hL : ∀ y ∈ ls, LaidV g (val n) y := fun y hy => ih y (h3 y hy) (hp y hy)
      have hF := fresh_of h2
      have hV : ∀ z ∈ ns, Lib.validD z = true := fun z hz => by
        rw [List.all_eq_true] at l2
        exact l2 z hz
      intro k
      have ev : ∀ r, printV (.mk 6 false [] 0 false ls ns) ++ r = 123 :: (printL true true ls ns ++ 125 :: r) := fun r => by
        show 123 :: (printL true true ls ns ++ [125]) ++ r = _
        simp
      have vw : ∀ l x u, nestedS (objStep (val n)) [125] ([], []) l = .ok x u → val (n + 1) (123 :: l) = .ok (.mk 6 false [] 0 false x.2 x.1) u := fun l x u hx => by
        show valWith (some (val n)) (123 :: l) = _
        unfold valWith
        rw [show nx (123 :: l) = 123 from rfl]
        rw [if_neg (by decide), if_neg (by decide), if_neg (by decide), if_neg (by decide), if_neg (by decide), if_pos rfl]
        simp only [List.drop_succ_cons, List.drop_zero]
        rw [hx]
      cases ls with
      | nil =>
        have : ns = [] := by simpa using l1
        subst this
        refine ⟨k + 1 + 1, [g k, 123, 32, g (k + 1), 125, 32], fun r => ?_, fun r _ => ⟨32 :: r, ?_, rfl⟩, ⟨123, _, .inr ⟨g k, hg k, rfl⟩, by decide, by decide, by decide⟩⟩
        · rw [ev, lay_sign g (by decide), printL, List.nil_append, lay_sign g (by decide)]
          rfl
        · simp only [List.cons_append, List.nil_append]
          rw [blanks_sign (hg k) (by decide)]
          refine vw _ ([], []) _ ?_
          unfold nestedS
          rw [blank_skip (by decide), blanks_sign (hg (k + 1)) (by decide)]
          rfl
      | cons x xs =>
        cases ns with
        | nil => simp at l1
        | cons nm nms =>
          obtain ⟨k2, o, i1, i2, ⟨t2, it⟩, i3⟩ := members_lay hg xs x nms nm (k + 1) hL hV (by simpa using l1)
          refine ⟨k2, g k :: 123 :: 32 :: o, fun r => ?_, fun r _ => ⟨32 :: r, ?_, rfl⟩, ⟨123, _, .inr ⟨g k, hg k, rfl⟩, by decide, by decide, by decide⟩⟩
          · have e3 : printL true true (x :: xs) (nm :: nms) ++ 125 :: r = quoteB nm ++ 58 :: (printV x ++ (printL true false xs nms ++ 125 :: r)) := by simp [printL]
            rw [ev, e3, lay_sign g (by decide), i1]
            rfl
          · simp only [List.cons_append]
            rw [blanks_sign (hg k) (by decide)]
            refine vw _ (nm :: nms, x :: xs) _ ?_
            unfold nestedS
            have e5 : blanks (o ++ r) = o ++ r := by rw [it, List.cons_append, blank_stop (by decide)]
            have s1 : skip [125] (o ++ r) = none := by
              rw [it]
              rfl
            rw [blank_skip (by decide), e5, s1]
            simp only
            rw [i3 r ([], []) _ (by simp only [List.length_append]; omega) hF]
            rfl
/-- A printed text with blanks laid around its signs is read as the value. -/
theorem parse_lay {g : Nat → UInt8} (hg : ∀ k, blanksL.contains (g k) = true) {v : JV} (hv : validN v = 0) (hl : 3 * (printV v).length ≤ 1048576) : ∃ n, parse (lay g 0 false false (printV v)) = (v, n, 0) := by
  have hlen := lay_len g (printV v) 0 false false
  have hd : depthN 33 v ≤ 32 := by
    unfold validN at hv
    split at hv
    · cases hv
    · omega
  obtain ⟨k', o, h1, h2, _⟩ := val_lay hg 32 v (valid_fault hv) hd 0
  have e := h1 []
  rw [List.append_nil] at e
  obtain ⟨u, e1, e2⟩ := h2 [] (fun c t h => by cases h)
  have e3 : lay g 0 false false (printV v) = o := by
    rw [e]
    simp [lay]
  rw [e3] at hlen ⊢
  rw [List.append_nil] at e1
  refine ⟨o.length, ?_⟩
  unfold parse whole
  rw [if_neg (by omega), e1]
  simp only
  rw [e2]
  rfl
end Go.Proofs.YtkoeihliaandeabDoor
