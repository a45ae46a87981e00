/- What is read may be; printed it is not much longer. -/
import Derived.Test.YtkoeihliaandeaaGreatDoorRt
import Derived.Test.YtkoeihliaandeaaGreatDoorShort
namespace Go.Proofs.YtkoeihliaandeaaGreatDoor

/-- One character of UTF-8. -/
def OneC (bs : B) : Prop := bs ≠ [] ∧ ∀ r, uni (bs ++ r) = (bs.length, 0)
theorem OneC.valid {bs : B} (h : OneC bs) (cs : B) : Lib.validD (bs ++ cs) = Lib.validD cs := by
  have hl : bs.length ≠ 0 := fun e => h.1 (List.eq_nil_of_length_eq_zero e)
  rw [valid_uni (bs ++ cs) (by simp [h.1]), h.2, if_neg hl, List.drop_left' rfl]
theorem u8_of (n : Int) (h0 : 0 ≤ n) (h : n < 256) : (n.toNat.toUInt8).toNat = n.toNat := by
  show n.toNat % 256 = n.toNat
  omega
theorem encode_one_char (r : Nat) (h : r ≤ 1114111) (hs : ¬ (55296 ≤ r ∧ r ≤ 57343)) : OneC (Lib.encodeRune (r : Int)) := by
  unfold Lib.encodeRune
  by_cases h1 : r < 128
  · rw [Lib.encodeRuneZ_one (by omega) (by omega)]
    refine ⟨by simp, fun t => ?_⟩
    simp only [List.map_cons, List.map_nil, List.cons_append, List.nil_append, uni]
    rw [u8_of _ (by omega) (by omega), if_pos (by omega)]
    rfl
  by_cases h2 : r < 2048
  · rw [Lib.encodeRuneZ_two (by omega) (by omega)]
    refine ⟨by simp, fun t => ?_⟩
    simp only [List.map_cons, List.map_nil, List.cons_append, List.nil_append, uni]
    rw [u8_of _ (by omega) (by omega), if_neg (by omega)]
    have e : lead (192 + (r : Int) / 64).toNat = (128, 191, 1) := by unfold lead; rw [if_pos (by omega)]
    rw [e]
    simp only [tailBad]
    rw [u8_of _ (by omega) (by omega), if_neg (by omega), if_neg (by omega)]
    rfl
  by_cases h3 : r < 65536
  · rw [Lib.encodeRuneZ_three (by omega)]
    refine ⟨by simp, fun t => ?_⟩
    simp only [List.map_cons, List.map_nil, List.cons_append, List.nil_append, uni]
    rw [u8_of _ (by omega) (by omega), if_neg (by omega)]
    obtain ⟨lo, hi, e, hlo⟩ : ∃ lo hi, lead (224 + (r : Int) / 4096).toNat = (lo, hi, 2) ∧ ¬ ((128 + (r : Int) / 64 % 64).toNat < lo ∨ hi < (128 + (r : Int) / 64 % 64).toNat) := by
      unfold lead
      rw [if_neg (by omega)]
      by_cases c1 : (224 + (r : Int) / 4096).toNat = 224
      · exact ⟨160, 191, by rw [if_pos c1], by omega⟩
      by_cases c2 : (224 + (r : Int) / 4096).toNat = 237
      · exact ⟨128, 159, by rw [if_neg c1, if_pos c2], by omega⟩
      · exact ⟨128, 191, by rw [if_neg c1, if_neg c2, if_pos (by omega)], by omega⟩
    rw [e]
    simp only [tailBad]
    rw [u8_of _ (by omega) (by omega), u8_of _ (by omega) (by omega), if_neg (by omega), if_neg hlo, if_neg (by omega)]
    rfl
  · rw [Lib.encodeRuneZ_four (by omega) (by omega)]
    refine ⟨by simp, fun t => ?_⟩
    simp only [List.map_cons, List.map_nil, List.cons_append, List.nil_append, uni]
    rw [u8_of _ (by omega) (by omega), if_neg (by omega)]
    obtain ⟨lo, hi, e, hlo⟩ : ∃ lo hi, lead (240 + (r : Int) / 262144).toNat = (lo, hi, 3) ∧ ¬ ((128 + (r : Int) / 4096 % 64).toNat < lo ∨ hi < (128 + (r : Int) / 4096 % 64).toNat) := by
      unfold lead
      rw [if_neg (by omega), if_neg (by omega), if_neg (by omega), if_neg (by omega)]
      by_cases c1 : (240 + (r : Int) / 262144).toNat = 240
      · exact ⟨144, 191, by rw [if_pos c1], by omega⟩
      by_cases c2 : (240 + (r : Int) / 262144).toNat = 244
      · exact ⟨128, 143, by rw [if_neg c1, if_neg (by omega), if_pos c2], by omega⟩
      · exact ⟨128, 191, by rw [if_neg c1, if_pos (by omega)], by omega⟩
    rw [e]
    simp only [tailBad]
    rw [u8_of _ (by omega) (by omega), u8_of _ (by omega) (by omega), u8_of _ (by omega) (by omega), if_neg (by omega), if_neg hlo, if_neg (by omega), if_neg (by omega)]
    rfl
theorem encode_le (r : Nat) : (Lib.encodeRune (r : Int)).length ≤ 4 ∧ (r < 128 → (Lib.encodeRune (r : Int)).length = 1) := by
  refine ⟨encode_len _, fun h => ?_⟩
  unfold Lib.encodeRune
  rw [Lib.encodeRuneZ_one (by omega) (by omega)]
  rfl
/-- What stands behind a backslash is a character, and not longer. -/
theorem escape_one {l u : B} {n : Nat} (h : escape l = .ok n u) : n ≤ 1114111 ∧ ¬ (55296 ≤ n ∧ n ≤ 57343) ∧ (Lib.encodeRune (n : Int)).length + u.length ≤ l.length + 1 := by
  cases l with
  | nil => simp [escape] at h
  | cons c t =>
    have small : ∀ k : Nat, k < 128 → Res.ok k t = Res.ok n u → n ≤ 1114111 ∧ ¬ (55296 ≤ n ∧ n ≤ 57343) ∧ (Lib.encodeRune (n : Int)).length + u.length ≤ (c :: t).length + 1 := by
      intro k hk e
      simp only [Res.ok.injEq] at e
      obtain ⟨rfl, rfl⟩ := e
      have := (encode_le k).2 hk
      simp only [List.length_cons]
      omega
    simp only [escape] at h
    split at h
    · rename_i hc
      refine small c.toNat ?_ h
      rcases hc with rfl | rfl | rfl <;> decide
    split at h
    · exact small 8 (by decide) h
    split at h
    · exact small 12 (by decide) h
    split at h
    · exact small 10 (by decide) h
    split at h
    · exact small 13 (by decide) h
    split at h
    · exact small 9 (by decide) h
    split at h
    · unfold code at h
      split at h
      · cases h
      · rename_i m v hm
        obtain ⟨b1, rfl, b3, _⟩ := four_bound _ _ _ _ _ hm
        have hle := (encode_le n).1
        split at h
        · cases h
        · rename_i hlow
          split at h
          · rename_i hhigh
            split at h
            · cases h
            · rename_i m2 v2 hm2
              have lr := low_range hm2
              unfold lowHalf at hm2
              split at hm2
              · cases hm2
              · obtain ⟨_, rfl, c3, _⟩ := four_bound _ _ _ _ _ hm2
                simp only [Res.ok.injEq] at h
                obtain ⟨rfl, rfl⟩ := h
                simp only [List.length_drop, List.length_cons] at c3 ⊢
                omega
          · simp only [Res.ok.injEq] at h
            obtain ⟨rfl, rfl⟩ := h
            simp only [List.length_drop, List.length_cons] at b3 ⊢
            omega
    · cases h
theorem char_one {l u bs : B} (h : char l = .ok bs u) : OneC bs ∧ bs.length + u.length ≤ l.length := by
  cases l with
  | nil => simp [char] at h
  | cons c t =>
    simp only [char] at h
    split at h
    · cases h
    split at h
    · split at h
      · cases h
      · rename_i n v hv
        obtain ⟨h1, h2, h3⟩ := escape_one hv
        simp only [Res.ok.injEq] at h
        obtain ⟨rfl, rfl⟩ := h
        exact ⟨encode_one_char n h1 h2, by simp only [List.length_cons]; omega⟩
    split at h
    · cases h
    · rename_i h0
      obtain ⟨c', t', e, hle, happ, _⟩ := uni_app (c :: t) h0
      simp only [Res.ok.injEq] at h
      obtain ⟨rfl, rfl⟩ := h
      have hl : ((c :: t).take (uni (c :: t)).1).length = (uni (c :: t)).1 := by rw [List.length_take]; omega
      refine ⟨⟨fun e => ?_, fun r => by rw [hl]; exact happ r⟩, by rw [hl, List.length_drop]; omega⟩
      rw [e] at hl
      simp only [List.length_nil] at hl
      omega
theorem chars_valid : ∀ (f : Nat) (l bs u : B), chars f l = .ok bs u → Lib.validD bs = true ∧ bs.length + u.length + 1 ≤ l.length
  | 0, l, bs, u, h => by simp [chars] at h
  | f + 1, l, bs, u, h => by
    simp only [chars] at h
    split at h
    · rename_i h34
      obtain ⟨l1, rfl⟩ := name_head h34
      simp only [List.drop_succ_cons, List.drop_zero, Res.ok.injEq] at h
      obtain ⟨rfl, rfl⟩ := h
      exact ⟨rfl, by simp⟩
    · split at h
      · cases h
      · rename_i bs1 u1 hc
        obtain ⟨h1, h2⟩ := char_one hc
        split at h
        · cases h
        · rename_i cs v hcs
          obtain ⟨h3, h4⟩ := chars_valid f u1 cs v hcs
          simp only [Res.ok.injEq] at h
          obtain ⟨rfl, rfl⟩ := h
          exact ⟨by rw [h1.valid, h3], by simp only [List.length_append]; omega⟩
theorem escs_le : ∀ s : B, (escs s).length ≤ 6 * s.length
  | [] => Nat.le_refl _
  | c :: t => by
    have h1 : (esc c).length ≤ 6 := by
      unfold esc
      (repeat' split) <;> simp
    have := escs_le t
    simp only [escs, List.length_append, List.length_cons]
    omega
theorem text_valid {l bs u : B} (hl : nx l = 34) (h : text l = .ok bs u) : Lib.validD bs = true ∧ bs.length + u.length + 2 ≤ l.length ∧ (quoteB bs).length + 6 * u.length ≤ 6 * l.length := by
  obtain ⟨l1, rfl⟩ := name_head hl
  obtain ⟨h1, h2⟩ := chars_valid _ _ _ _ h
  have h3 := escs_le bs
  simp only [List.drop_succ_cons, List.drop_zero, List.length_cons] at h2 ⊢
  refine ⟨h1, by omega, ?_⟩
  simp only [quoteB, List.length_cons, List.length_append, List.length_nil]
  omega
/-! ### Numbers -/
theorem skip_none_pre {S t u : B} (h : skip S (t ++ u) = none) : skip S t = none := by
  cases t with
  | nil => rfl
  | cons c t =>
    simp only [List.cons_append, skip] at h ⊢
    split at h
    · cases h
    · rename_i hc
      rw [if_neg hc]
theorem skip_some_eq {S l t : B} (h : skip S l = some t) : ∃ c, l = c :: t ∧ S.contains c = true := by
  cases l with
  | nil => cases h
  | cons c l1 =>
    simp only [skip] at h
    split at h
    · rename_i hc
      simp only [Option.some.injEq] at h
      exact ⟨c, by rw [h], hc⟩
    · cases h
theorem skips_stop (S : B) : ∀ l : B, skip S (skips S l) = none
  | [] => rfl
  | c :: l => by
    simp only [skips]
    split
    · exact skips_stop S l
    · rename_i hc
      simp only [skip]
      rw [if_neg hc]
theorem skips_pre (S : B) : ∀ l : B, ∃ t, l = t ++ skips S l ∧ ∀ v, skip S v = none → skips S (t ++ v) = v
  | [] => ⟨[], rfl, fun v hv => by
      cases v with
      | nil => rfl
      | cons c v =>
        simp only [skip] at hv
        split at hv
        · cases hv
        · rename_i hc
          simp only [List.nil_append, skips]
          rw [if_neg hc]⟩
  | c :: l => by
    simp only [skips]
    split
    · rename_i hc
      obtain ⟨t, h1, h2⟩ := skips_pre S l
      refine ⟨c :: t, by rw [List.cons_append, ← h1], fun v hv => ?_⟩
      simp only [List.cons_append, skips]
      rw [if_pos hc, h2 v hv]
    · refine ⟨[], rfl, fun v hv => ?_⟩
      cases v with
      | nil => rfl
      | cons d v =>
        simp only [skip] at hv
        split at hv
        · cases hv
        · rename_i hd
          simp only [List.nil_append, skips]
          rw [if_neg hd]
theorem digits_pre {l u : B} {x : Unit} (h : digits l = .ok x u) : ∃ c t, l = c :: t ++ u ∧ digitsL.contains c = true ∧ skip digitsL u = none ∧ ∀ v, skip digitsL v = none → digits (c :: t ++ v) = .ok () v := by
  unfold digits at h
  split at h
  · cases h
  · rename_i l1 h1
    obtain ⟨c, rfl, hc⟩ := skip_some_eq h1
    simp only [Res.ok.injEq] at h
    obtain ⟨t, e1, e2⟩ := skips_pre digitsL l1
    refine ⟨c, t, by rw [List.cons_append, ← h.2, ← e1], hc, by rw [← h.2]; exact skips_stop _ _, fun v hv => ?_⟩
    unfold digits
    have : skip digitsL (c :: t ++ v) = some (t ++ v) := by simp only [List.cons_append, skip]; rw [if_pos hc]
    rw [this]
    simp only
    rw [e2 v hv]
theorem digits_whole {c : UInt8} {t : B} (h : ∀ v, skip digitsL v = none → digits (c :: t ++ v) = .ok () v) : digits (c :: t) = .ok () [] := by
  have := h [] rfl
  rw [List.append_nil] at this
  exact this
theorem numExp_pre {l u : B} {x : Unit} (h : numExp l = .ok x u) : ∃ t, l = t ++ u ∧ numExp t = .ok () [] := by
  unfold numExp at h
  split at h
  · simp only [Res.ok.injEq] at h
    exact ⟨[], by rw [h.2]; rfl, rfl⟩
  · rename_i l1 h1
    obtain ⟨c, rfl, hc⟩ := skip_some_eq h1
    obtain ⟨d, t, e1, e2, _, e4⟩ := digits_pre h
    unfold skipD at e1
    cases hs : skip [43, 45] l1 with
    | none =>
      rw [hs] at e1
      simp only [Option.getD_none] at e1
      refine ⟨c :: (d :: t), by rw [e1]; rfl, ?_⟩
      unfold numExp
      have : skip [101, 69] (c :: (d :: t)) = some (d :: t) := by simp only [skip]; rw [if_pos hc]
      rw [this]
      simp only
      have h3 : skip [43, 45] (d :: t) = none := skip_none_pre (u := u) (by rw [← e1]; exact hs)
      unfold skipD
      rw [h3]
      exact digits_whole e4
    | some l2 =>
      obtain ⟨g, rfl, hg⟩ := skip_some_eq hs
      rw [hs] at e1
      simp only [Option.getD_some] at e1
      refine ⟨c :: g :: (d :: t), by rw [e1]; rfl, ?_⟩
      unfold numExp
      have : skip [101, 69] (c :: g :: (d :: t)) = some (g :: (d :: t)) := by simp only [skip]; rw [if_pos hc]
      rw [this]
      simp only
      have h3 : skip [43, 45] (g :: (d :: t)) = some (d :: t) := by simp only [skip]; rw [if_pos hg]
      unfold skipD
      rw [h3]
      exact digits_whole e4
theorem numFrac_pre {l u : B} {x : Unit} (h : numFrac l = .ok x u) : ∃ t, l = t ++ u ∧ numFrac t = .ok () [] := by
  unfold numFrac at h
  split at h
  · rename_i hn
    obtain ⟨t, e1, e2⟩ := numExp_pre h
    refine ⟨t, e1, ?_⟩
    unfold numFrac
    rw [skip_none_pre (u := u) (by rw [← e1]; exact hn)]
    exact e2
  · rename_i l1 h1
    obtain ⟨c, rfl, hc⟩ := skip_some_eq h1
    split at h
    · rename_i v hv
      obtain ⟨d, t, e1, e2, e3, e4⟩ := digits_pre hv
      obtain ⟨t2, q1, q2⟩ := numExp_pre h
      refine ⟨c :: (d :: t ++ t2), by rw [e1, q1]; simp, ?_⟩
      unfold numFrac
      have : skip [46] (c :: (d :: t ++ t2)) = some (d :: t ++ t2) := by simp only [skip]; rw [if_pos hc]
      rw [this]
      simp only
      rw [e4 t2 (skip_none_pre (u := u) (by rw [← q1]; exact e3))]
      exact q2
    · cases h
theorem numHead_pre {l u : B} {x : Unit} (h : numHead l = .ok x u) : ∃ c t, l = c :: t ++ u ∧ numHead (c :: t) = .ok () [] ∧ digitsL.contains c = true := by
  unfold numHead at h
  split at h
  · rename_i hn
    split at h
    · rename_i v hv
      obtain ⟨d, t, e1, e2, e3, e4⟩ := digits_pre hv
      obtain ⟨t2, q1, q2⟩ := numFrac_pre h
      refine ⟨d, t ++ t2, by rw [e1, q1]; simp, ?_, e2⟩
      unfold numHead
      rw [skip_none_pre (t := d :: (t ++ t2)) (u := u) (by rw [e1, q1] at hn; simpa using hn)]
      simp only
      have := e4 t2 (skip_none_pre (u := u) (by rw [← q1]; exact e3))
      simp only [List.cons_append] at this
      rw [this]
      exact q2
    · cases h
  · rename_i l1 h1
    obtain ⟨c, rfl, hc⟩ := skip_some_eq h1
    obtain ⟨t, e1, e2⟩ := numFrac_pre h
    refine ⟨c, t, by rw [e1]; rfl, ?_, ?_⟩
    · unfold numHead
      have : skip [48] (c :: t) = some t := by simp only [skip]; rw [if_pos hc]
      rw [this]
      exact e2
    · have : c = 48 := by simpa using hc
      rw [this]
      decide
theorem numParts_pre {l u : B} {x : Unit} (h : numParts l = .ok x u) : ∃ t, l = t ++ u ∧ numParts t = .ok () [] := by
  unfold numParts at h
  obtain ⟨c, t, e1, e2, e3⟩ := numHead_pre h
  unfold skipD at e1
  cases hs : skip [45] l with
  | none =>
    rw [hs] at e1
    simp only [Option.getD_none] at e1
    refine ⟨c :: t, e1, ?_⟩
    unfold numParts skipD
    rw [skip_none_pre (u := u) (by rw [← e1]; exact hs)]
    exact e2
  | some l2 =>
    obtain ⟨g, rfl, hg⟩ := skip_some_eq hs
    rw [hs] at e1
    simp only [Option.getD_some] at e1
    refine ⟨g :: (c :: t), by rw [e1]; rfl, ?_⟩
    unfold numParts skipD
    have : skip [45] (g :: (c :: t)) = some (c :: t) := by simp only [skip]; rw [if_pos hg]
    rw [this]
    exact e2
theorem number_pre {l u : B} {x : Unit} (h : number l = .ok x u) : isNum (l.take (l.length - u.length)) = true := by
  unfold number at h
  split at h
  · cases h
  · rename_i hn
    obtain ⟨t, e1, e2⟩ := numParts_pre h
    rw [h] at hn
    simp only [Res.left] at hn
    have e3 : l.take (l.length - u.length) = t := by
      rw [e1, show (t ++ u).length - u.length = t.length by simp only [List.length_append]; omega, List.take_left' rfl]
    rw [e3]
    have hl : l.length - u.length = t.length := by rw [e1]; simp only [List.length_append]; omega
    unfold isNum number
    rw [e2, if_neg (by simp only [Res.left, List.length_nil]; omega)]
/-! ### Values -/
theorem num_mk (t : B) : ∃ n h, numV t = .mk 3 false t n h [] [] := by
  unfold numV
  split
  · exact ⟨_, _, rfl⟩
  · exact ⟨_, _, rfl⟩
theorem faults_zero : ∀ (ls : List JV), (∀ x ∈ ls, fault x = 0) → faults 0 ls = 0
  | [], _ => by simp [faults]
  | x :: xs, h => by
    have h0 := h x (by simp)
    simp only [faults, h0]
    exact faults_zero xs (fun y hy => h y (by simp [hy]))
theorem fault_make {k : Int} {b : Bool} {t : B} {n : Int} {h : Bool} {ls : List JV} {ns : List B} (h1 : formed (.mk k b t n h ls ns) = true) (h2 : twice ns = false) (h3 : ∀ x ∈ ls, fault x = 0) : fault (.mk k b t n h ls ns) = 0 := by
  simp only [fault, h1, h2]
  rw [if_neg (by decide), if_neg (by decide)]
  exact faults_zero ls h3
theorem fold_le : ∀ (l : List Nat) (a m : Nat), a ≤ m → (∀ x ∈ l, x ≤ m) → l.foldl max a ≤ m
  | [], a, m, h, _ => h
  | y :: l, a, m, h, h2 => fold_le l (max a y) m (by have := h2 y (by simp); omega) (fun x hx => h2 x (by simp [hx]))
theorem once_fresh : ∀ (l seen : List B), Fresh seen l → (once seen l).length = seen.length + l.length
  | [], seen, _ => by simp [once]
  | x :: l, seen, h => by
    simp only [once]
    rw [if_neg (by rw [h.1]; decide), once_fresh l _ h.2]
    simp only [List.length_append, List.length_cons, List.length_nil]
    omega
theorem twice_fresh {ns : List B} (h : Fresh [] ns) : twice ns = false := by
  have := once_fresh ns [] h
  simp only [List.length_nil] at this
  unfold twice
  rw [decide_eq_false_iff_not]
  omega
theorem fresh_snoc : ∀ (l seen : List B) (nm : B), Fresh seen l → (seen ++ l).contains nm = false → Fresh seen (l ++ [nm])
  | [], seen, nm, _, h => ⟨by simpa using h, trivial⟩
  | x :: l, seen, nm, h, hc => ⟨h.1, fresh_snoc l (seen ++ [x]) nm h.2 (by simpa using hc)⟩
/-- What is read may be, and is printed so long. -/
def Good (n : Nat) (v : JV) : Prop := fault v = 0 ∧ depthN (n + 1) v ≤ n
def GoodV (n : Nat) (f : B → Res JV) : Prop := ∀ l v u, f l = .ok v u → Good n v ∧ (printV v).length + 6 * u.length ≤ 6 * l.length
/-- How long the parts are when they are printed. -/
def lenL : List JV → Nat
  | [] => 0
  | x :: xs => (printV x).length + 1 + lenL xs
def lenN : List B → Nat
  | [] => 0
  | x :: xs => (quoteB x).length + 1 + lenN xs
theorem lenL_snoc (x : JV) : ∀ xs : List JV, lenL (xs ++ [x]) = lenL xs + (printV x).length + 1
  | [] => by simp [lenL]
  | y :: ys => by
    have := lenL_snoc x ys
    simp only [List.cons_append, lenL]
    omega
theorem lenN_snoc (x : B) : ∀ xs : List B, lenN (xs ++ [x]) = lenN xs + (quoteB x).length + 1
  | [] => by simp [lenN]
  | y :: ys => by
    have := lenN_snoc x ys
    simp only [List.cons_append, lenN]
    omega
theorem printL_list : ∀ (xs : List JV) (fi : Bool) (ns : List B), (printL false fi xs ns).length ≤ lenL xs
  | [], _, _ => by simp [printL]
  | x :: xs, fi, ns => by
    have := printL_list xs false ns.tail
    simp only [printL, lenL, List.length_append]
    cases fi <;> simp <;> omega
theorem printL_obj : ∀ (xs : List JV) (fi : Bool) (ns : List B), ns.length = xs.length → (printL true fi xs ns).length ≤ lenL xs + lenN ns
  | [], _, _, _ => by simp [printL]
  | x :: xs, fi, [], h => by simp at h
  | x :: xs, fi, nm :: ns, h => by
    have := printL_obj xs false ns (by simpa using h)
    simp only [printL, lenL, lenN, List.length_append, List.headD_cons, List.tail_cons]
    cases fi <;> simp <;> omega
theorem blanks_le (l : B) : (blanks l).length ≤ l.length := skips_le blanksL l
theorem skip_blanks {S l t : B} (h : skip S (blanks l) = some t) : t.length + 1 ≤ l.length := by
  have h1 : (skips blanksL l).length = t.length + 1 := skip_length h
  have h2 := skips_le blanksL l
  omega
/-- What holds of the parts read so far. -/
def AccL (n : Nat) (acc : St) : Prop := acc.1 = [] ∧ ∀ x ∈ acc.2, Good n x
def AccO (n : Nat) (acc : St) : Prop := acc.1.length = acc.2.length ∧ Fresh [] acc.1 ∧ (∀ z ∈ acc.1, Lib.validD z = true) ∧ ∀ x ∈ acc.2, Good n x
def lenA (acc : St) : Nat := lenL acc.2 + lenN acc.1
theorem listStep_good {n : Nat} {f : B → Res JV} (h : GoodV n f) {acc y : St} {l u : B} (ha : AccL n acc) (e : listStep f acc l = .ok y u) : AccL n y ∧ lenA y + 6 * u.length ≤ lenA acc + 6 * l.length + 1 := by
  unfold listStep at e
  split at e
  · cases e
  · rename_i v t ht
    obtain ⟨h1, h2⟩ := h _ _ _ ht
    simp only [Res.ok.injEq] at e
    obtain ⟨rfl, rfl⟩ := e
    refine ⟨⟨ha.1, fun x hx => ?_⟩, ?_⟩
    · simp only [List.mem_append, List.mem_singleton] at hx
      rcases hx with hx | rfl
      · exact ha.2 x hx
      · exact h1
    · unfold lenA
      simp only [lenL_snoc]
      omega
theorem objStep_good {n : Nat} {f : B → Res JV} (h : GoodV n f) {acc y : St} {l u : B} (ha : AccO n acc) (e : objStep f acc l = .ok y u) : AccO n y ∧ lenA y + 6 * u.length ≤ lenA acc + 6 * l.length + 1 := by
  unfold objStep at e
  split at e
  · cases e
  · rename_i nm t ht
    split at e
    · cases e
    · rename_i v t2 ht2
      obtain ⟨h1, h2⟩ := h _ _ _ ht2
      simp only [Res.ok.injEq] at e
      obtain ⟨rfl, rfl⟩ := e
      unfold nameS at ht
      split at ht
      · cases ht
      · rename_i h34
        split at ht
        · cases ht
        · rename_i bs v2 hv2
          obtain ⟨g1, g2, g3⟩ := text_valid (by simpa using h34) hv2
          split at ht
          · cases ht
          · rename_i hcont
            split at ht
            · cases ht
            · rename_i t3 ht3
              have g4 := skip_blanks ht3
              simp only [Res.ok.injEq] at ht
              obtain ⟨rfl, rfl⟩ := ht
              have g5 := blanks_le t3
              obtain ⟨a1, a2, a3, a4⟩ := ha
              refine ⟨⟨by simp only [List.length_append, List.length_cons, List.length_nil]; omega, fresh_snoc _ _ _ a2 (by simpa using hcont), fun z hz => ?_, fun x hx => ?_⟩, ?_⟩
              · simp only [List.mem_append, List.mem_singleton] at hz
                rcases hz with hz | rfl
                · exact a3 z hz
                · exact g1
              · simp only [List.mem_append, List.mem_singleton] at hx
                rcases hx with hx | rfl
                · exact a4 x hx
                · exact h1
              · unfold lenA
                simp only [lenL_snoc, lenN_snoc]
                omega
theorem parts_good {Acc : St → Prop} {step : St → B → Res St} (hs : ∀ {acc y : St} {l u : B}, Acc acc → step acc l = .ok y u → Acc y ∧ lenA y + 6 * u.length ≤ lenA acc + 6 * l.length + 1) (ends : B) :
    ∀ (f : Nat) (acc y : St) (l u : B), Acc acc → partsF step ends f acc l = .ok y u → Acc y ∧ lenA y + 6 * u.length + 5 ≤ lenA acc + 6 * l.length
  | 0, acc, y, l, u, _, h => by simp [partsF] at h
  | f + 1, acc, y, l, u, ha, h => by
    simp only [partsF] at h
    split at h
    · cases h
    · rename_i y1 u1 h1
      obtain ⟨b1, b2⟩ := hs ha h1
      split at h
      · rename_i t ht
        have b3 := skip_blanks ht
        simp only [Res.ok.injEq] at h
        obtain ⟨rfl, rfl⟩ := h
        exact ⟨b1, by omega⟩
      · split at h
        · cases h
        · rename_i t ht
          have b3 := skip_blanks ht
          have b4 := blanks_le t
          obtain ⟨c1, c2⟩ := parts_good hs ends f _ _ _ _ b1 h
          exact ⟨c1, by omega⟩
theorem nested_good {Acc : St → Prop} {step : St → B → Res St} (hs : ∀ {acc y : St} {l u : B}, Acc acc → step acc l = .ok y u → Acc y ∧ lenA y + 6 * u.length ≤ lenA acc + 6 * l.length + 1) (ends : B) {y : St} {l u : B} (ha : Acc ([], []))
    (h : nestedS step ends ([], []) l = .ok y u) : Acc y ∧ lenA y + 6 * u.length + 5 ≤ 6 * l.length := by
  unfold nestedS at h
  split at h
  · rename_i t ht
    have b3 := skip_blanks ht
    simp only [Res.ok.injEq] at h
    obtain ⟨rfl, rfl⟩ := h
    exact ⟨ha, by simp only [lenA, lenL, lenN]; omega⟩
  · obtain ⟨c1, c2⟩ := parts_good hs ends _ _ _ _ _ ha h
    have := blanks_le l
    simp only [lenA, lenL, lenN] at c2 ⊢
    exact ⟨c1, by omega⟩
theorem wordS_good {n : Nat} {w : B} {v x : JV} {l u : B} (h : wordS w v l = .ok x u) (hv : Good n v) (hw : (printV v).length = w.length) : Good n x ∧ (printV x).length + 6 * u.length ≤ 6 * l.length := by
  unfold wordS at h
  split at h
  · cases h
  · rename_i y t ht
    have := word_short _ _ _ _ ht
    simp only [Res.ok.injEq] at h
    obtain ⟨rfl, rfl⟩ := h
    exact ⟨hv, by omega⟩
theorem flat_depth {n m : Nat} {k : Int} {b : Bool} {t : B} {i : Int} {h : Bool} {ls : List JV} {ns : List B} (hk : ¬ (k = 5 ∨ k = 6)) : depthN (n + 1) (.mk k b t i h ls ns) ≤ m := by
  simp only [depthN, if_neg hk]
  exact Nat.zero_le _
theorem good_text {n : Nat} {bs : B} (h : Lib.validD bs = true) : Good n (.mk 4 false bs 0 false [] []) := by
  refine ⟨fault_make ?_ rfl (by simp), flat_depth (by decide)⟩
  simp only [formed, h]
  exact sameV_refl _
theorem good_num {n : Nat} {t : B} (h : isNum t = true) : Good n (numV t) := by
  obtain ⟨i, hh, e⟩ := num_mk t
  rw [e]
  refine ⟨fault_make ?_ rfl (by simp), flat_depth (by decide)⟩
  simp only [formed, h, e]
  exact sameV_refl _
theorem good_list {n : Nat} {ls : List JV} (h : ∀ x ∈ ls, Good n x) : Good (n + 1) (.mk 5 false [] 0 false ls []) := by
  refine ⟨fault_make ?_ rfl (fun x hx => (h x hx).1), ?_⟩
  · simp only [formed]
    exact sameV_refl _
  · simp only [depthN]
    rw [if_pos (by decide)]
    have := fold_le (ls.map (depthN (n + 1))) 0 n (Nat.zero_le _) (fun y hy => by
      obtain ⟨x, hx, rfl⟩ := List.mem_map.1 hy
      exact (h x hx).2)
    omega
theorem good_obj {n : Nat} {ls : List JV} {ns : List B} (h : ∀ x ∈ ls, Good n x) (h1 : ns.length = ls.length) (h2 : Fresh [] ns) (h3 : ∀ z ∈ ns, Lib.validD z = true) : Good (n + 1) (.mk 6 false [] 0 false ls ns) := by
  refine ⟨fault_make ?_ (twice_fresh h2) (fun x hx => (h x hx).1), ?_⟩
  · have e : ns.all Lib.validD = true := List.all_eq_true.2 h3
    simp only [formed, e, h1]
    exact sameV_refl _
  · simp only [depthN]
    rw [if_pos (by decide)]
    have := fold_le (ls.map (depthN (n + 1))) 0 n (Nat.zero_le _) (fun y hy => by
      obtain ⟨x, hx, rfl⟩ := List.mem_map.1 hy
      exact (h x hx).2)
    omega
theorem nx_pos {l : B} (h : nx l ≠ 0) : 1 ≤ l.length := by
  cases l with
  | nil => exact absurd rfl h
  | cons c t => simp
theorem valWith_good {n : Nat} {inner : Option (B → Res JV)} (hi : ∀ f, inner = some f → ∃ m, n = m + 1 ∧ GoodV m f) : GoodV n (valWith inner) := by
  intro l v u h
  unfold valWith at h
  split at h
  · exact wordS_good h ⟨by decide +kernel, flat_depth (by decide)⟩ rfl
  split at h
  · exact wordS_good h ⟨by decide +kernel, flat_depth (by decide)⟩ rfl
  split at h
  · exact wordS_good h ⟨by decide +kernel, flat_depth (by decide)⟩ rfl
  split at h
  · rename_i h34
    split at h
    · cases h
    · rename_i bs t ht
      obtain ⟨g1, g2, g3⟩ := text_valid h34 ht
      simp only [Res.ok.injEq] at h
      obtain ⟨rfl, rfl⟩ := h
      exact ⟨good_text g1, g3⟩
  split at h
  · rename_i h91
    have hp : 1 ≤ l.length := nx_pos (by rw [h91]; decide)
    split at h
    · cases h
    · rename_i f
      obtain ⟨m, rfl, hf⟩ := hi f rfl
      split at h
      · cases h
      · rename_i x t ht
        obtain ⟨c1, c2⟩ := nested_good (Acc := AccL m) (fun a b => listStep_good hf a b) _ ⟨rfl, by simp⟩ ht
        simp only [Res.ok.injEq] at h
        obtain ⟨rfl, rfl⟩ := h
        obtain ⟨d1, d2⟩ := c1
        obtain ⟨x1, x2⟩ := x
        simp only at d1 d2
        subst d1
        refine ⟨good_list d2, ?_⟩
        have := printL_list x2 true []
        simp only [lenA, lenN, List.length_drop] at c2
        show (91 :: (printL false true x2 [] ++ [93])).length + 6 * t.length ≤ 6 * l.length
        simp only [List.length_cons, List.length_append, List.length_nil]
        omega
  split at h
  · rename_i h123
    have hp : 1 ≤ l.length := nx_pos (by rw [h123]; decide)
    split at h
    · cases h
    · rename_i f
      obtain ⟨m, rfl, hf⟩ := hi f rfl
      split at h
      · cases h
      · rename_i x t ht
        obtain ⟨c1, c2⟩ := nested_good (Acc := AccO m) (fun a b => objStep_good hf a b) _ ⟨rfl, trivial, by simp, by simp⟩ ht
        simp only [Res.ok.injEq] at h
        obtain ⟨rfl, rfl⟩ := h
        obtain ⟨d1, d2, d3, d4⟩ := c1
        refine ⟨good_obj d4 d1 d2 d3, ?_⟩
        have := printL_obj x.2 true x.1 d1
        simp only [lenA, List.length_drop] at c2
        show (123 :: (printL true true x.2 x.1 ++ [125])).length + 6 * t.length ≤ 6 * l.length
        simp only [List.length_cons, List.length_append, List.length_nil]
        omega
  split at h
  · cases h
  · rename_i y t ht
    have hs := number_short ht
    have hn := number_pre ht
    simp only [Res.ok.injEq] at h
    obtain ⟨rfl, rfl⟩ := h
    refine ⟨good_num hn, ?_⟩
    obtain ⟨i, hh, e⟩ := num_mk (l.take (l.length - t.length))
    rw [e]
    show (l.take (l.length - t.length)).length + 6 * t.length ≤ 6 * l.length
    rw [List.length_take]
    omega
theorem val_good : ∀ n, GoodV n (val n)
  | 0 => valWith_good (fun f h => by cases h)
  | n + 1 => valWith_good (fun f h => by cases h; exact ⟨n, rfl, val_good n⟩)
/-- What is read of a text may be; its own text is at most six times as long. -/
theorem parse_good {l : B} {v : JV} {n : Nat} (h : parse l = (v, n, 0)) : n = l.length ∧ validN v = 0 ∧ (printV v).length ≤ 6 * l.length := by
  unfold parse at h
  split at h
  · simp at h
  · unfold whole at h
    cases hv : val 32 (blanks l) with
    | err k u =>
      rw [hv] at h
      simp only [Prod.mk.injEq] at h
      exact absurd h.2.2 (by
        have := val_err 32 _ _ _ hv
        omega)
    | ok x u =>
      rw [hv] at h
      simp only at h
      split at h
      · rename_i y t e
        split at e
        · simp only [Res.ok.injEq] at e
          obtain ⟨rfl, _⟩ := e
          simp only [Prod.mk.injEq] at h
          obtain ⟨rfl, rfl, _⟩ := h
          obtain ⟨⟨g1, g2⟩, g3⟩ := val_good 32 _ _ _ hv
          have := blanks_le l
          refine ⟨rfl, ?_, by omega⟩
          unfold validN
          have g4 : depthN 33 x ≤ 32 := g2
          rw [if_neg (by omega), g1]
        · cases e
      · rename_i k t e
        split at e
        · cases e
        · simp only [Res.err.injEq] at e
          obtain ⟨rfl, _⟩ := e
          simp at h
end Go.Proofs.YtkoeihliaandeaaGreatDoor
