/- The reader of chunked bodies, in plain words: what it is behind each byte. -/
import Derived.Test.YtnlmjlfoeodleaaGreatDoorCTrim
namespace Go.Proofs.YtnlmjlfoeodleaaGreatDoor

structure KS where
  most : Nat
  told : Nat
  err : Nat
  st : Nat
  left : Nat
  count : Nat
  tr : List (B × B)
  lines : Nat
  name : B
  part : B
def newK (most : Nat) : KS := ⟨most, 0, 0, 0, 0, 0, [], 0, [], []⟩
def tokU (c : UInt8) : Bool := tokB (c.toNat : Int)
def valU (c : UInt8) : Bool := valB (c.toNat : Int)
def hexU (c : UInt8) : Bool := hexB (c.toNat : Int)
def hexN (c : UInt8) : Nat := (hexV (c.toNat : Int)).toNat
def addK (s : KS) (c : UInt8) (may : Bool) (next : Nat) : KS × Nat := if may = true then ({ s with part := s.part ++ [c] }, next) else (s, 12)
def onlyK (one c : UInt8) (next : Nat) : Nat := if c = one then next else 12
def ofSizeK (s : KS) (c : UInt8) : KS × Nat :=
  if hexU c = true ∧ s.count < 16 then ({ s with left := s.left * 16 + hexN c, count := s.count + 1 }, 0)
  else if s.count = 0 then (s, 12) else if c = 13 then (s, 2) else if c = 59 ∨ c = 32 ∨ c = 9 then ({ s with count := 1 }, 1) else (s, 12)
def ofExtK (s : KS) (c : UInt8) : KS × Nat :=
  if c = 13 then (s, 2) else if s.count < 256 ∧ valU c = true then ({ s with count := s.count + 1 }, 1) else (s, 12)
def ofSizeEndK (s : KS) (c : UInt8) : KS × Nat :=
  if c = 10 then ({ s with count := 0 }, if s.left = 0 then 6 else 3) else (s, 12)
def ofFirstK (s : KS) (c : UInt8) : KS × Nat :=
  if c = 13 then (s, 10) else if s.tr.length = 64 then (s, 12) else addK s c (tokU c) 7
def ofNameK (s : KS) (c : UInt8) : KS × Nat :=
  if c = 58 then ({ s with name := s.part, part := [] }, 8) else addK s c (tokU c) 7
def ofValueK (s : KS) (c : UInt8) : KS × Nat := if c = 13 then (s, 9) else addK s c (valU c) 8
def ofLineEndK (s : KS) (c : UInt8) : KS × Nat :=
  if c = 10 then ({ s with tr := s.tr ++ [(s.name, trimL s.part)], part := [] }, 6) else (s, 12)
def nextK (s : KS) (c : UInt8) : KS × Nat :=
  match s.st with
  | 0 => ofSizeK s c
  | 1 => ofExtK s c
  | 2 => ofSizeEndK s c
  | 4 => (s, onlyK 13 c 5)
  | 5 => (s, onlyK 10 c 0)
  | 6 => ofFirstK s c
  | 7 => ofNameK s c
  | 8 => ofValueK s c
  | 9 => ofLineEndK s c
  | 10 => (s, onlyK 10 c 11)
  | _ => (s, 12)
def ofLinesK (s : KS) (c : UInt8) : Bool := if s.st = 6 then decide (c ≠ 13) else decide (s.st = 7 ∨ s.st = 8 ∨ s.st = 9)
/-- The line's byte counted. -/
def cntK (s : KS) (c : UInt8) : KS := if ofLinesK s c = true then { s with lines := s.lines + 1 } else s
def judgeK (st : Nat) (x : KS × Nat) : KS × Nat :=
  if x.2 = 12 then (x.1, if st < 6 then 31 else 21)
  else if x.2 = 3 ∧ x.1.most - x.1.told < x.1.left then (x.1, 33)
  else ({ x.1 with st := x.2 }, 0)
def stepK (s : KS) (c : UInt8) : KS × Nat :=
  if 8192 < (cntK s c).lines then (cntK s c, 22) else judgeK s.st (nextK (cntK s c) c)
/-- So many bytes of the chunk's own taken. -/
def ownK (s : KS) (k : Nat) : KS := { s with told := s.told + k, left := s.left - k, st := if s.left - k = 0 then 4 else s.st }
def byteK (s : KS) (c : UInt8) : KS := if s.st = 3 then ownK s 1 else { (stepK s c).1 with err := (stepK s c).2 }
def endedK (s : KS) : Bool := decide (s.err ≠ 0) || decide (s.st = 11)
def feedK (s : KS) : B → KS
  | [] => s
  | c :: l => if endedK s = true then s else feedK (byteK s c) l
def feedN (s : KS) : B → Nat
  | [] => 0
  | c :: l => if endedK s = true then 0 else feedN (byteK s c) l + 1
def feedB (s : KS) : B → B
  | [] => []
  | c :: l => if endedK s = true then [] else (if s.st = 3 then [c] else []) ++ feedB (byteK s c) l
theorem fk_ended {s : KS} (h : endedK s = true) : ∀ l : B, feedK s l = s ∧ feedN s l = 0 ∧ feedB s l = []
  | [] => ⟨rfl, rfl, rfl⟩
  | c :: l => by unfold feedK feedN feedB; rw [if_pos h, if_pos h, if_pos h]; exact ⟨rfl, rfl, rfl⟩
theorem fk_cons {s : KS} (h : endedK s = false) (c : UInt8) (l : B) : feedK s (c :: l) = feedK (byteK s c) l ∧ feedN s (c :: l) = feedN (byteK s c) l + 1 ∧ feedB s (c :: l) = (if s.st = 3 then [c] else []) ++ feedB (byteK s c) l := by
  have hn : ¬ endedK s = true := by rw [h]; simp
  refine ⟨?_, ?_, ?_⟩
  · rw [feedK, if_neg hn]
  · rw [feedN, if_neg hn]
  · rw [feedB, if_neg hn]
theorem fk_app : ∀ (a b : B) (s : KS), feedK s (a ++ b) = feedK (feedK s a) b ∧ feedN s (a ++ b) = feedN s a + feedN (feedK s a) b ∧ feedB s (a ++ b) = feedB s a ++ feedB (feedK s a) b
  | [], b, s => by simp [feedK, feedN, feedB]
  | c :: a, b, s => by
    rw [List.cons_append]
    cases h : endedK s with
    | true =>
      obtain ⟨h1, h2, h3⟩ := fk_ended h (c :: (a ++ b))
      obtain ⟨k1, k2, k3⟩ := fk_ended h (c :: a)
      obtain ⟨m1, m2, m3⟩ := fk_ended h b
      rw [h1, h2, h3, k1, k2, k3, m1, m2, m3]
      simp
    | false =>
      obtain ⟨h1, h2, h3⟩ := fk_cons h c (a ++ b)
      obtain ⟨k1, k2, k3⟩ := fk_cons h c a
      obtain ⟨m1, m2, m3⟩ := fk_app a b (byteK s c)
      rw [h1, h2, h3, k1, k2, k3, m1, m2, m3]
      refine ⟨rfl, by omega, by rw [List.append_assoc]⟩
theorem fkN_le : ∀ (l : B) (s : KS), feedN s l ≤ l.length
  | [], s => Nat.le_refl _
  | c :: l, s => by
    have := fkN_le l (byteK s c)
    unfold feedN
    split
    · omega
    · rw [List.length_cons]; omega
/-- Only what was taken counts. -/
theorem fk_took : ∀ (l : B) (s : KS), feedK s (l.take (feedN s l)) = feedK s l ∧ feedB s (l.take (feedN s l)) = feedB s l ∧ feedN s (l.take (feedN s l)) = feedN s l ∧ (feedN s l < l.length → endedK (feedK s l) = true)
  | [], s => by simp [feedK, feedN, feedB]
  | c :: l, s => by
    cases h : endedK s with
    | true =>
      obtain ⟨h1, h2, h3⟩ := fk_ended h (c :: l)
      rw [h1, h2, h3]
      simp [feedK, feedN, feedB, h]
    | false =>
      obtain ⟨h1, h2, h3⟩ := fk_cons h c l
      obtain ⟨m1, m2, m3, m4⟩ := fk_took l (byteK s c)
      rw [h1, h2, h3, List.take_succ_cons]
      obtain ⟨k1, k2, k3⟩ := fk_cons h c (l.take (feedN (byteK s c) l))
      rw [k1, k2, k3, m1, m2, m3]
      exact ⟨rfl, rfl, rfl, fun hl => m4 (by rw [List.length_cons] at hl; omega)⟩
theorem own_own (s : KS) {k : Nat} (hk : k < s.left) (j : Nat) : ownK (ownK s k) j = ownK s (k + j) := by
  unfold ownK
  have e1 : ¬ s.left - k = 0 := by omega
  have e2 : s.left - k - j = s.left - (k + j) := by omega
  simp only [if_neg e1, e2, Nat.add_assoc]
theorem fk_own : ∀ (l : B) (s : KS), s.err = 0 → s.st = 3 → l.length ≤ s.left → 0 < l.length → feedK s l = ownK s l.length ∧ feedN s l = l.length ∧ feedB s l = l
  | [], s, _, _, _, h => absurd h (by simp)
  | [c], s, he, h3, hl, _ => by
    have hn : endedK s = false := by unfold endedK; simp [he, h3]
    obtain ⟨h1, h2, h4⟩ := fk_cons hn c []
    rw [h1, h2, h4, if_pos h3]
    unfold byteK
    rw [if_pos h3]
    simp [feedK, feedN, feedB]
  | c :: d :: l, s, he, h3, hl, _ => by
    have hn : endedK s = false := by unfold endedK; simp [he, h3]
    obtain ⟨h1, h2, h4⟩ := fk_cons hn c (d :: l)
    rw [h1, h2, h4, if_pos h3]
    have hb : byteK s c = ownK s 1 := by unfold byteK; rw [if_pos h3]
    rw [List.length_cons, List.length_cons] at hl
    have h5 : (ownK s 1).st = 3 := by unfold ownK; dsimp only; rw [if_neg (by omega), h3]
    obtain ⟨m1, m2, m3⟩ := fk_own (d :: l) (ownK s 1) he h5 (by unfold ownK; dsimp only; rw [List.length_cons]; omega) (by simp)
    rw [hb, m1, m2, m3, own_own s (by omega)]
    refine ⟨?_, rfl, rfl⟩
    rw [List.length_cons, List.length_cons, List.length_cons]
    congr 1
    omega
/-- What a reader always is. -/
structure InvK (s : KS) : Prop where
  most : s.most ≤ 1099511627776
  told : s.told ≤ s.most
  st : s.st ≤ 11
  left : s.left < 18446744073709551616
  c0 : s.st = 0 → s.count ≤ 16 ∧ s.left < 16 ^ s.count
  c1 : s.count ≤ 256
  s3 : s.st = 3 → 0 < s.left ∧ s.left ≤ s.most - s.told
  s4 : s.st = 3 ∨ s.st = 4 ∨ s.st = 5 → s.count = 0
  s5 : s.st = 4 ∨ s.st = 5 → s.left = 0
  tr : s.tr.length ≤ 64
  t7 : s.st = 7 ∨ s.st = 8 ∨ s.st = 9 → s.tr.length < 64
  high : s.lines ≤ 8193
  on : s.err = 0 → s.lines ≤ 8192
  part : s.part.length ≤ s.lines
theorem invK_new {m : Nat} (h : m ≤ 1099511627776) : InvK (newK m) := by
  refine ⟨h, Nat.zero_le _, ?_, ?_, fun _ => ⟨?_, ?_⟩, ?_, fun h => ?_, fun _ => rfl, fun _ => rfl, ?_, fun h => ?_, ?_, fun _ => ?_, ?_⟩ <;> simp [newK] at * <;> omega
theorem hexN_lt (c : UInt8) : hexN c < 16 := by
  unfold hexN hexV
  (repeat' split) <;> omega
theorem InvK.own {s : KS} (h : InvK s) (h3 : s.st = 3) {k : Nat} (hk : k ≤ s.left) : InvK (ownK s k) := by
  obtain ⟨a1, a2, a3, a4, a5, a6, a7, a8, a9, a10, a11, a12, a13, a14⟩ := h
  have := a7 h3
  have h0 := a8 (.inl h3)
  unfold ownK
  by_cases hz : s.left - k = 0
  · simp only [if_pos hz]
    exact ⟨a1, by dsimp only; omega, by dsimp only; omega, by dsimp only; omega, by dsimp only; omega, a6, by dsimp only; omega, fun _ => h0, fun _ => hz, a10, by dsimp only; omega, a12, a13, a14⟩
  · simp only [if_neg hz]
    exact ⟨a1, by dsimp only; omega, a3, by dsimp only; omega, by dsimp only; omega, a6, by dsimp only; omega, fun _ => h0, by dsimp only; omega, a10, by dsimp only; omega, a12, a13, a14⟩
theorem cnt_le (s : KS) (c : UInt8) : s.lines ≤ (cntK s c).lines ∧ (cntK s c).lines ≤ s.lines + 1 := by unfold cntK; split <;> simp
theorem InvK.cnt {s : KS} (h : InvK s) (he : s.err = 0) (c : UInt8) : InvK { cntK s c with err := 22 } ∧ (¬ 8192 < (cntK s c).lines → InvK (cntK s c)) := by
  have hon := h.on he
  obtain ⟨a1, a2, a3, a4, a5, a6, a7, a8, a9, a10, a11, a12, a13, a14⟩ := h
  unfold cntK
  split
  · refine ⟨⟨a1, a2, a3, a4, a5, a6, a7, a8, a9, a10, a11, ?_, fun h => ?_, ?_⟩, fun hh => ⟨a1, a2, a3, a4, a5, a6, a7, a8, a9, a10, a11, ?_, fun _ => ?_, ?_⟩⟩ <;> dsimp only at * <;> omega
  · exact ⟨⟨a1, a2, a3, a4, a5, a6, a7, a8, a9, a10, a11, a12, fun _ => hon, a14⟩, fun _ => ⟨a1, a2, a3, a4, a5, a6, a7, a8, a9, a10, a11, a12, a13, a14⟩⟩
theorem pow16 {n : Nat} (h : n ≤ 16) : 16 ^ n ≤ 18446744073709551616 := by
  have : (16 : Nat) ^ n ≤ 16 ^ 16 := Nat.pow_le_pow_right (by decide) h
  simpa using this
end Go.Proofs.YtnlmjlfoeodleaaGreatDoor
/- The reader of chunked bodies: what it always is. -/
namespace Go.Proofs.YtnlmjlfoeodleaaGreatDoor

def judged (st : Nat) (x : KS × Nat) : KS := { (judgeK st x).1 with err := (judgeK st x).2 }
theorem judged_no {s : KS} (h : InvK s) (st : Nat) : InvK (judged st (s, 12)) := by
  obtain ⟨a1, a2, a3, a4, a5, a6, a7, a8, a9, a10, a11, a12, a13, a14⟩ := h
  unfold judged judgeK
  simp only [if_true]
  exact ⟨a1, a2, a3, a4, a5, a6, a7, a8, a9, a10, a11, a12, fun h => absurd h (by dsimp only; split <;> simp), a14⟩
theorem judged_ok {s : KS} (st : Nat) {n : Nat} (hn : n ≠ 12) (h3 : n ≠ 3) (h : InvK { s with st := n, err := 0 }) : InvK (judged st (s, n)) := by
  unfold judged judgeK
  simp only [if_neg hn, h3, false_and, if_false]
  exact h
theorem judged_3 {s : KS} (st : Nat) (h : InvK s) (hok : s.left ≤ s.most - s.told → InvK { s with st := 3, err := 0 }) : InvK (judged st (s, 3)) := by
  unfold judged judgeK
  simp only [show ¬ (3 = 12) by decide, if_false, true_and]
  split
  · obtain ⟨a1, a2, a3, a4, a5, a6, a7, a8, a9, a10, a11, a12, a13, a14⟩ := h
    exact ⟨a1, a2, a3, a4, a5, a6, a7, a8, a9, a10, a11, a12, fun h => absurd h (by simp), a14⟩
  · exact hok (by omega)
theorem InvK.add {s : KS} (h : InvK s) (he : s.err = 0) (c : UInt8) (may : Bool) (n st : Nat) (hl : s.part.length + 1 ≤ s.lines) (hn : n = 7 ∨ n = 8) (ht : s.tr.length < 64) : InvK (judged st (addK s c may n)) := by
  unfold addK
  split
  · refine judged_ok st (by omega) (by omega) ?_
    obtain ⟨a1, a2, a3, a4, a5, a6, a7, a8, a9, a10, a11, a12, a13, a14⟩ := h
    have := a13 he
    exact ⟨a1, a2, by dsimp only; omega, a4, by dsimp only; omega, a6, by dsimp only; omega, by dsimp only; omega, by dsimp only; omega, a10, fun _ => ht, a12, fun _ => this, by simp; omega⟩
  · exact judged_no h st
theorem next_inv {s : KS} (h : InvK s) (he : s.err = 0) (c : UInt8) (hl : ofLinesK s c = true → s.part.length + 1 ≤ s.lines) : InvK (judged s.st (nextK s c)) := by
  have hI := h
  obtain ⟨a1, a2, a3, a4, a5, a6, a7, a8, a9, a10, a11, a12, a13, a14⟩ := h
  have h8 := a13 he
  have hst : s.st = 0 ∨ s.st = 1 ∨ s.st = 2 ∨ s.st = 3 ∨ s.st = 4 ∨ s.st = 5 ∨ s.st = 6 ∨ s.st = 7 ∨ s.st = 8 ∨ s.st = 9 ∨ s.st = 10 ∨ s.st = 11 := by omega
  unfold nextK
  rcases hst with e | e | e | e | e | e | e | e | e | e | e | e <;> simp only [e]
  · unfold ofSizeK
    split
    · rename_i hh
      obtain ⟨b1, b2⟩ := a5 e
      refine judged_ok 0 (by decide) (by decide) ?_
      have hx := hexN_lt c
      have hp : 16 ^ (s.count + 1) = 16 ^ s.count * 16 := Nat.pow_succ ..
      have hq := pow16 (n := s.count + 1) (by omega)
      exact ⟨a1, a2, by dsimp only; omega, by dsimp only; omega, by dsimp only; rw [hp]; omega, by dsimp only; omega, by dsimp only; omega, by dsimp only; omega, by dsimp only; omega, a10, by dsimp only; omega, a12, fun _ => h8, a14⟩
    · split
      · exact judged_no hI _
      · split
        · exact judged_ok 0 (by decide) (by decide) ⟨a1, a2, by dsimp only; omega, a4, by dsimp only; omega, a6, by dsimp only; omega, by dsimp only; omega, by dsimp only; omega, a10, by dsimp only; omega, a12, fun _ => h8, a14⟩
        · split
          · exact judged_ok 0 (by decide) (by decide) ⟨a1, a2, by dsimp only; omega, a4, by dsimp only; omega, by dsimp only; omega, by dsimp only; omega, by dsimp only; omega, by dsimp only; omega, a10, by dsimp only; omega, a12, fun _ => h8, a14⟩
          · exact judged_no hI _
  · unfold ofExtK
    split
    · exact judged_ok _ (by decide) (by decide) ⟨a1, a2, by dsimp only; omega, a4, by dsimp only; omega, a6, by dsimp only; omega, by dsimp only; omega, by dsimp only; omega, a10, by dsimp only; omega, a12, fun _ => h8, a14⟩
    · split
      · exact judged_ok _ (by decide) (by decide) ⟨a1, a2, by dsimp only; omega, a4, by dsimp only; omega, by dsimp only; omega, by dsimp only; omega, by dsimp only; omega, by dsimp only; omega, a10, by dsimp only; omega, a12, fun _ => h8, a14⟩
      · exact judged_no hI _
  · unfold ofSizeEndK
    split
    · by_cases h0 : s.left = 0
      · simp only [if_pos h0]
        exact judged_ok _ (by decide) (by decide) ⟨a1, a2, by dsimp only; omega, a4, by dsimp only; omega, by dsimp only; omega, by dsimp only; omega, by dsimp only; omega, by dsimp only; omega, a10, by dsimp only; omega, a12, fun _ => h8, a14⟩
      · simp only [if_neg h0]
        exact judged_3 _ ⟨a1, a2, a3, a4, by dsimp only; omega, by dsimp only; omega, by dsimp only; omega, by dsimp only; omega, by dsimp only; omega, a10, by dsimp only; omega, a12, fun _ => h8, a14⟩ (fun hle => ⟨a1, a2, by dsimp only; omega, a4, by dsimp only; omega, by dsimp only; omega, by dsimp only at *; omega, by dsimp only; omega, by dsimp only; omega, a10, by dsimp only; omega, a12, fun _ => h8, a14⟩)
    · exact judged_no hI _
  · exact judged_no hI _
  · unfold onlyK
    split
    · exact judged_ok _ (by decide) (by decide) ⟨a1, a2, by dsimp only; omega, a4, by dsimp only; omega, a6, by dsimp only; omega, by dsimp only; omega, by dsimp only; omega, a10, by dsimp only; omega, a12, fun _ => h8, a14⟩
    · exact judged_no hI _
  · have := a8 (.inr (.inr e))
    have h0 := a9 (.inr e)
    unfold onlyK
    split
    · exact judged_ok _ (by decide) (by decide) ⟨a1, a2, by dsimp only; omega, a4, fun _ => ⟨by dsimp only; omega, by dsimp only; rw [h0, this]; decide⟩, a6, by dsimp only; omega, by dsimp only; omega, by dsimp only; omega, a10, by dsimp only; omega, a12, fun _ => h8, a14⟩
    · exact judged_no hI _
  · unfold ofFirstK
    split
    · exact judged_ok _ (by decide) (by decide) ⟨a1, a2, by dsimp only; omega, a4, by dsimp only; omega, a6, by dsimp only; omega, by dsimp only; omega, by dsimp only; omega, a10, by dsimp only; omega, a12, fun _ => h8, a14⟩
    · rename_i hc
      split
      · exact judged_no hI _
      · exact hI.add he c _ 7 _ (hl (by unfold ofLinesK; rw [if_pos e]; simp [hc])) (.inl rfl) (by omega)
  · have ht := a11 (.inl e)
    unfold ofNameK
    split
    · exact judged_ok _ (by decide) (by decide) ⟨a1, a2, by dsimp only; omega, a4, by dsimp only; omega, a6, by dsimp only; omega, by dsimp only; omega, by dsimp only; omega, a10, fun _ => ht, a12, fun _ => h8, by simp⟩
    · exact hI.add he c _ 7 _ (hl (by unfold ofLinesK; simp [e])) (.inl rfl) ht
  · have ht := a11 (.inr (.inl e))
    unfold ofValueK
    split
    · exact judged_ok _ (by decide) (by decide) ⟨a1, a2, by dsimp only; omega, a4, by dsimp only; omega, a6, by dsimp only; omega, by dsimp only; omega, by dsimp only; omega, a10, fun _ => ht, a12, fun _ => h8, a14⟩
    · exact hI.add he c _ 8 _ (hl (by unfold ofLinesK; simp [e])) (.inr rfl) ht
  · have ht := a11 (.inr (.inr e))
    unfold ofLineEndK
    split
    · exact judged_ok _ (by decide) (by decide) ⟨a1, a2, by dsimp only; omega, a4, by dsimp only; omega, a6, by dsimp only; omega, by dsimp only; omega, by dsimp only; omega, by simp; omega, by dsimp only; omega, a12, fun _ => h8, by simp⟩
    · exact judged_no hI _
  · unfold onlyK
    split
    · exact judged_ok _ (by decide) (by decide) ⟨a1, a2, by dsimp only; omega, a4, by dsimp only; omega, a6, by dsimp only; omega, by dsimp only; omega, by dsimp only; omega, a10, by dsimp only; omega, a12, fun _ => h8, a14⟩
    · exact judged_no hI _
  · exact judged_no hI _
theorem cnt_st (s : KS) (c : UInt8) : (cntK s c).st = s.st ∧ (cntK s c).err = s.err ∧ (cntK s c).part = s.part ∧ (cntK s c).tr = s.tr ∧ (cntK s c).most = s.most ∧ (cntK s c).told = s.told := by unfold cntK; split <;> exact ⟨rfl, rfl, rfl, rfl, rfl, rfl⟩
theorem InvK.byte {s : KS} (h : InvK s) (hn : endedK s = false) (c : UInt8) : InvK (byteK s c) := by
  have he : s.err = 0 := by
    unfold endedK at hn
    simp at hn
    exact hn.1
  unfold byteK
  split
  · rename_i h3
    exact h.own h3 (h.s3 h3).1
  · unfold stepK
    obtain ⟨c1, c2⟩ := h.cnt he c
    split
    · exact c1
    · rename_i hle
      obtain ⟨e1, e2, e3, _⟩ := cnt_st s c
      have := next_inv (c2 hle) (by rw [e2]; exact he) c (fun hh => by
        rw [e3]
        have hcn : ofLinesK s c = true := by unfold ofLinesK at hh ⊢; rw [e1] at hh; exact hh
        have hp := h.part
        unfold cntK
        rw [if_pos hcn]
        dsimp only
        omega)
      rw [e1] at this
      exact this
theorem feed_inv : ∀ (l : B) {s : KS}, InvK s → InvK (feedK s l)
  | [], s, h => h
  | c :: l, s, h => by
    cases hn : endedK s with
    | true => rw [(fk_ended hn _).1]; exact h
    | false => rw [(fk_cons hn c l).1]; exact feed_inv l (h.byte hn c)
theorem own_part_le {s : KS} (h : InvK s) : s.part.length ≤ 8193 := Nat.le_trans h.part h.high
end Go.Proofs.YtnlmjlfoeodleaaGreatDoor
