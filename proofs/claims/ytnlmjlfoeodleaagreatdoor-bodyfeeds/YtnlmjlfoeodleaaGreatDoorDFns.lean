/- The document's reader of chunked bodies, in plain words, and how it goes with the program's. -/
import Derived.Test.YtnlmjlfoeodleaaGreatDoorKSl
namespace Go.Proofs.YtnlmjlfoeodleaaGreatDoor
open Go.RowKit

structure DK where
  most : Nat
  len : Nat
  st : Nat
  e : Nat
  digits : Nat
  size : Nat
  more : Nat
  line : B
  bytes : Nat
  tr : List (B × B)
  gh : Nat → Prop
def newD (m : Nat) : DK := ⟨m, 0, 0, 0, 0, 0, 0, [], 0, [], fun _ => False⟩
def failD (d : DK) (e : Nat) : DK := { d with st := 9, e := e }
def sizeD (d : DK) (c : UInt8) : DK :=
  if d.st = 2 ∧ c = 10 then (if d.most - d.len < d.size then failD d 33 else { d with st := if d.size = 0 then 6 else 3 })
  else if d.st = 2 then failD d 31
  else if d.st = 0 ∧ hexU c = true ∧ d.digits < 16 then { d with digits := d.digits + 1, size := min (d.size * 16 + hexN c) 1125899906842624 }
  else if d.digits = 0 then failD d 31
  else if c = 13 then { d with st := 2 }
  else if (d.st = 0 ∧ (c = 59 ∨ c = 32 ∨ c = 9)) ∨ (d.st = 1 ∧ valU c = true) then (if 256 < d.more + 1 then failD { d with st := 1, more := d.more + 1 } 31 else { d with st := 1, more := d.more + 1 })
  else failD d 31
def hasD (d : DK) : Bool := (cutF 58 d.line).2.2
def cntD (d : DK) : DK := { d with bytes := d.bytes + 1 }
def lastD (d : DK) (c : UInt8) : Prop := d.line = [] ∧ (d.st = 7 ∨ c = 13)
instance (d : DK) (c : UInt8) : Decidable (lastD d c) := by unfold lastD; infer_instance
def badD (d : DK) (c : UInt8) : Prop := (hasD d = false ∧ c = 58 ∧ d.line = []) ∨ (hasD d = false ∧ c ≠ 58 ∧ tokU c = false) ∨ (hasD d = true ∧ valU c = false) ∨ (d.line = [] ∧ d.tr.length = 64)
instance (d : DK) (c : UInt8) : Decidable (badD d c) := by unfold badD; infer_instance
def trailD (d : DK) (c : UInt8) : DK :=
  if 8192 < d.bytes + 1 ∧ ¬ lastD d c then failD (cntD d) 22
  else if d.st = 7 then (if c = 10 then (if d.line = [] then { cntD d with st := 8 } else { cntD d with tr := d.tr ++ [((cutF 58 d.line).1, trimL (cutF 58 d.line).2.1)], line := [], st := 6 }) else failD (cntD d) 21)
  else if c = 13 then (if hasD d = false ∧ d.line ≠ [] then failD (cntD d) 21 else { cntD d with st := 7 })
  else if badD d c then failD (cntD d) 21
  else { cntD d with line := d.line ++ [c] }
def stepD (d : DK) (c : UInt8) : DK :=
  if d.st = 3 then { d with size := d.size - 1, len := d.len + 1, st := if d.size - 1 = 0 then 4 else 3 }
  else if d.st = 4 then (if c = 13 then { d with st := 5 } else failD d 31)
  else if d.st = 5 then (if c = 10 then { d with st := 0, digits := 0, size := 0, more := 0 } else failD d 31)
  else if d.st = 6 ∨ d.st = 7 then trailD d c
  else sizeD d c
/-- How the document's reader stands to the program's. -/
def StD (s : KS) (d : DK) : Prop :=
  match s.st with
  | 0 => d.st = 0 ∧ d.digits = s.count ∧ d.size = min s.left 1125899906842624 ∧ d.more = 0 ∧ d.line = [] ∧ d.bytes = s.lines
  | 1 => d.st = 1 ∧ 0 < d.digits ∧ d.size = min s.left 1125899906842624 ∧ d.more = s.count ∧ d.line = [] ∧ d.bytes = s.lines
  | 2 => d.st = 2 ∧ d.size = min s.left 1125899906842624 ∧ d.line = [] ∧ d.bytes = s.lines
  | 3 => d.st = 3 ∧ d.size = s.left ∧ d.line = [] ∧ d.bytes = s.lines
  | 4 => d.st = 4 ∧ d.line = [] ∧ d.bytes = s.lines
  | 5 => d.st = 5 ∧ d.line = [] ∧ d.bytes = s.lines
  | 6 => d.st = 6 ∧ d.line = [] ∧ d.bytes = s.lines ∧ s.part = []
  | 7 => d.st = 6 ∧ d.line = s.part ∧ s.part ≠ [] ∧ (∀ y ∈ s.part, y ≠ 58) ∧ d.bytes = s.lines
  | 8 => d.st = 6 ∧ d.line = s.name ++ 58 :: s.part ∧ (∀ y ∈ s.name, y ≠ 58) ∧ d.bytes = s.lines
  | 9 => d.st = 7 ∧ d.line = s.name ++ 58 :: s.part ∧ (∀ y ∈ s.name, y ≠ 58) ∧ d.bytes = s.lines
  | 10 => d.st = 7 ∧ d.line = []
  | 11 => d.st = 8
  | _ => False
structure RelD (s : KS) (d : DK) : Prop where
  most : d.most = s.most
  len : d.len = s.told
  tr : d.tr = s.tr
  bad : s.err ≠ 0 → d.st = 9 ∧ d.e = s.err
  ok : s.err = 0 → d.e = 0 ∧ StD s d
theorem relD_new (m : Nat) : RelD (newK m) (newD m) := ⟨rfl, rfl, rfl, fun h => absurd rfl h, fun _ => ⟨rfl, by simp [StD, newK, newD]⟩⟩
theorem has_none {d : DK} (h : ∀ y ∈ d.line, y ≠ 58) : hasD d = false := by unfold hasD; rw [cutF_no _ h]
theorem has_some {d : DK} {n p : B} (e : d.line = n ++ 58 :: p) (h : ∀ y ∈ n, y ≠ 58) : hasD d = true ∧ (cutF 58 d.line).1 = n ∧ (cutF 58 d.line).2.1 = p := by
  unfold hasD
  rw [e, cutF_at _ _ h]
  exact ⟨rfl, rfl, rfl⟩
theorem relD_fail {s : KS} {d d1 : DK} (h : RelD s d) (e : Nat) (he : e ≠ 0) (h1 : d1.most = d.most) (h2 : d1.len = d.len) (h3 : d1.tr = d.tr) {s' : KS} (k1 : s'.most = s.most) (k2 : s'.told = s.told) (k3 : s'.tr = s.tr) (k4 : s'.err = e) : RelD s' (failD d1 e) :=
  ⟨by rw [k1, ← h.most]; exact h1, by rw [k2, ← h.len]; exact h2, by rw [k3, ← h.tr]; exact h3, fun _ => ⟨rfl, k4.symm⟩, fun h0 => absurd (k4.symm.trans h0) he⟩
end Go.Proofs.YtnlmjlfoeodleaaGreatDoor
/- The document's reader of chunked bodies goes with the program's, byte by byte. -/
namespace Go.Proofs.YtnlmjlfoeodleaaGreatDoor
open Go.RowKit

theorem byte_judged {s : KS} {c : UInt8} (h3 : s.st ≠ 3) (hl : ¬ 8192 < (cntK s c).lines) : byteK s c = judged s.st (nextK (cntK s c) c) := by
  unfold byteK stepK judged
  rw [if_neg h3, if_neg hl]
theorem byte_large {s : KS} {c : UInt8} (h3 : s.st ≠ 3) (hl : 8192 < (cntK s c).lines) : byteK s c = { cntK s c with err := 22 } := by
  unfold byteK stepK
  rw [if_neg h3, if_pos hl]
theorem jd_no (s : KS) (st : Nat) : judged st (s, 12) = { s with err := if st < 6 then 31 else 21 } := by unfold judged judgeK; simp
theorem jd_ok (s : KS) (st : Nat) {n : Nat} (h : n ≠ 12) (h3 : n ≠ 3) : judged st (s, n) = { s with st := n, err := 0 } := by unfold judged judgeK; simp [h, h3]
theorem jd_3n (s : KS) (st : Nat) (h : s.most - s.told < s.left) : judged st (s, 3) = { s with err := 33 } := by unfold judged judgeK; simp [h]
theorem jd_3y (s : KS) (st : Nat) (h : ¬ s.most - s.told < s.left) : judged st (s, 3) = { s with st := 3, err := 0 } := by unfold judged judgeK; simp [h]
theorem cnt_same {s : KS} {c : UInt8} (h : s.st < 6 ∨ 9 < s.st) : cntK s c = s := by
  refine cnt_no ?_
  unfold ofLinesK
  rw [if_neg (by omega)]
  simp
  omega
theorem cnt_more {s : KS} {c : UInt8} (h : s.st = 7 ∨ s.st = 8 ∨ s.st = 9 ∨ (s.st = 6 ∧ c ≠ 13)) : cntK s c = { s with lines := s.lines + 1 } := by
  refine cnt_yes ?_
  unfold ofLinesK
  split
  · rcases h with h | h | h | h
    · omega
    · omega
    · omega
    · simp [h.2]
  · simp; omega
theorem fail_most (d : DK) (e : Nat) : (failD d e).st = 9 ∧ (failD d e).e = e := ⟨rfl, rfl⟩
theorem rel_0 {s : KS} {d : DK} (h : RelD s d) (hi : InvK s) (he : s.err = 0) (e : s.st = 0) (c : UInt8) : RelD (byteK s c) (stepD d c) := by
  have hr := h
  obtain ⟨a1, a2, a3, _, a5⟩ := h
  obtain ⟨b0, b1⟩ := a5 he
  simp only [StD, e] at b1
  obtain ⟨d1, d2, d3, d4, d5, d6⟩ := b1
  have hl := hi.on he
  have hc : cntK s c = s := cnt_same (by omega)
  have hb : byteK s c = judged 0 (ofSizeK s c) := by
    rw [byte_judged (by omega) (by rw [hc]; omega), hc, e]
    congr 1
    unfold nextK
    simp only [e]
  have hd : stepD d c = sizeD d c := by unfold stepD; simp [d1]
  rw [hb, hd]
  have g1 : ¬ (d.st = 2 ∧ c = 10) := by omega
  have g2 : ¬ d.st = 2 := by omega
  by_cases hx : hexU c = true ∧ s.count < 16
  · rw [show ofSizeK s c = _ from by unfold ofSizeK; rw [if_pos hx], show sizeD d c = _ from by unfold sizeD; rw [if_neg g1, if_neg g2, if_pos ⟨d1, hx.1, by omega⟩], jd_ok _ _ (by decide) (by decide)]
    exact ⟨a1, a2, a3, fun h => absurd rfl h, fun _ => ⟨b0, by simp only [StD]; refine ⟨d1, by omega, ?_, d4, d5, d6⟩; rw [d3]; have := hexN_lt c; omega⟩⟩
  · have g3 : ¬ (d.st = 0 ∧ hexU c = true ∧ d.digits < 16) := fun h => hx ⟨h.2.1, by omega⟩
    by_cases h0 : s.count = 0
    · rw [show ofSizeK s c = _ from by unfold ofSizeK; rw [if_neg hx, if_pos h0], show sizeD d c = _ from by unfold sizeD; rw [if_neg g1, if_neg g2, if_neg g3, if_pos (by omega)], jd_no]
      exact relD_fail hr 31 (by decide) rfl rfl rfl rfl rfl rfl rfl
    · have g4 : ¬ d.digits = 0 := by omega
      by_cases h13 : c = 13
      · rw [show ofSizeK s c = _ from by unfold ofSizeK; rw [if_neg hx, if_neg h0, if_pos h13], show sizeD d c = _ from by unfold sizeD; rw [if_neg g1, if_neg g2, if_neg g3, if_neg g4, if_pos h13], jd_ok _ _ (by decide) (by decide)]
        exact ⟨a1, a2, a3, fun h => absurd rfl h, fun _ => ⟨b0, by simp only [StD]; exact ⟨trivial, d3, d5, d6⟩⟩⟩
      · by_cases hs : c = 59 ∨ c = 32 ∨ c = 9
        · rw [show ofSizeK s c = _ from by unfold ofSizeK; rw [if_neg hx, if_neg h0, if_neg h13, if_pos hs], show sizeD d c = _ from by unfold sizeD; rw [if_neg g1, if_neg g2, if_neg g3, if_neg g4, if_neg h13, if_pos (.inl ⟨d1, hs⟩), if_neg (by omega)], jd_ok _ _ (by decide) (by decide)]
          exact ⟨a1, a2, a3, fun h => absurd rfl h, fun _ => ⟨b0, by simp only [StD]; exact ⟨trivial, by omega, d3, by omega, d5, d6⟩⟩⟩
        · rw [show ofSizeK s c = _ from by unfold ofSizeK; rw [if_neg hx, if_neg h0, if_neg h13, if_neg hs], show sizeD d c = _ from by unfold sizeD; rw [if_neg g1, if_neg g2, if_neg g3, if_neg g4, if_neg h13, if_neg (fun h => by rcases h with h | h; exact hs h.2; omega)], jd_no]
          exact relD_fail hr 31 (by decide) rfl rfl rfl rfl rfl rfl rfl
theorem rel_1 {s : KS} {d : DK} (h : RelD s d) (hi : InvK s) (he : s.err = 0) (e : s.st = 1) (c : UInt8) : RelD (byteK s c) (stepD d c) := by
  have hr := h
  obtain ⟨a1, a2, a3, _, a5⟩ := h
  obtain ⟨b0, b1⟩ := a5 he
  simp only [StD, e] at b1
  obtain ⟨d1, d2, d3, d4, d5, d6⟩ := b1
  have hl := hi.on he
  have hc : cntK s c = s := cnt_same (by omega)
  have hb : byteK s c = judged 1 (ofExtK s c) := by
    rw [byte_judged (by omega) (by rw [hc]; omega), hc, e]
    congr 1
    unfold nextK
    simp only [e]
  have hd : stepD d c = sizeD d c := by unfold stepD; simp [d1]
  rw [hb, hd]
  have g1 : ¬ (d.st = 2 ∧ c = 10) := by omega
  have g2 : ¬ d.st = 2 := by omega
  have g3 : ¬ (d.st = 0 ∧ hexU c = true ∧ d.digits < 16) := fun h => by omega
  have g4 : ¬ d.digits = 0 := by omega
  by_cases h13 : c = 13
  · rw [show ofExtK s c = _ from by unfold ofExtK; rw [if_pos h13], show sizeD d c = _ from by unfold sizeD; rw [if_neg g1, if_neg g2, if_neg g3, if_neg g4, if_pos h13], jd_ok _ _ (by decide) (by decide)]
    exact ⟨a1, a2, a3, fun h => absurd rfl h, fun _ => ⟨b0, by simp only [StD]; exact ⟨trivial, d3, d5, d6⟩⟩⟩
  · by_cases hv : valU c = true
    · have g5 : (d.st = 0 ∧ (c = 59 ∨ c = 32 ∨ c = 9)) ∨ (d.st = 1 ∧ valU c = true) := .inr ⟨d1, hv⟩
      by_cases h256 : s.count < 256
      · rw [show ofExtK s c = _ from by unfold ofExtK; rw [if_neg h13, if_pos ⟨h256, hv⟩], show sizeD d c = _ from by unfold sizeD; rw [if_neg g1, if_neg g2, if_neg g3, if_neg g4, if_neg h13, if_pos g5, if_neg (by omega)], jd_ok _ _ (by decide) (by decide)]
        exact ⟨a1, a2, a3, fun h => absurd rfl h, fun _ => ⟨b0, by simp only [StD]; exact ⟨trivial, d2, d3, by omega, d5, d6⟩⟩⟩
      · rw [show ofExtK s c = _ from by unfold ofExtK; rw [if_neg h13, if_neg (fun h => h256 h.1)], show sizeD d c = _ from by unfold sizeD; rw [if_neg g1, if_neg g2, if_neg g3, if_neg g4, if_neg h13, if_pos g5, if_pos (by omega)], jd_no]
        show RelD { s with err := 31 } (failD { d with st := 1, more := d.more + 1 } 31)
        exact relD_fail (d1 := { d with st := 1, more := d.more + 1 }) (s' := { s with err := 31 }) hr 31 (by decide) rfl rfl rfl rfl rfl rfl rfl
    · rw [show ofExtK s c = _ from by unfold ofExtK; rw [if_neg h13, if_neg (fun h => hv h.2)], show sizeD d c = _ from by unfold sizeD; rw [if_neg g1, if_neg g2, if_neg g3, if_neg g4, if_neg h13, if_neg (fun h => by rcases h with h | h; omega; exact hv h.2)], jd_no]
      exact relD_fail hr 31 (by decide) rfl rfl rfl rfl rfl rfl rfl
theorem rel_2 {s : KS} {d : DK} (h : RelD s d) (hi : InvK s) (he : s.err = 0) (e : s.st = 2) (c : UInt8) (hp : s.part = []) : RelD (byteK s c) (stepD d c) := by
  have hr := h
  obtain ⟨a1, a2, a3, _, a5⟩ := h
  obtain ⟨b0, b1⟩ := a5 he
  simp only [StD, e] at b1
  obtain ⟨d1, d3, d5, d6⟩ := b1
  have hl := hi.on he
  have hm := hi.most
  have hc : cntK s c = s := cnt_same (by omega)
  have hb : byteK s c = judged 2 (ofSizeEndK s c) := by
    rw [byte_judged (by omega) (by rw [hc]; omega), hc, e]
    congr 1
    unfold nextK
    simp only [e]
  have hd : stepD d c = sizeD d c := by unfold stepD; simp [d1]
  rw [hb, hd]
  by_cases h10 : c = 10
  · have hD : sizeD d c = if d.most - d.len < d.size then failD d 33 else { d with st := if d.size = 0 then 6 else 3 } := by unfold sizeD; rw [if_pos ⟨d1, h10⟩]
    have hK : ofSizeEndK s c = ({ s with count := 0 }, if s.left = 0 then 6 else 3) := by unfold ofSizeEndK; rw [if_pos h10]
    rw [hD, hK]
    by_cases h0 : s.left = 0
    · have hz : d.size = 0 := by omega
      rw [if_neg (c := d.most - d.len < d.size) (by omega)]
      simp only [if_pos h0, if_pos hz]
      rw [jd_ok _ _ (by decide) (by decide)]
      exact ⟨a1, a2, a3, fun h => absurd rfl h, fun _ => ⟨b0, by simp only [StD]; exact ⟨trivial, d5, d6, hp⟩⟩⟩
    · simp only [if_neg h0]
      by_cases hb2 : s.most - s.told < s.left
      · rw [if_pos (by omega), jd_3n { s with count := 0 } _ hb2]
        exact relD_fail hr 33 (by decide) rfl rfl rfl rfl rfl rfl rfl
      · rw [if_neg (by omega), jd_3y { s with count := 0 } _ hb2]
        exact ⟨a1, a2, a3, fun h => absurd rfl h, fun _ => ⟨b0, by simp only [StD]; exact ⟨by rw [if_neg (by omega)], by omega, d5, d6⟩⟩⟩
  · rw [show ofSizeEndK s c = _ from by unfold ofSizeEndK; rw [if_neg h10], show sizeD d c = _ from by unfold sizeD; rw [if_neg (fun h => h10 h.2), if_pos d1], jd_no]
    exact relD_fail hr 31 (by decide) rfl rfl rfl rfl rfl rfl rfl
theorem rel_3 {s : KS} {d : DK} (h : RelD s d) (he : s.err = 0) (e : s.st = 3) (c : UInt8) : RelD (byteK s c) (stepD d c) := by
  obtain ⟨a1, a2, a3, _, a5⟩ := h
  obtain ⟨b0, b1⟩ := a5 he
  simp only [StD, e] at b1
  obtain ⟨d1, d3, d5, d6⟩ := b1
  unfold byteK stepD ownK
  rw [if_pos e, if_pos d1]
  refine ⟨a1, by dsimp only; omega, a3, fun h => absurd he h, fun _ => ⟨b0, ?_⟩⟩
  by_cases h0 : s.left - 1 = 0
  · simp only [StD, if_pos h0, d3, d5, d6, and_self]
  · simp only [StD, if_neg h0, d3, d5, d6, e, and_self]
theorem rel_4 {s : KS} {d : DK} (h : RelD s d) (hi : InvK s) (he : s.err = 0) (e : s.st = 4) (c : UInt8) : RelD (byteK s c) (stepD d c) := by
  have hr := h
  obtain ⟨a1, a2, a3, _, a5⟩ := h
  obtain ⟨b0, b1⟩ := a5 he
  simp only [StD, e] at b1
  obtain ⟨d1, d5, d6⟩ := b1
  have hl := hi.on he
  have hc : cntK s c = s := cnt_same (by omega)
  have hb : byteK s c = judged 4 (s, onlyK 13 c 5) := by
    rw [byte_judged (by omega) (by rw [hc]; omega), hc, e]
    congr 1
    unfold nextK
    simp only [e]
  have hd : stepD d c = if c = 13 then { d with st := 5 } else failD d 31 := by unfold stepD; simp [d1]
  rw [hb, hd]
  unfold onlyK
  by_cases h13 : c = 13
  · rw [if_pos h13, if_pos h13, jd_ok _ _ (by decide) (by decide)]
    exact ⟨a1, a2, a3, fun h => absurd rfl h, fun _ => ⟨b0, by simp only [StD]; exact ⟨trivial, d5, d6⟩⟩⟩
  · rw [if_neg h13, if_neg h13, jd_no]
    exact relD_fail hr 31 (by decide) rfl rfl rfl rfl rfl rfl rfl
theorem rel_5 {s : KS} {d : DK} (h : RelD s d) (hi : InvK s) (he : s.err = 0) (e : s.st = 5) (c : UInt8) : RelD (byteK s c) (stepD d c) := by
  have hr := h
  obtain ⟨a1, a2, a3, _, a5⟩ := h
  obtain ⟨b0, b1⟩ := a5 he
  simp only [StD, e] at b1
  obtain ⟨d1, d5, d6⟩ := b1
  have hl := hi.on he
  have h4 := hi.s4 (.inr (.inr e))
  have h5 := hi.s5 (.inr e)
  have hc : cntK s c = s := cnt_same (by omega)
  have hb : byteK s c = judged 5 (s, onlyK 10 c 0) := by
    rw [byte_judged (by omega) (by rw [hc]; omega), hc, e]
    congr 1
    unfold nextK
    simp only [e]
  have hd : stepD d c = if c = 10 then { d with st := 0, digits := 0, size := 0, more := 0 } else failD d 31 := by unfold stepD; simp [d1]
  rw [hb, hd]
  unfold onlyK
  by_cases h10 : c = 10
  · rw [if_pos h10, if_pos h10, jd_ok _ _ (by decide) (by decide)]
    exact ⟨a1, a2, a3, fun h => absurd rfl h, fun _ => ⟨b0, by simp only [StD]; exact ⟨trivial, h4.symm, by rw [h5]; rfl, trivial, d5, d6⟩⟩⟩
  · rw [if_neg h10, if_neg h10, jd_no]
    exact relD_fail hr 31 (by decide) rfl rfl rfl rfl rfl rfl rfl
theorem trail_of {d : DK} {c : UInt8} (h : d.st = 6 ∨ d.st = 7) : stepD d c = trailD d c := by
  unfold stepD
  rw [if_neg (by omega), if_neg (by omega), if_neg (by omega), if_pos h]
theorem relD_failC {s : KS} {d : DK} (h : RelD s d) {e : Nat} (he : e ≠ 0) {s' : KS} (k : s'.most = s.most ∧ s'.told = s.told ∧ s'.tr = s.tr ∧ s'.err = e) : RelD s' (failD (cntD d) e) := relD_fail (d1 := cntD d) (s' := s') h e he rfl rfl rfl k.1 k.2.1 k.2.2.1 k.2.2.2
theorem nextD_6 {s : KS} {c : UInt8} (e : s.st = 6) (hc : c ≠ 13) : nextK (cntK s c) c = ofFirstK { s with lines := s.lines + 1 } c := by
  rw [cnt_more (.inr (.inr (.inr ⟨e, hc⟩)))]
  unfold nextK
  simp only [e]
theorem rel_6 {s : KS} {d : DK} (h : RelD s d) (hi : InvK s) (he : s.err = 0) (e : s.st = 6) (c : UInt8) : RelD (byteK s c) (stepD d c) := by
  have hr := h
  obtain ⟨a1, a2, a3, _, a5⟩ := h
  obtain ⟨b0, b1⟩ := a5 he
  simp only [StD, e] at b1
  obtain ⟨d1, d5, d6, d7⟩ := b1
  have hl := hi.on he
  rw [trail_of (.inl d1)]
  unfold trailD
  have hh : hasD d = false := has_none (by rw [d5]; simp)
  by_cases h13 : c = 13
  · have hc : cntK s c = s := by unfold cntK ofLinesK; simp [e, h13]
    have hb : byteK s c = judged 6 (ofFirstK s c) := by
      rw [byte_judged (by omega) (by rw [hc]; omega), hc, e]
      congr 1
      unfold nextK
      simp only [e]
    rw [hb, if_neg (fun h => h.2 ⟨d5, .inr h13⟩), if_neg (by omega), if_pos h13, if_neg (fun h => h.2 d5)]
    unfold ofFirstK
    rw [if_pos h13, jd_ok _ _ (by decide) (by decide)]
    exact ⟨a1, a2, a3, fun h => absurd rfl h, fun _ => ⟨b0, by simp only [StD]; exact ⟨trivial, d5⟩⟩⟩
  · by_cases hbig : 8192 < s.lines + 1
    · rw [byte_large (by omega) (by rw [cnt_more (.inr (.inr (.inr ⟨e, h13⟩)))]; exact hbig), cnt_more (.inr (.inr (.inr ⟨e, h13⟩))), if_pos ⟨by omega, fun h => by rcases h.2 with h | h; omega; exact h13 h⟩]
      exact relD_failC hr (e := 22) (by decide) ⟨rfl, rfl, rfl, rfl⟩
    · rw [byte_judged (by omega) (by rw [cnt_more (.inr (.inr (.inr ⟨e, h13⟩)))]; exact hbig), nextD_6 e h13, if_neg (fun h => by omega), if_neg (by omega), if_neg h13, e]
      unfold ofFirstK addK
      rw [if_neg h13]
      by_cases h64 : s.tr.length = 64
      · rw [if_pos h64, if_pos (show badD d c from (.inr (.inr (.inr ⟨d5, by rw [a3]; exact h64⟩)))), jd_no]
        exact relD_failC hr (e := 21) (by decide) ⟨rfl, rfl, rfl, rfl⟩
      · rw [if_neg h64]
        cases ht : tokU c with
        | false =>
          rw [if_neg (by simp), jd_no]
          have hbad : badD d c := by
            by_cases h58 : c = 58
            · exact .inl ⟨hh, h58, d5⟩
            · exact .inr (.inl ⟨hh, h58, ht⟩)
          rw [if_pos hbad]
          exact relD_failC hr (e := 21) (by decide) ⟨rfl, rfl, rfl, rfl⟩
        | true =>
          have h58 : c ≠ 58 := by rintro rfl; revert ht; decide
          have hok : ¬ badD d c := by
            rintro (h | h | h | h)
            · exact h58 h.2.1
            · rw [ht] at h; exact absurd h.2.2 (by decide)
            · rw [hh] at h; exact absurd h.1 (by decide)
            · rw [a3] at h; exact h64 h.2
          rw [if_pos rfl, if_neg hok, jd_ok _ _ (by decide) (by decide)]
          refine ⟨a1, a2, a3, fun h => absurd rfl h, fun _ => ⟨b0, ?_⟩⟩
          simp only [StD, cntD]
          refine ⟨d1, by rw [d5, d7], by simp, fun y hy => ?_, by omega⟩
          rw [d7] at hy
          simp at hy
          rw [hy]
          exact h58
theorem nextD_7 {s : KS} {c : UInt8} (e : s.st = 7) : cntK s c = { s with lines := s.lines + 1 } ∧ nextK (cntK s c) c = ofNameK { s with lines := s.lines + 1 } c := by
  have := cnt_more (s := s) (c := c) (.inl e)
  refine ⟨this, ?_⟩
  rw [this]
  unfold nextK
  simp only [e]
theorem rel_7 {s : KS} {d : DK} (h : RelD s d) (he : s.err = 0) (e : s.st = 7) (c : UInt8) : RelD (byteK s c) (stepD d c) := by
  have hr := h
  obtain ⟨a1, a2, a3, _, a5⟩ := h
  obtain ⟨b0, b1⟩ := a5 he
  simp only [StD, e] at b1
  obtain ⟨d1, d5, d7, d8, d6⟩ := b1
  rw [trail_of (.inl d1)]
  obtain ⟨n1, n2⟩ := nextD_7 (c := c) e
  have hh : hasD d = false := has_none (by rw [d5]; exact d8)
  have hne : d.line ≠ [] := by rw [d5]; exact d7
  unfold trailD
  by_cases hbig : 8192 < s.lines + 1
  · rw [byte_large (by omega) (by rw [n1]; exact hbig), n1, if_pos ⟨by omega, fun h => hne h.1⟩]
    exact relD_failC hr (e := 22) (by decide) ⟨rfl, rfl, rfl, rfl⟩
  · rw [byte_judged (by omega) (by rw [n1]; exact hbig), n2, if_neg (fun h => by omega), if_neg (by omega), e]
    unfold ofNameK addK
    by_cases h13 : c = 13
    · rw [if_pos h13, if_pos (show hasD d = false ∧ d.line ≠ [] from ⟨hh, hne⟩), if_neg (by rw [h13]; decide), if_neg (by rw [h13]; decide), jd_no]
      exact relD_failC hr (e := 21) (by decide) ⟨rfl, rfl, rfl, rfl⟩
    · rw [if_neg h13]
      by_cases h58 : c = 58
      · have hok : ¬ badD d c := by
          rintro (h | h | h | h)
          · exact hne h.2.2
          · exact h.2.1 h58
          · rw [hh] at h; exact absurd h.1 (by decide)
          · exact hne h.1
        rw [if_neg hok, if_pos h58, jd_ok _ _ (by decide) (by decide)]
        refine ⟨a1, a2, a3, fun h => absurd rfl h, fun _ => ⟨b0, ?_⟩⟩
        simp only [StD, cntD]
        exact ⟨d1, by rw [d5, h58], d8, by omega⟩
      · rw [if_neg h58]
        cases ht : tokU c with
        | false =>
          rw [if_neg (by simp), jd_no, if_pos (show badD d c from (.inr (.inl ⟨hh, h58, ht⟩)))]
          exact relD_failC hr (e := 21) (by decide) ⟨rfl, rfl, rfl, rfl⟩
        | true =>
          have hok : ¬ badD d c := by
            rintro (h | h | h | h)
            · exact h58 h.2.1
            · rw [ht] at h; exact absurd h.2.2 (by decide)
            · rw [hh] at h; exact absurd h.1 (by decide)
            · exact hne h.1
          rw [if_pos rfl, if_neg hok, jd_ok _ _ (by decide) (by decide)]
          refine ⟨a1, a2, a3, fun h => absurd rfl h, fun _ => ⟨b0, ?_⟩⟩
          simp only [StD, cntD]
          refine ⟨d1, by rw [d5], by simp, fun y hy => ?_, by omega⟩
          rcases List.mem_append.1 hy with h | h
          · exact d8 y h
          · simp at h; rw [h]; exact h58
theorem nextD_8 {s : KS} {c : UInt8} (e : s.st = 8) : cntK s c = { s with lines := s.lines + 1 } ∧ nextK (cntK s c) c = ofValueK { s with lines := s.lines + 1 } c := by
  have := cnt_more (s := s) (c := c) (.inr (.inl e))
  refine ⟨this, ?_⟩
  rw [this]
  unfold nextK
  simp only [e]
theorem rel_8 {s : KS} {d : DK} (h : RelD s d) (he : s.err = 0) (e : s.st = 8) (c : UInt8) : RelD (byteK s c) (stepD d c) := by
  have hr := h
  obtain ⟨a1, a2, a3, _, a5⟩ := h
  obtain ⟨b0, b1⟩ := a5 he
  simp only [StD, e] at b1
  obtain ⟨d1, d5, d8, d6⟩ := b1
  rw [trail_of (.inl d1)]
  obtain ⟨n1, n2⟩ := nextD_8 (c := c) e
  obtain ⟨hh, _, _⟩ := has_some d5 d8
  have hne : d.line ≠ [] := by rw [d5]; simp
  unfold trailD
  by_cases hbig : 8192 < s.lines + 1
  · rw [byte_large (by omega) (by rw [n1]; exact hbig), n1, if_pos ⟨by omega, fun h => hne h.1⟩]
    exact relD_failC hr (e := 22) (by decide) ⟨rfl, rfl, rfl, rfl⟩
  · rw [byte_judged (by omega) (by rw [n1]; exact hbig), n2, if_neg (fun h => by omega), if_neg (by omega), e]
    unfold ofValueK addK
    by_cases h13 : c = 13
    · rw [if_pos h13, if_pos h13, if_neg (fun h => by rw [hh] at h; exact absurd h.1 (by decide)), jd_ok _ _ (by decide) (by decide)]
      refine ⟨a1, a2, a3, fun h => absurd rfl h, fun _ => ⟨b0, ?_⟩⟩
      simp only [StD, cntD]
      exact ⟨trivial, d5, d8, by omega⟩
    · rw [if_neg h13, if_neg h13]
      cases hv : valU c with
      | false =>
        rw [if_neg (by simp), jd_no, if_pos (show badD d c from (.inr (.inr (.inl ⟨hh, hv⟩))))]
        exact relD_failC hr (e := 21) (by decide) ⟨rfl, rfl, rfl, rfl⟩
      | true =>
        have hok : ¬ badD d c := by
          rintro (h | h | h | h)
          · exact hne h.2.2
          · rw [hh] at h; exact absurd h.1 (by decide)
          · rw [hv] at h; exact absurd h.2 (by decide)
          · exact hne h.1
        rw [if_pos rfl, if_neg hok, jd_ok _ _ (by decide) (by decide)]
        refine ⟨a1, a2, a3, fun h => absurd rfl h, fun _ => ⟨b0, ?_⟩⟩
        simp only [StD, cntD]
        exact ⟨d1, by rw [d5]; simp, d8, by omega⟩
theorem nextD_9 {s : KS} {c : UInt8} (e : s.st = 9) : cntK s c = { s with lines := s.lines + 1 } ∧ nextK (cntK s c) c = ofLineEndK { s with lines := s.lines + 1 } c := by
  have := cnt_more (s := s) (c := c) (.inr (.inr (.inl e)))
  refine ⟨this, ?_⟩
  rw [this]
  unfold nextK
  simp only [e]
theorem rel_9 {s : KS} {d : DK} (h : RelD s d) (he : s.err = 0) (e : s.st = 9) (c : UInt8) : RelD (byteK s c) (stepD d c) := by
  have hr := h
  obtain ⟨a1, a2, a3, _, a5⟩ := h
  obtain ⟨b0, b1⟩ := a5 he
  simp only [StD, e] at b1
  obtain ⟨d1, d5, d8, d6⟩ := b1
  rw [trail_of (.inr d1)]
  obtain ⟨n1, n2⟩ := nextD_9 (c := c) e
  obtain ⟨hh, h1, h2⟩ := has_some d5 d8
  have hne : d.line ≠ [] := by rw [d5]; simp
  unfold trailD
  by_cases hbig : 8192 < s.lines + 1
  · rw [byte_large (by omega) (by rw [n1]; exact hbig), n1, if_pos ⟨by omega, fun h => hne h.1⟩]
    exact relD_failC hr (e := 22) (by decide) ⟨rfl, rfl, rfl, rfl⟩
  · rw [byte_judged (by omega) (by rw [n1]; exact hbig), n2, if_neg (fun h => by omega), if_pos d1, e]
    unfold ofLineEndK
    by_cases h10 : c = 10
    · rw [if_pos h10, if_pos h10, if_neg hne, jd_ok _ _ (by decide) (by decide)]
      refine ⟨a1, a2, by dsimp only; rw [a3, h1, h2], fun h => absurd rfl h, fun _ => ⟨b0, ?_⟩⟩
      simp only [StD, cntD]
      exact ⟨trivial, trivial, by omega, trivial⟩
    · rw [if_neg h10, if_neg h10, jd_no]
      exact relD_failC hr (e := 21) (by decide) ⟨rfl, rfl, rfl, rfl⟩
theorem rel_10 {s : KS} {d : DK} (h : RelD s d) (hi : InvK s) (he : s.err = 0) (e : s.st = 10) (c : UInt8) : RelD (byteK s c) (stepD d c) := by
  have hr := h
  obtain ⟨a1, a2, a3, _, a5⟩ := h
  obtain ⟨b0, b1⟩ := a5 he
  simp only [StD, e] at b1
  obtain ⟨d1, d5⟩ := b1
  have hl := hi.on he
  have hc : cntK s c = s := cnt_same (by omega)
  have hb : byteK s c = judged 10 (s, onlyK 10 c 11) := by
    rw [byte_judged (by omega) (by rw [hc]; omega), hc, e]
    congr 1
    unfold nextK
    simp only [e]
  rw [trail_of (.inr d1), hb]
  have g1 : ¬ (8192 < d.bytes + 1 ∧ ¬ lastD d c) := fun h => h.2 ⟨d5, .inl d1⟩
  by_cases h10 : c = 10
  · rw [show onlyK 10 c 11 = 11 from by unfold onlyK; rw [if_pos h10], show trailD d c = _ from by unfold trailD; rw [if_neg g1, if_pos d1, if_pos h10, if_pos d5], jd_ok _ _ (by decide) (by decide)]
    exact ⟨a1, a2, a3, fun h => absurd rfl h, fun _ => ⟨b0, by simp only [StD]⟩⟩
  · rw [show onlyK 10 c 11 = 12 from by unfold onlyK; rw [if_neg h10], show trailD d c = _ from by unfold trailD; rw [if_neg g1, if_pos d1, if_neg h10], jd_no]
    show RelD { s with err := 21 } (failD (cntD d) 21)
    exact relD_fail (d1 := cntD d) (s' := { s with err := 21 }) hr 21 (by decide) rfl rfl rfl rfl rfl rfl rfl
/-- Ahead of the trailers there is no part of a line. -/
theorem part_nil : ∀ (l : B) (s : KS), (s.st < 6 → s.part = []) → ((feedK s l).st < 6 → (feedK s l).part = []) := by
  intro l
  induction l with
  | nil => exact fun s h => h
  | cons c l ih =>
    intro s h
    cases hn : endedK s with
    | true => rw [(fk_ended hn _).1]; exact h
    | false =>
      rw [(fk_cons hn c l).1]
      refine ih _ ?_
      unfold byteK
      split
      · rename_i h3
        intro _
        exact h (by omega)
      · unfold stepK
        split
        · rename_i hbig
          intro hst
          have e := cnt_st s c
          dsimp only at hst
          rw [e.1] at hst
          dsimp only
          rw [e.2.2.1]
          exact h hst
        · have e := cnt_st s c
          unfold judgeK nextK
          by_cases h6 : s.st < 6
          · have hp := h h6
            unfold ofSizeK ofExtK ofSizeEndK ofFirstK ofNameK ofValueK ofLineEndK addK
            rw [e.1]
            have : s.st = 0 ∨ s.st = 1 ∨ s.st = 2 ∨ s.st = 3 ∨ s.st = 4 ∨ s.st = 5 := by omega
            rcases this with e0 | e0 | e0 | e0 | e0 | e0 <;> simp only [e0] <;> (repeat' split) <;> (intro _; dsimp only; rw [e.2.2.1]; exact hp)
          · unfold ofSizeK ofExtK ofSizeEndK ofFirstK ofNameK ofValueK ofLineEndK addK onlyK
            rw [e.1]
            (repeat' split) <;> (intro hst; dsimp only at hst; first | (rw [e.1] at hst; omega) | omega | (rename_i h9; simp at h9; omega) | simp_all)
theorem rel_byte {s : KS} {d : DK} (h : RelD s d) (hi : InvK s) (hn : endedK s = false) (hp : s.st < 6 → s.part = []) (c : UInt8) : RelD (byteK s c) (stepD d c) := by
  obtain ⟨he, h11⟩ := ended_parts hn
  have hst := hi.st
  have : s.st = 0 ∨ s.st = 1 ∨ s.st = 2 ∨ s.st = 3 ∨ s.st = 4 ∨ s.st = 5 ∨ s.st = 6 ∨ s.st = 7 ∨ s.st = 8 ∨ s.st = 9 ∨ s.st = 10 := by omega
  rcases this with e | e | e | e | e | e | e | e | e | e | e
  · exact rel_0 h hi he e c
  · exact rel_1 h hi he e c
  · exact rel_2 h hi he e c (hp (by omega))
  · exact rel_3 h he e c
  · exact rel_4 h hi he e c
  · exact rel_5 h hi he e c
  · exact rel_6 h hi he e c
  · exact rel_7 h he e c
  · exact rel_8 h he e c
  · exact rel_9 h he e c
  · exact rel_10 h hi he e c
end Go.Proofs.YtnlmjlfoeodleaaGreatDoor
/- The document's reader of chunked bodies: its small functions. -/
namespace Go.Proofs.YtnlmjlfoeodleaaGreatDoor
open Go.RowKit

def dkC (d : DK) (lv tv : Value) : Array Value := #[.int .i64 (d.most : Int), .int .i64 (d.len : Int), .int .i64 (d.st : Int), .int .i64 (d.e : Int), .int .i64 (d.digits : Int), .int .i64 (d.size : Int), .int .i64 (d.more : Int), lv, .int .i64 (d.bytes : Int), tv]
structure Gh (w : World) (F : Nat → Prop) (l : B) (t : List (B × B)) (lp tp : Option Addr) : Prop where
  lo : ArgOut F lp l
  to : ∀ a, tp = some a → t ≠ [] → ¬ F a.block
  gl : ∀ k, F k → k < w.heap.size
theorem Gh.next {w w' : World} {F : Nat → Prop} {l : B} {t : List (B × B)} {lp tp : Option Addr} (h : Gh w F l t lp tp) (hs : w.heap.size ≤ w'.heap.size) : Gh w' F l t lp tp := ⟨h.lo, h.to, fun k hk => Nat.lt_of_lt_of_le (h.gl k hk) hs⟩
def NewR (w : World) (q : Option Addr) (d : Nat) : Prop := (q = none → d = 0) ∧ ∀ a, q = some a → w.heap.size ≤ a.block
/-- The rows of the document's reader lie in memory. -/
structure DkAt (w : World) (d : DK) (lp : Option Addr) (lc : Nat) (tp : Option Addr) (tc : Nat) : Prop where
  line : ArgAt w lp d.line
  lcap : d.line.length ≤ lc
  lnil : lp = none → lc = 0
  tr : FAt w tp d.tr
  tnil : tp = none → tc = 0
  g : Gh w d.gh d.line d.tr lp tp
theorem DkAt.next {w w' : World} {d : DK} {lp tp : Option Addr} {lc tc : Nat} (h : DkAt w d lp lc tp tc) (hb : Below w.heap.size w w') : DkAt w' d lp lc tp tc := ⟨h.line.next hb, h.lcap, h.lnil, h.tr.next hb, h.tnil, h.g.next hb.size⟩
theorem dk_size : (Tryz.prog.info? 35).map (·.size) = some 10 := by kernel_rfl
theorem results_dk {fn : Func} {p : Tmp} (h : fn.results = #[.cell p 35]) (tmps : Array Value) (w : World) (g : Nat) (t : TypeId) (cs : Array Value) (fr : Nat × Nat)
    (hp : tmps.getD p undef = .pointer (some ⟨g, 0, none⟩)) (hg : w.heap[g]? = some (.cells cs t fr)) (hs : cs.size = 10) : (results fn tmps).run Tryz.prog w = .ok (.agg cs) w :=
  results_cell_row h tmps w g t cs fr _ hp hg Tryz.underlying35 rfl (by rw [dk_size, hs])
theorem two_new (w : World) (o1 o2 : Obj) : ((w.alloc o1).alloc o2).heap[w.heap.size + 1]? = some o2 := by
  have := heap_alloc_new (w.alloc o1) o2
  rwa [show (w.alloc o1).heap.size = w.heap.size + 1 by simp] at this
theorem below_twoD (w : World) (o1 o2 : Obj) : Below w.heap.size w ((w.alloc o1).alloc o2) := (below_new w o1).trans ((below_new _ o2).mono (by simp))
set_option maxRecDepth 20000 in
set_option maxHeartbeats 8000000 in
theorem fail_any (d : DK) (lp tp : Option Addr) (ln lc tn tc : Nat) (k : Nat) (w : World) : Calls Tryz.prog 112 #[.agg (dkC d (.slice lp ln lc) (.slice tp tn tc)), .int .i64 (k : Int)] w fun e w' => e = .returned (.agg (dkC (failD d k) (.slice lp ln lc) (.slice tp tn tc))) ∧ Below w.heap.size w w' := by
  unfold dkC failD
  dsimp only
  go_enter Tryz.func112, Tryz.ntmps112
  go_wp2
  refine bodyPost_ret (results_dk rfl _ _ _ 35 _ (0, 0) rfl (two_new _ _ _) rfl) rfl ?_
  exact ⟨rfl, below_twoD _ _ _⟩
set_option maxRecDepth 20000 in
set_option maxHeartbeats 8000000 in
theorem hexd_any (c : UInt8) (w : World) : Calls Tryz.prog 135 #[byteV c] w fun e w' => e = .returned (.int .i64 (if hexU c = true then (hexN c : Int) else -1)) ∧ w' = w := by
  have hl := c.toNat_lt
  have hv := hexN_cast c
  unfold byteV
  have HV := hid (show (if hexU c = true then (hexN c : Int) else -1) = (if 48 ≤ (c.toNat : Int) ∧ (c.toNat : Int) ≤ 57 then (c.toNat : Int) - 48 else if 97 ≤ (c.toNat : Int) ∧ (c.toNat : Int) ≤ 102 then (c.toNat : Int) - 87 else if 65 ≤ (c.toNat : Int) ∧ (c.toNat : Int) ≤ 70 then (c.toNat : Int) - 55 else -1) from by
    unfold hexU hexB
    rw [← hv]
    unfold hexV
    simp only [decide_eq_true_eq]
    (repeat' split) <;> omega)
  rw [HV.out]
  clear hv
  obtain ⟨x, hx⟩ : ∃ x : Int, (c.toNat : Int) = x := ⟨_, rfl⟩
  have h0 : 0 ≤ x := by omega
  have h1 : x ≤ 255 := by omega
  rw [hx]
  clear hx hl HV
  go_enter Tryz.func135, Tryz.ntmps135
  go_wp2
  all_goals
    go_ret
    exact ⟨ret_int (by (repeat' split) <;> omega), rfl⟩
set_option maxRecDepth 20000 in
set_option maxHeartbeats 8000000 in
theorem word_any (c : UInt8) (w : World) : Calls Tryz.prog 134 #[byteV c] w fun e w' => e = .returned (.bool (valU c)) ∧ w' = w := by
  have hl := c.toNat_lt
  unfold byteV
  obtain ⟨V, hV⟩ : ∃ V, valU c = V := ⟨_, rfl⟩
  have HV := hid hV
  rw [hV]
  clear hV
  unfold valU valB at HV
  obtain ⟨x, hx⟩ : ∃ x : Int, (c.toNat : Int) = x := ⟨_, rfl⟩
  have h0 : 0 ≤ x := by omega
  have h1 : x ≤ 255 := by omega
  rw [hx] at HV ⊢
  clear hx hl
  by_cases h9 : x = 9
  · subst h9
    go_enter Tryz.func134, Tryz.ntmps134
    go_wp2
    go_ret
    exact ⟨ret_bool (by rw [← HV.out]; decide), rfl⟩
  · have f9 : (x == 9) = false := by rw [beq_eq_false_iff_ne]; exact h9
    go_enter Tryz.func134, Tryz.ntmps134
    go_wp2
    all_goals
      go_ret
      exact ⟨ret_bool (by rw [← HV.out, Bool.eq_iff_iff]; simp [h9]; omega), rfl⟩
set_option maxRecDepth 20000 in
set_option maxHeartbeats 8000000 in
theorem colon_any (l : B) (p : Option Addr) (n c : Nat) (hn : l.length = n) (hl : n ≤ 1048576) (w : World) (ha : ArgAt w p l) : Calls Tryz.prog 132 #[.slice p n c] w fun e w' => e = .returned (.int .i64 (if (cutF 58 l).2.2 = true then ((cutF 58 l).1.length : Int) else -1)) ∧ w' = w := by
  obtain ⟨R, hR⟩ : ∃ R : Int, (if (cutF 58 l).2.2 = true then ((cutF 58 l).1.length : Int) else -1) = R := ⟨_, rfl⟩
  have HR := hid hR
  have HN := hid hn
  have HA := hid ha
  rw [hR]
  clear hR hn ha
  go_enter Tryz.func132, Tryz.ntmps132
  go_wp2
  go_loopg [3] (n + 1) (fun gk s3 wr => ∃ i : Nat, s3 = .int .i64 (i : Int) ∧ i ≤ n ∧ gk = n - i + 1 ∧ (∀ y ∈ l.take i, y ≠ 58) ∧ wr = w)
  case atStart => exact ⟨0, rfl, by omega, rfl, fun y hy => by simp at hy, rfl⟩
  case round =>
    obtain ⟨i, rfl, hin, rfl, hno, rfl⟩ := hrel
    have HNo := hid hno
    clear hno
    by_cases hlt : i < n
    · obtain ⟨y, hy⟩ : ∃ y, l[i]? = some y := ⟨l[i]'(by rw [HN.out]; exact hlt), List.getElem?_eq_getElem (by rw [HN.out]; exact hlt)⟩
      obtain ⟨ag, ao, hap, hac⟩ := HA.out i y hy
      subst hap
      have hltI : (i : Int) < (n : Int) := by omega
      have HY := hid hy
      by_cases h58 : y = 58
      · have HV := hid (show R = (i : Int) from by
          rw [← HR.out]
          have e : l = l.take i ++ 58 :: l.drop (i + 1) := by
            have h9 := List.take_append_drop (i + 1) l
            rw [take_snocB HY.out, h58, List.append_assoc] at h9
            exact h9.symm
          rw [e, cutF_at _ _ HNo.out, if_pos rfl, List.length_take, HN.out]
          omega)
        rw [h58, show ((58 : UInt8).toNat : Int) = 58 from rfl] at hac
        clear hy h58
        go_wp2
        go_ret
        exact ⟨by rw [HV.out]; rfl, rfl⟩
      · have f1 : ((y.toNat : Int) == 58) = false := c_ne (toNat_ne h58)
        have HNx := hid (show ∀ z ∈ l.take (i + 1), z ≠ 58 from fun z hz => by
          rw [take_snocB HY.out] at hz
          rcases List.mem_append.1 hz with h | h
          · exact HNo.out z h
          · rw [show z = y by simpa using h]; exact h58)
        clear hy h58
        go_wp2
        go_roundg (n - (i + 1) + 1)
        case measure => omega
        case rel => exact ⟨i + 1, by go_num, by omega, rfl, HNx.out, rfl⟩
    · obtain rfl : i = n := by omega
      have hltI : ¬ (i : Int) < (i : Int) := by omega
      have HV := hid (show R = -1 from by
        rw [← HR.out]
        have h9 := HNo.out
        rw [List.take_of_length_le (by rw [HN.out]; exact Nat.le_refl _)] at h9
        rw [cutF_no _ h9]
        rfl)
      clear hlt
      go_wp2
      go_ret
      exact ⟨by rw [HV.out]; rfl, rfl⟩
end Go.Proofs.YtnlmjlfoeodleaaGreatDoor
