/- The reader of chunked bodies: what it always is. -/
import Derived.Test.YtllbdpiihiohoaaDoorKSpec
namespace Go.Proofs.YtllbdpiihiohoaaDoor

def judged (st : Nat) (x : KS × Nat) : KS := { (judgeK st x).1 with err := (judgeK st x).2 }
theorem judged_no {s : KS} (h : InvK s) (st : Nat) : InvK (judged st (s, 12)) := by
  obtain ⟨a1, a2, a3, a4, a5, a6, a7, a8, a9, a10, a11, a12, a13, a14⟩ := h
  unfold judged judgeK
  simp only [if_true]
  exact ⟨a1, a2, a3, a4, a5, a6, a7, a8, a9, a10, a11, a12, fun h => absurd h (by dsimp only; split <;> simp), a14⟩
theorem judged_ok {s : KS} (st : Nat) {n : Nat} (hn : n ≠ 12) (h3 : n ≠ 3) (h : InvK { s with st := n, err := 0 }) : InvK (judged st (s, n)) := by
  unfold judged judgeK
  simp only [if_neg hn, h3, false_and, if_false]
  exact h
theorem judged_3 {s : KS} (st : Nat) (h : InvK s) (hok : s.left ≤ s.most - s.told → InvK { s with st := 3, err := 0 }) : InvK (judged st (s, 3)) := by
  unfold judged judgeK
  simp only [show ¬ (3 = 12) by decide, if_false, true_and]
  split
  · obtain ⟨a1, a2, a3, a4, a5, a6, a7, a8, a9, a10, a11, a12, a13, a14⟩ := h
    exact ⟨a1, a2, a3, a4, a5, a6, a7, a8, a9, a10, a11, a12, fun h => absurd h (by simp), a14⟩
  · exact hok (by omega)
theorem InvK.add {s : KS} (h : InvK s) (he : s.err = 0) (c : UInt8) (may : Bool) (n st : Nat) (hl : s.part.length + 1 ≤ s.lines) (hn : n = 7 ∨ n = 8) (ht : s.tr.length < 64) : InvK (judged st (addK s c may n)) := by
  unfold addK
  split
  · refine judged_ok st (by omega) (by omega) ?_
    obtain ⟨a1, a2, a3, a4, a5, a6, a7, a8, a9, a10, a11, a12, a13, a14⟩ := h
    have := a13 he
    exact ⟨a1, a2, by dsimp only; omega, a4, by dsimp only; omega, a6, by dsimp only; omega, by dsimp only; omega, by dsimp only; omega, a10, fun _ => ht, a12, fun _ => this, by simp; omega⟩
  · exact judged_no h st
theorem next_inv {s : KS} (h : InvK s) (he : s.err = 0) (c : UInt8) (hl : ofLinesK s c = true → s.part.length + 1 ≤ s.lines) : InvK (judged s.st (nextK s c)) := by
  have hI := h
  obtain ⟨a1, a2, a3, a4, a5, a6, a7, a8, a9, a10, a11, a12, a13, a14⟩ := h
  have h8 := a13 he
  have hst : s.st = 0 ∨ s.st = 1 ∨ s.st = 2 ∨ s.st = 3 ∨ s.st = 4 ∨ s.st = 5 ∨ s.st = 6 ∨ s.st = 7 ∨ s.st = 8 ∨ s.st = 9 ∨ s.st = 10 ∨ s.st = 11 := by omega
  unfold nextK
  rcases hst with e | e | e | e | e | e | e | e | e | e | e | e <;> simp only [e]
  · unfold ofSizeK
    split
    · rename_i hh
      obtain ⟨b1, b2⟩ := a5 e
      refine judged_ok 0 (by decide) (by decide) ?_
      have hx := hexN_lt c
      have hp : 16 ^ (s.count + 1) = 16 ^ s.count * 16 := Nat.pow_succ ..
      have hq := pow16 (n := s.count + 1) (by omega)
      exact ⟨a1, a2, by dsimp only; omega, by dsimp only; omega, by dsimp only; rw [hp]; omega, by dsimp only; omega, by dsimp only; omega, by dsimp only; omega, by dsimp only; omega, a10, by dsimp only; omega, a12, fun _ => h8, a14⟩
    · split
      · exact judged_no hI _
      · split
        · exact judged_ok 0 (by decide) (by decide) ⟨a1, a2, by dsimp only; omega, a4, by dsimp only; omega, a6, by dsimp only; omega, by dsimp only; omega, by dsimp only; omega, a10, by dsimp only; omega, a12, fun _ => h8, a14⟩
        · split
          · exact judged_ok 0 (by decide) (by decide) ⟨a1, a2, by dsimp only; omega, a4, by dsimp only; omega, by dsimp only; omega, by dsimp only; omega, by dsimp only; omega, by dsimp only; omega, a10, by dsimp only; omega, a12, fun _ => h8, a14⟩
          · exact judged_no hI _
  · unfold ofExtK
    split
    · exact judged_ok _ (by decide) (by decide) ⟨a1, a2, by dsimp only; omega, a4, by dsimp only; omega, a6, by dsimp only; omega, by dsimp only; omega, by dsimp only; omega, a10, by dsimp only; omega, a12, fun _ => h8, a14⟩
    · split
      · exact judged_ok _ (by decide) (by decide) ⟨a1, a2, by dsimp only; omega, a4, by dsimp only; omega, by dsimp only; omega, by dsimp only; omega, by dsimp only; omega, by dsimp only; omega, a10, by dsimp only; omega, a12, fun _ => h8, a14⟩
      · exact judged_no hI _
  · unfold ofSizeEndK
    split
    · by_cases h0 : s.left = 0
      · simp only [if_pos h0]
        exact judged_ok _ (by decide) (by decide) ⟨a1, a2, by dsimp only; omega, a4, by dsimp only; omega, by dsimp only; omega, by dsimp only; omega, by dsimp only; omega, by dsimp only; omega, a10, by dsimp only; omega, a12, fun _ => h8, a14⟩
      · simp only [if_neg h0]
        exact judged_3 _ ⟨a1, a2, a3, a4, by dsimp only; omega, by dsimp only; omega, by dsimp only; omega, by dsimp only; omega, by dsimp only; omega, a10, by dsimp only; omega, a12, fun _ => h8, a14⟩ (fun hle => ⟨a1, a2, by dsimp only; omega, a4, by dsimp only; omega, by dsimp only; omega, by dsimp only at *; omega, by dsimp only; omega, by dsimp only; omega, a10, by dsimp only; omega, a12, fun _ => h8, a14⟩)
    · exact judged_no hI _
  · exact judged_no hI _
  · unfold onlyK
    split
    · exact judged_ok _ (by decide) (by decide) ⟨a1, a2, by dsimp only; omega, a4, by dsimp only; omega, a6, by dsimp only; omega, by dsimp only; omega, by dsimp only; omega, a10, by dsimp only; omega, a12, fun _ => h8, a14⟩
    · exact judged_no hI _
  · have := a8 (.inr (.inr e))
    have h0 := a9 (.inr e)
    unfold onlyK
    split
    · exact judged_ok _ (by decide) (by decide) ⟨a1, a2, by dsimp only; omega, a4, fun _ => ⟨by dsimp only; omega, by dsimp only; rw [h0, this]; decide⟩, a6, by dsimp only; omega, by dsimp only; omega, by dsimp only; omega, a10, by dsimp only; omega, a12, fun _ => h8, a14⟩
    · exact judged_no hI _
  · unfold ofFirstK
    split
    · exact judged_ok _ (by decide) (by decide) ⟨a1, a2, by dsimp only; omega, a4, by dsimp only; omega, a6, by dsimp only; omega, by dsimp only; omega, by dsimp only; omega, a10, by dsimp only; omega, a12, fun _ => h8, a14⟩
    · rename_i hc
      split
      · exact judged_no hI _
      · exact hI.add he c _ 7 _ (hl (by unfold ofLinesK; rw [if_pos e]; simp [hc])) (.inl rfl) (by omega)
  · have ht := a11 (.inl e)
    unfold ofNameK
    split
    · exact judged_ok _ (by decide) (by decide) ⟨a1, a2, by dsimp only; omega, a4, by dsimp only; omega, a6, by dsimp only; omega, by dsimp only; omega, by dsimp only; omega, a10, fun _ => ht, a12, fun _ => h8, by simp⟩
    · exact hI.add he c _ 7 _ (hl (by unfold ofLinesK; simp [e])) (.inl rfl) ht
  · have ht := a11 (.inr (.inl e))
    unfold ofValueK
    split
    · exact judged_ok _ (by decide) (by decide) ⟨a1, a2, by dsimp only; omega, a4, by dsimp only; omega, a6, by dsimp only; omega, by dsimp only; omega, by dsimp only; omega, a10, fun _ => ht, a12, fun _ => h8, a14⟩
    · exact hI.add he c _ 8 _ (hl (by unfold ofLinesK; simp [e])) (.inr rfl) ht
  · have ht := a11 (.inr (.inr e))
    unfold ofLineEndK
    split
    · exact judged_ok _ (by decide) (by decide) ⟨a1, a2, by dsimp only; omega, a4, by dsimp only; omega, a6, by dsimp only; omega, by dsimp only; omega, by dsimp only; omega, by simp; omega, by dsimp only; omega, a12, fun _ => h8, by simp⟩
    · exact judged_no hI _
  · unfold onlyK
    split
    · exact judged_ok _ (by decide) (by decide) ⟨a1, a2, by dsimp only; omega, a4, by dsimp only; omega, a6, by dsimp only; omega, by dsimp only; omega, by dsimp only; omega, a10, by dsimp only; omega, a12, fun _ => h8, a14⟩
    · exact judged_no hI _
  · exact judged_no hI _
theorem cnt_st (s : KS) (c : UInt8) : (cntK s c).st = s.st ∧ (cntK s c).err = s.err ∧ (cntK s c).part = s.part ∧ (cntK s c).tr = s.tr ∧ (cntK s c).most = s.most ∧ (cntK s c).told = s.told := by unfold cntK; split <;> exact ⟨rfl, rfl, rfl, rfl, rfl, rfl⟩
theorem InvK.byte {s : KS} (h : InvK s) (hn : endedK s = false) (c : UInt8) : InvK (byteK s c) := by
  have he : s.err = 0 := by
    unfold endedK at hn
    simp at hn
    exact hn.1
  unfold byteK
  split
  · rename_i h3
    exact h.own h3 (h.s3 h3).1
  · unfold stepK
    obtain ⟨c1, c2⟩ := h.cnt he c
    split
    · exact c1
    · rename_i hle
      obtain ⟨e1, e2, e3, _⟩ := cnt_st s c
      have := next_inv (c2 hle) (by rw [e2]; exact he) c (fun hh => by
        rw [e3]
        have hcn : ofLinesK s c = true := by unfold ofLinesK at hh ⊢; rw [e1] at hh; exact hh
        have hp := h.part
        unfold cntK
        rw [if_pos hcn]
        dsimp only
        omega)
      rw [e1] at this
      exact this
theorem feed_inv : ∀ (l : B) {s : KS}, InvK s → InvK (feedK s l)
  | [], s, h => h
  | c :: l, s, h => by
    cases hn : endedK s with
    | true => rw [(fk_ended hn _).1]; exact h
    | false => rw [(fk_cons hn c l).1]; exact feed_inv l (h.byte hn c)
theorem own_part_le {s : KS} (h : InvK s) : s.part.length ≤ 8193 := Nat.le_trans h.part h.high
end Go.Proofs.YtllbdpiihiohoaaDoor
