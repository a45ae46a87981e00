/- The document's four digits as a plain function. -/
import Derived.Test.YtkoeihliaandeaaGreatDoorRefV
namespace Go.Proofs.YtkoeihliaandeaaGreatDoor

/-- So many hexadecimal digits behind others that make n, each so that the number can lie from lo to hi. -/
def fourR (lo hi : Nat) : Nat → Nat → B → Res Nat
  | 0, n, l => .ok n l
  | _ + 1, _, [] => .err 3 []
  | k + 1, n, c :: t => match hexv c with
    | none => .err 3 (c :: t)
    | some v => if (n * 16 + v) * 16 ^ k + 16 ^ k - 1 < lo ∨ hi < (n * 16 + v) * 16 ^ k then .err 3 (c :: t) else fourR lo hi k (n * 16 + v) t
theorem hexv_lt {c : UInt8} {v : Nat} (h : hexv c = some v) : v < 16 := by
  unfold hexv at h
  (repeat' split at h) <;> first | (injection h with h; omega) | cases h
theorem four_step {k a v : Nat} {c : UInt8} {t : B} (h : hexv c = some v) : four (k + 1) a (c :: t) = four k (a * 16 + v) t := by
  simp only [four, h]
theorem four_bad {k a : Nat} {c : UInt8} {t : B} (h : hexv c = none) : four (k + 1) a (c :: t) = .err 3 (c :: t) := by
  simp only [four, h]
theorem fourR_bad {lo hi k a : Nat} {c : UInt8} {t : B} (h : hexv c = none) : fourR lo hi (k + 1) a (c :: t) = .err 3 (c :: t) := by
  simp only [fourR, h]
theorem fourR_step {lo hi k a v : Nat} {c : UInt8} {t : B} (h : hexv c = some v) : fourR lo hi (k + 1) a (c :: t) = if (a * 16 + v) * 16 ^ k + 16 ^ k - 1 < lo ∨ hi < (a * 16 + v) * 16 ^ k then .err 3 (c :: t) else fourR lo hi k (a * 16 + v) t := by
  simp only [fourR, h]
/-- Where no bound is met. -/
theorem fourR_free {lo hi : Nat} : ∀ (k a : Nat) (l : B), (∀ j b, j < k → a * 16 ^ (k - j) ≤ b → b < (a + 1) * 16 ^ (k - j) → ¬ (b * 16 ^ j + 16 ^ j - 1 < lo ∨ hi < b * 16 ^ j)) → fourR lo hi k a l = four k a l
  | 0, _, _, _ => rfl
  | k + 1, a, [], _ => rfl
  | k + 1, a, c :: t, h => by
    cases hv : hexv c with
    | none => rw [fourR_bad hv, four_bad hv]
    | some v =>
      have hlt := hexv_lt hv
      have h0 := h k (a * 16 + v) (by omega) (by rw [show k + 1 - k = 1 by omega]; omega) (by rw [show k + 1 - k = 1 by omega]; omega)
      rw [fourR_step hv, if_neg h0, four_step hv]
      refine fourR_free k (a * 16 + v) t (fun j b hj h1 h2 => h j b (by omega) ?_ ?_)
      · rw [show k + 1 - j = (k - j) + 1 by omega, Nat.pow_succ]
        refine Nat.le_trans ?_ h1
        rw [Nat.mul_comm (16 ^ (k - j)) 16, ← Nat.mul_assoc]
        exact Nat.mul_le_mul_right _ (by omega)
      · rw [show k + 1 - j = (k - j) + 1 by omega, Nat.pow_succ]
        refine Nat.lt_of_lt_of_le h2 ?_
        rw [Nat.mul_comm (16 ^ (k - j)) 16, ← Nat.mul_assoc]
        exact Nat.mul_le_mul_right _ (by omega)
theorem fourR_wide (l : B) : fourR 0 65535 4 0 l = four 4 0 l := by
  refine fourR_free 4 0 l (fun j b hj h1 h2 => ?_)
  obtain rfl | rfl | rfl | rfl : j = 0 ∨ j = 1 ∨ j = 2 ∨ j = 3 := by omega
  all_goals
    simp at h1 h2 ⊢
    omega
theorem hex_d (c : UInt8) : [100, 68].contains c = (hexv c == some 13) := by
  revert c; refine byte_all ?_; decide +kernel
theorem hex_cf (c : UInt8) : [99, 100, 101, 102, 67, 68, 69, 70].contains c = (hexv c).any (fun v => decide (12 ≤ v)) := by
  revert c; refine byte_all ?_; decide +kernel
/-- The other half of a pair, as the document has it. -/
def lowR (l : B) : Res Nat := match word [92, 117] l with
  | .err k u => .err k u
  | .ok _ u => fourR 56320 57343 4 0 u
theorem four2_free (v : Nat) (h1 : 12 ≤ v) (h2 : v < 16) (l : B) : fourR 56320 57343 2 (13 * 16 + v) l = four 2 (13 * 16 + v) l := by
  refine fourR_free 2 _ l (fun j b hj q1 q2 => ?_)
  obtain rfl | rfl : j = 0 ∨ j = 1 := by omega
  all_goals
    simp at q1 q2 ⊢
    omega
theorem word_bu (l : B) : (∃ u, l = 92 :: 117 :: u ∧ word [92, 117] l = .ok () u) ∨ (∃ u, word [92, 117] l = .err 3 u ∧ seqSkip lowL l = .err 3 u) := by
  rcases l with _ | ⟨a, _ | ⟨c, u⟩⟩
  · exact .inr ⟨[], rfl, rfl⟩
  · by_cases h : a = 92
    · subst h
      exact .inr ⟨[], rfl, rfl⟩
    · refine .inr ⟨[a], ?_, ?_⟩
      · simp [word, h]
      · simp [seqSkip, lowL, skip, h]
  · by_cases h : a = 92
    · subst h
      by_cases h2 : c = 117
      · subst h2
        exact .inl ⟨u, rfl, rfl⟩
      · refine .inr ⟨c :: u, ?_, ?_⟩
        · simp [word, h2]
        · simp [seqSkip, lowL, skip, h2]
    · refine .inr ⟨a :: c :: u, ?_, ?_⟩
      · simp [word, h]
      · simp [seqSkip, lowL, skip, h]
theorem low_same (l : B) : lowR l = lowHalf l := by
  unfold lowR lowHalf
  rcases word_bu l with ⟨u, rfl, hw⟩ | ⟨u, hw, hs⟩
  · rw [hw]
    have e : seqSkip lowL (92 :: 117 :: u) = seqSkip [[100, 68], [99, 100, 101, 102, 67, 68, 69, 70]] u := rfl
    rw [e]
    simp only [List.drop_succ_cons, List.drop_zero]
    rcases u with _ | ⟨c, t⟩
    · rfl
    · have hd := hex_d c
      simp only [seqSkip]
      cases hv : hexv c with
      | none =>
        rw [hv] at hd
        rw [fourR_bad hv, skip_no (by rw [hd]; decide)]
      | some v =>
        have hlt := hexv_lt hv
        rw [hv] at hd
        rw [fourR_step hv]
        by_cases h13 : v = 13
        · subst h13
          rw [if_neg (by decide), skip_yes (by rw [hd]; rfl)]
          simp only
          rcases t with _ | ⟨c2, t2⟩
          · rfl
          · have hd2 := hex_cf c2
            cases hv2 : hexv c2 with
            | none =>
              rw [hv2] at hd2
              rw [fourR_bad hv2, skip_no (by rw [hd2]; decide)]
            | some v2 =>
              have hlt2 := hexv_lt hv2
              rw [hv2] at hd2
              rw [fourR_step hv2]
              by_cases h12 : 12 ≤ v2
              · rw [if_neg (by simp; omega), skip_yes (by rw [hd2]; simp [h12])]
                simp only
                rw [four_step hv, four_step hv2]
                exact four2_free v2 h12 hlt2 t2
              · rw [if_pos (by simp; omega), skip_no (by rw [hd2]; simp; omega)]
        · rw [if_pos (by simp; omega), skip_no (by rw [hd]; simp [h13])]
  · rw [hw, hs]
end Go.Proofs.YtkoeihliaandeaaGreatDoor
