/- UTF-8: the library's decoder against the first byte that can't go on. -/
import Derived.Test.YtkoeihliaandeaaGreatDoorSpec
import Derived.Lib.ValidU
import Derived.Lib.DecodeNEq
import Derived.Lib.MapLaws
namespace Go.Proofs.YtkoeihliaandeaaGreatDoor

/-- Is it a whole character, or one that can't be any more? -/
def full (l : B) : Bool := match l with
  | [] => false
  | c :: t => decide (Lib.firstT c.toNat % 8 ≤ t.length + 1) || (decide (0 < t.length) && (decide ((nx t).toNat < Lib.accLo (Lib.firstT c.toNat / 16)) || decide (Lib.accHi (Lib.firstT c.toNat / 16) < (nx t).toNat)))
    || (decide (1 < t.length) && (decide ((nx (t.drop 1)).toNat < 128) || decide (191 < (nx (t.drop 1)).toNat)))
theorem lead_cases (c : Nat) (h : 128 ≤ c) (h2 : c < 256) : (Lib.firstT c = 241 ∧ lead c = (0, 0, 0)) ∨ (194 ≤ c ∧ c ≤ 223 ∧ lead c = (128, 191, 1)) ∨ (c = 224 ∧ lead c = (160, 191, 2)) ∨ (c = 237 ∧ lead c = (128, 159, 2)) ∨
    (((225 ≤ c ∧ c < 237) ∨ (238 ≤ c ∧ c < 240)) ∧ lead c = (128, 191, 2)) ∨ (c = 240 ∧ lead c = (144, 191, 3)) ∨ (241 ≤ c ∧ c ≤ 243 ∧ lead c = (128, 191, 3)) ∨ (c = 244 ∧ lead c = (128, 143, 3)) := by
  unfold lead Lib.firstT
  (repeat' split) <;> simp <;> omega
theorem slow1 (c : Nat) (lo hi : Nat) (t : B) : match tailBad 1 lo hi t 1 with
    | none => (Lib.slowN (t.length + 1) c (t.getD 0 0).toNat (t.getD 1 0).toNat (t.getD 2 0).toNat 2 lo hi).2 = 2
    | some _ => Lib.slowN (t.length + 1) c (t.getD 0 0).toNat (t.getD 1 0).toNat (t.getD 2 0).toNat 2 lo hi = (65533, 1) := by
  rcases t with _ | ⟨x, r⟩
  · simp [tailBad, Lib.slowN]
  · by_cases h : x.toNat < lo ∨ hi < x.toNat
    · simp [tailBad, Lib.slowN, h]
    · simp [tailBad, Lib.slowN, h]
      rw [if_neg (by omega)]
theorem slow2 (c : Nat) (lo hi : Nat) (t : B) : match tailBad 2 lo hi t 1 with
    | none => (Lib.slowN (t.length + 1) c (t.getD 0 0).toNat (t.getD 1 0).toNat (t.getD 2 0).toNat 3 lo hi).2 = 3
    | some _ => Lib.slowN (t.length + 1) c (t.getD 0 0).toNat (t.getD 1 0).toNat (t.getD 2 0).toNat 3 lo hi = (65533, 1) := by
  rcases t with _ | ⟨x, _ | ⟨y, r⟩⟩
  · simp [tailBad, Lib.slowN]
  · by_cases h : x.toNat < lo ∨ hi < x.toNat
    · simp [tailBad, Lib.slowN, h]
    · simp [tailBad, Lib.slowN, h]
  · by_cases h : x.toNat < lo ∨ hi < x.toNat
    · simp [tailBad, Lib.slowN, h]
    · by_cases h2 : y.toNat < 128 ∨ 191 < y.toNat
      · simp [tailBad, Lib.slowN, h, h2]
      · simp [tailBad, Lib.slowN, h, h2]
        rw [if_neg (by omega)]
theorem slow3 (c : Nat) (lo hi : Nat) (t : B) : match tailBad 3 lo hi t 1 with
    | none => (Lib.slowN (t.length + 1) c (t.getD 0 0).toNat (t.getD 1 0).toNat (t.getD 2 0).toNat 4 lo hi).2 = 4
    | some _ => Lib.slowN (t.length + 1) c (t.getD 0 0).toNat (t.getD 1 0).toNat (t.getD 2 0).toNat 4 lo hi = (65533, 1) := by
  rcases t with _ | ⟨x, _ | ⟨y, _ | ⟨z, r⟩⟩⟩
  · simp [tailBad, Lib.slowN]
  · by_cases h : x.toNat < lo ∨ hi < x.toNat
    · simp [tailBad, Lib.slowN, h]
    · simp [tailBad, Lib.slowN, h]
  · by_cases h : x.toNat < lo ∨ hi < x.toNat
    · simp [tailBad, Lib.slowN, h]
    · by_cases h2 : y.toNat < 128 ∨ 191 < y.toNat
      · simp [tailBad, Lib.slowN, h, h2]
      · simp [tailBad, Lib.slowN, h, h2]
  · by_cases h : x.toNat < lo ∨ hi < x.toNat
    · simp [tailBad, Lib.slowN, h]
    · by_cases h2 : y.toNat < 128 ∨ 191 < y.toNat
      · simp [tailBad, Lib.slowN, h, h2]
      · by_cases h3 : z.toNat < 128 ∨ 191 < z.toNat
        · simp [tailBad, Lib.slowN, h, h2, h3]
        · simp [tailBad, Lib.slowN, h, h2, h3]
          rw [if_neg (by omega)]
theorem uni_decode (l : B) (h : l ≠ []) : ((uni l).1 = 0 → (Lib.decodeL l).1 = 65533 ∧ (Lib.decodeL l).2 = 1) ∧ ((uni l).1 ≠ 0 → (Lib.decodeL l).2 = (uni l).1 ∧ ¬ ((Lib.decodeL l).1 = 65533 ∧ (Lib.decodeL l).2 = 1)) := by
  rcases l with _ | ⟨c, t⟩
  · exact absurd rfl h
  have hN : Lib.decodeL (c :: t) = Lib.decodeN (t.length + 1) c.toNat (t.getD 0 0).toNat (t.getD 1 0).toNat (t.getD 2 0).toNat := by
    rw [Lib.decodeL_N]; rfl
  rw [hN]
  have hc := c.toNat_lt
  have h1 := (t.getD 0 0).toNat_lt
  have h2 := (t.getD 1 0).toNat_lt
  have h3 := (t.getD 2 0).toNat_lt
  by_cases ha : c.toNat < 128
  · have e : uni (c :: t) = (1, 0) := by simp [uni, ha]
    rw [e]
    refine ⟨fun x => by simp at x, fun _ => ?_⟩
    unfold Lib.decodeN
    rw [if_pos ha]
    simp
    omega
  · have key : ∀ lo hi k, lead c.toNat = (lo, hi, k + 1) → (match tailBad (k + 1) lo hi t 1 with | none => (Lib.decodeN (t.length + 1) c.toNat (t.getD 0 0).toNat (t.getD 1 0).toNat (t.getD 2 0).toNat).2 = k + 2 | some _ => Lib.decodeN (t.length + 1) c.toNat (t.getD 0 0).toNat (t.getD 1 0).toNat (t.getD 2 0).toNat = (65533, 1)) →
        ((uni (c :: t)).1 = 0 → (Lib.decodeN (t.length + 1) c.toNat (t.getD 0 0).toNat (t.getD 1 0).toNat (t.getD 2 0).toNat).1 = 65533 ∧ (Lib.decodeN (t.length + 1) c.toNat (t.getD 0 0).toNat (t.getD 1 0).toNat (t.getD 2 0).toNat).2 = 1) ∧
        ((uni (c :: t)).1 ≠ 0 → (Lib.decodeN (t.length + 1) c.toNat (t.getD 0 0).toNat (t.getD 1 0).toNat (t.getD 2 0).toNat).2 = (uni (c :: t)).1 ∧ ¬ ((Lib.decodeN (t.length + 1) c.toNat (t.getD 0 0).toNat (t.getD 1 0).toNat (t.getD 2 0).toNat).1 = 65533 ∧ (Lib.decodeN (t.length + 1) c.toNat (t.getD 0 0).toNat (t.getD 1 0).toNat (t.getD 2 0).toNat).2 = 1)) := by
      intro lo hi k hl hm
      have e : uni (c :: t) = (match tailBad (k + 1) lo hi t 1 with | none => (k + 1 + 1, 0) | some i => (0, i)) := by
        simp only [uni]
        rw [if_neg ha, hl]
        simp only [Nat.add_eq_zero_iff, Nat.succ_ne_self, and_false, if_false]
        cases tailBad (k + 1) lo hi t 1 <;> rfl
      rw [e]
      cases ht : tailBad (k + 1) lo hi t 1 with
      | none =>
        rw [ht] at hm
        simp only at hm ⊢
        refine ⟨fun x => by simp at x, fun _ => ⟨hm, fun x => ?_⟩⟩
        rw [hm] at x
        omega
      | some i =>
        rw [ht] at hm
        simp only at hm ⊢
        rw [hm]
        exact ⟨fun _ => ⟨rfl, rfl⟩, fun x => absurd rfl x⟩
    rcases lead_cases c.toNat (by omega) hc with ⟨q, e⟩ | ⟨q1, q2, e⟩ | ⟨q, e⟩ | ⟨q, e⟩ | ⟨q, e⟩ | ⟨q, e⟩ | ⟨q1, q2, e⟩ | ⟨q, e⟩
    · have e2 : uni (c :: t) = (0, 0) := by simp [uni, ha, e]
      rw [e2, Lib.bad_eq _ _ _ _ _ hc q]
      exact ⟨fun _ => ⟨rfl, rfl⟩, fun x => absurd rfl x⟩
    · refine key _ _ 0 e ?_
      rw [← Lib.slow_C2 _ _ _ _ _ (by omega) h1 h2 h3 ⟨q1, by omega⟩]
      exact slow1 _ _ _ _
    · refine key _ _ 1 e ?_
      rw [← Lib.slow_E0 _ _ _ _ _ (by omega) h1 h2 h3 q]
      exact slow2 _ _ _ _
    · refine key _ _ 1 e ?_
      rw [← Lib.slow_ED _ _ _ _ _ (by omega) h1 h2 h3 q]
      exact slow2 _ _ _ _
    · refine key _ _ 1 e ?_
      rw [← Lib.slow_E1 _ _ _ _ _ (by omega) h1 h2 h3 q]
      exact slow2 _ _ _ _
    · refine key _ _ 2 e ?_
      rw [← Lib.slow_F0 _ _ _ _ _ (by omega) h1 h2 h3 q]
      exact slow3 _ _ _ _
    · refine key _ _ 2 e ?_
      rw [← Lib.slow_F1 _ _ _ _ _ (by omega) h1 h2 h3 ⟨q1, by omega⟩]
      exact slow3 _ _ _ _
    · refine key _ _ 2 e ?_
      rw [← Lib.slow_F4 _ _ _ _ _ (by omega) h1 h2 h3 q]
      exact slow3 _ _ _ _
theorem brk1 (c : UInt8) (lo hi : Nat) (t : B) (hf : Lib.firstT c.toNat % 8 = 2) (hl : Lib.accLo (Lib.firstT c.toNat / 16) = lo) (hh : Lib.accHi (Lib.firstT c.toNat / 16) = hi) (i : Nat) (h : tailBad 1 lo hi t 1 = some i) :
    (∀ j, j < i → j < t.length + 1 ∧ full ((c :: t).take (j + 1)) = false) ∧ (i < t.length + 1 → full ((c :: t).take (i + 1)) = true) ∧ i ≤ t.length + 1 := by
  rcases t with _ | ⟨x, r⟩
  · simp [tailBad] at h
    subst h
    refine ⟨fun j hj => ?_, fun hj => by simp at hj, by simp⟩
    obtain rfl : j = 0 := by omega
    simp [full, hf]
  · by_cases hx : x.toNat < lo ∨ hi < x.toNat
    · simp [tailBad, hx] at h
      subst h
      refine ⟨fun j hj => ?_, fun _ => ?_, by simp⟩
      · obtain rfl : j = 0 := by omega
        simp [full, hf]
      · simp [full, hf, hl, hh, nx]
    · simp [tailBad, hx] at h
theorem brk2 (c : UInt8) (lo hi : Nat) (t : B) (hf : Lib.firstT c.toNat % 8 = 3) (hl : Lib.accLo (Lib.firstT c.toNat / 16) = lo) (hh : Lib.accHi (Lib.firstT c.toNat / 16) = hi) (i : Nat) (h : tailBad 2 lo hi t 1 = some i) :
    (∀ j, j < i → j < t.length + 1 ∧ full ((c :: t).take (j + 1)) = false) ∧ (i < t.length + 1 → full ((c :: t).take (i + 1)) = true) ∧ i ≤ t.length + 1 := by
  rcases t with _ | ⟨x, _ | ⟨y, r⟩⟩
  · simp [tailBad] at h
    subst h
    refine ⟨fun j hj => ?_, fun hj => by simp at hj, by simp⟩
    obtain rfl : j = 0 := by omega
    simp [full, hf]
  · by_cases hx : x.toNat < lo ∨ hi < x.toNat
    · simp [tailBad, hx] at h
      subst h
      refine ⟨fun j hj => ?_, fun _ => ?_, by simp⟩
      · obtain rfl : j = 0 := by omega
        simp [full, hf]
      · simp [full, hf, hl, hh, nx, hx]
    · simp [tailBad, hx] at h
      subst h
      refine ⟨fun j hj => ?_, fun hj => by simp at hj, by simp⟩
      rcases (by omega : j = 0 ∨ j = 1) with rfl | rfl
      · simp [full, hf]
      · simp [full, hf, hl, hh, nx]
        omega
  · by_cases hx : x.toNat < lo ∨ hi < x.toNat
    · simp [tailBad, hx] at h
      subst h
      refine ⟨fun j hj => ?_, fun _ => ?_, by simp⟩
      · obtain rfl : j = 0 := by omega
        simp [full, hf]
      · simp [full, hf, hl, hh, nx, hx]
    · by_cases hy : y.toNat < 128 ∨ 191 < y.toNat
      · simp [tailBad, hx, hy] at h
        subst h
        refine ⟨fun j hj => ?_, fun _ => ?_, by simp⟩
        · rcases (by omega : j = 0 ∨ j = 1) with rfl | rfl
          · simp [full, hf]
          · simp [full, hf, hl, hh, nx]
            omega
        · simp [full, hf, hl, hh, nx]
      · simp [tailBad, hx, hy] at h
theorem brk3 (c : UInt8) (lo hi : Nat) (t : B) (hf : Lib.firstT c.toNat % 8 = 4) (hl : Lib.accLo (Lib.firstT c.toNat / 16) = lo) (hh : Lib.accHi (Lib.firstT c.toNat / 16) = hi) (i : Nat) (h : tailBad 3 lo hi t 1 = some i) :
    (∀ j, j < i → j < t.length + 1 ∧ full ((c :: t).take (j + 1)) = false) ∧ (i < t.length + 1 → full ((c :: t).take (i + 1)) = true) ∧ i ≤ t.length + 1 := by
  rcases t with _ | ⟨x, _ | ⟨y, _ | ⟨z, r⟩⟩⟩
  · simp [tailBad] at h
    subst h
    refine ⟨fun j hj => ?_, fun hj => by simp at hj, by simp⟩
    obtain rfl : j = 0 := by omega
    simp [full, hf]
  · by_cases hx : x.toNat < lo ∨ hi < x.toNat
    · simp [tailBad, hx] at h
      subst h
      refine ⟨fun j hj => ?_, fun _ => ?_, by simp⟩
      · obtain rfl : j = 0 := by omega
        simp [full, hf]
      · simp [full, hf, hl, hh, nx, hx]
    · simp [tailBad, hx] at h
      subst h
      refine ⟨fun j hj => ?_, fun hj => by simp at hj, by simp⟩
      rcases (by omega : j = 0 ∨ j = 1) with rfl | rfl
      · simp [full, hf]
      · simp [full, hf, hl, hh, nx]
        omega
  · by_cases hx : x.toNat < lo ∨ hi < x.toNat
    · simp [tailBad, hx] at h
      subst h
      refine ⟨fun j hj => ?_, fun _ => ?_, by simp⟩
      · obtain rfl : j = 0 := by omega
        simp [full, hf]
      · simp [full, hf, hl, hh, nx, hx]
    · by_cases hy : y.toNat < 128 ∨ 191 < y.toNat
      · simp [tailBad, hx, hy] at h
        subst h
        refine ⟨fun j hj => ?_, fun _ => ?_, by simp⟩
        · rcases (by omega : j = 0 ∨ j = 1) with rfl | rfl
          · simp [full, hf]
          · simp [full, hf, hl, hh, nx]
            omega
        · simp [full, hf, hl, hh, nx, hy]
      · simp [tailBad, hx, hy] at h
        subst h
        refine ⟨fun j hj => ?_, fun hj => by simp at hj, by simp⟩
        rcases (by omega : j = 0 ∨ j = 1 ∨ j = 2) with rfl | rfl | rfl
        · simp [full, hf]
        · simp [full, hf, hl, hh, nx]
          omega
        · simp [full, hf, hl, hh, nx]
          omega
  · by_cases hx : x.toNat < lo ∨ hi < x.toNat
    · simp [tailBad, hx] at h
      subst h
      refine ⟨fun j hj => ?_, fun _ => ?_, by simp⟩
      · obtain rfl : j = 0 := by omega
        simp [full, hf]
      · simp [full, hf, hl, hh, nx, hx]
    · by_cases hy : y.toNat < 128 ∨ 191 < y.toNat
      · simp [tailBad, hx, hy] at h
        subst h
        refine ⟨fun j hj => ?_, fun _ => ?_, by simp⟩
        · rcases (by omega : j = 0 ∨ j = 1) with rfl | rfl
          · simp [full, hf]
          · simp [full, hf, hl, hh, nx]
            omega
        · simp [full, hf, hl, hh, nx, hy]
      · by_cases hz : z.toNat < 128 ∨ 191 < z.toNat
        · simp [tailBad, hx, hy, hz] at h
          subst h
          refine ⟨fun j hj => ?_, fun _ => ?_, by simp⟩
          · rcases (by omega : j = 0 ∨ j = 1 ∨ j = 2) with rfl | rfl | rfl
            · simp [full, hf]
            · simp [full, hf, hl, hh, nx]
              omega
            · simp [full, hf, hl, hh, nx]
              omega
          · simp [full, hf]
        · simp [tailBad, hx, hy, hz] at h
theorem uni_broken (l : B) (h : l ≠ []) (h0 : (uni l).1 = 0) : (∀ j, j < (uni l).2 → j < l.length ∧ full (l.take (j + 1)) = false) ∧ ((uni l).2 < l.length → full (l.take ((uni l).2 + 1)) = true) ∧ (uni l).2 ≤ l.length := by
  rcases l with _ | ⟨c, t⟩
  · exact absurd rfl h
  have hc := c.toNat_lt
  by_cases ha : c.toNat < 128
  · simp [uni, ha] at h0
  · have key : ∀ lo hi k, lead c.toNat = (lo, hi, k + 1) → ∃ i, tailBad (k + 1) lo hi t 1 = some i ∧ (uni (c :: t)).2 = i := by
      intro lo hi k hl
      have e : uni (c :: t) = (match tailBad (k + 1) lo hi t 1 with | none => (k + 1 + 1, 0) | some i => (0, i)) := by
        simp only [uni]
        rw [if_neg ha, hl]
        simp only [Nat.add_eq_zero_iff, Nat.succ_ne_self, and_false, if_false]
        cases tailBad (k + 1) lo hi t 1 <;> rfl
      rw [e] at h0 ⊢
      cases ht : tailBad (k + 1) lo hi t 1 with
      | none => rw [ht] at h0; simp at h0
      | some i => exact ⟨i, rfl, rfl⟩
    rcases lead_cases c.toNat (by omega) hc with ⟨q, e⟩ | ⟨q1, q2, e⟩ | ⟨q, e⟩ | ⟨q, e⟩ | ⟨q, e⟩ | ⟨q, e⟩ | ⟨q1, q2, e⟩ | ⟨q, e⟩
    · have e2 : uni (c :: t) = (0, 0) := by simp [uni, ha, e]
      rw [e2]
      refine ⟨fun j hj => by simp at hj, fun _ => ?_, by simp⟩
      simp [full, q]
    · obtain ⟨i, h1, h2⟩ := key _ _ 0 e
      have hf := Lib.firstT_C2 (b := c.toNat) (⟨q1, by omega⟩)
      rw [h2]
      exact brk1 c _ _ t (by rw [hf]) (by rw [hf]; rfl) (by rw [hf]; rfl) i h1
    · obtain ⟨i, h1, h2⟩ := key _ _ 1 e
      have hf := Lib.firstT_E0 (b := c.toNat) q
      rw [h2]
      exact brk2 c _ _ t (by rw [hf]) (by rw [hf]; rfl) (by rw [hf]; rfl) i h1
    · obtain ⟨i, h1, h2⟩ := key _ _ 1 e
      have hf := Lib.firstT_ED (b := c.toNat) q
      rw [h2]
      exact brk2 c _ _ t (by rw [hf]) (by rw [hf]; rfl) (by rw [hf]; rfl) i h1
    · obtain ⟨i, h1, h2⟩ := key _ _ 1 e
      have hf := Lib.firstT_E1 (b := c.toNat) q
      rw [h2]
      exact brk2 c _ _ t (by rw [hf]) (by rw [hf]; rfl) (by rw [hf]; rfl) i h1
    · obtain ⟨i, h1, h2⟩ := key _ _ 2 e
      have hf := Lib.firstT_F0 (b := c.toNat) q
      rw [h2]
      exact brk3 c _ _ t (by rw [hf]) (by rw [hf]; rfl) (by rw [hf]; rfl) i h1
    · obtain ⟨i, h1, h2⟩ := key _ _ 2 e
      have hf := Lib.firstT_F1 (b := c.toNat) (⟨q1, by omega⟩)
      rw [h2]
      exact brk3 c _ _ t (by rw [hf]) (by rw [hf]; rfl) (by rw [hf]; rfl) i h1
    · obtain ⟨i, h1, h2⟩ := key _ _ 2 e
      have hf := Lib.firstT_F4 (b := c.toNat) q
      rw [h2]
      exact brk3 c _ _ t (by rw [hf]) (by rw [hf]; rfl) (by rw [hf]; rfl) i h1
end Go.Proofs.YtkoeihliaandeaaGreatDoor
