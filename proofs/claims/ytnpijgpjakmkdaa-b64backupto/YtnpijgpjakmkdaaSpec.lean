/- Base64url without padding: texts of bytes and bytes of texts, as plain functions. -/
namespace Go.Proofs.Ytnpijgpjakmkdaa

/-- The sixty-four digits. -/
def chrL : List Int := [65, 66, 67, 68, 69, 70, 71, 72, 73, 74, 75, 76, 77, 78, 79, 80, 81, 82, 83, 84, 85, 86, 87, 88, 89, 90, 97, 98, 99, 100, 101, 102, 103, 104, 105, 106, 107, 108, 109, 110, 111, 112, 113, 114, 115, 116, 117, 118, 119, 120, 121, 122, 48, 49, 50, 51, 52, 53, 54, 55, 56, 57, 45, 95]
def chr (d : Int) : Int := chrL.getD d.toNat 0
def val (c : Int) : Option Int :=
  if 65 ≤ c ∧ c ≤ 90 then some (c - 65) else if 97 ≤ c ∧ c ≤ 122 then some (c - 97 + 26) else if 48 ≤ c ∧ c ≤ 57 then some (c - 48 + 52) else if c = 45 then some 62 else if c = 95 then some 63 else none
theorem all_nat {n : Nat} {p : Int → Prop} (h : ∀ k : Fin n, p ((k.val : Nat) : Int)) (x : Int) (h0 : 0 ≤ x) (h1 : x < n) : p x := by
  have := h ⟨x.toNat, by omega⟩
  simpa [Int.toNat_of_nonneg h0] using this
theorem val_chr (d : Int) (h0 : 0 ≤ d) (h1 : d < 64) : val (chr d) = some d :=
  all_nat (n := 64) (p := fun d => val (chr d) = some d) (by decide +kernel) d h0 h1
theorem chr_val (c d : Int) (h : val c = some d) : chr d = c ∧ 0 ≤ d ∧ d < 64 := by
  have h0 : 0 ≤ c ∧ c < 256 := by
    unfold val at h
    repeat' split at h
    all_goals first | (simp at h; done) | omega
  revert h
  have := all_nat (n := 256) (p := fun c => ∀ d ∈ val c, chr d = c ∧ 0 ≤ d ∧ d < 64) (by decide +kernel) c h0.1 h0.2
  exact fun h => this d h
theorem chr_bd (d : Int) (h0 : 0 ≤ d) (h1 : d < 64) : 0 ≤ chr d ∧ chr d < 256 :=
  all_nat (n := 64) (p := fun d => 0 ≤ chr d ∧ chr d < 256) (by decide +kernel) d h0 h1
/-- Bytes to digits: r bytes modulo three are behind, p the bits that stand in no digit yet. -/
def encS (r : Nat) (p : Int) : List Int → List Int
  | [] => if r = 0 then [] else if r = 1 then [p * 16] else [p * 4]
  | x :: xs => if r = 0 then x / 4 :: encS 1 (x % 4) xs else if r = 1 then (p * 16 + x / 16) :: encS 2 (x % 16) xs else (p * 4 + x / 64) :: x % 64 :: encS 0 0 xs
def textL (bs : List Int) : List Int := (encS 0 0 bs).map chr
/-- Digits to bytes: r digits modulo four are behind, p the bits that stand in no byte yet. -/
def decS (r : Nat) (p : Int) : List Int → Option (List Int)
  | [] => if p = 0 then some [] else none
  | c :: cs => match val c with
    | none => none
    | some d => if r = 0 then decS 1 d cs else if r = 1 then (decS 2 (d % 16) cs).map ((p * 4 + d / 16) :: ·) else if r = 2 then (decS 3 (d % 4) cs).map ((p * 16 + d / 4) :: ·) else (decS 0 0 cs).map ((p * 64 + d) :: ·)
def bytesL (s : List Int) : Option (List Int) := if s.length % 4 = 1 then none else decS 0 0 s
def Oct (bs : List Int) : Prop := ∀ x ∈ bs, 0 ≤ x ∧ x < 256
theorem Oct.tail {x : Int} {xs : List Int} (h : Oct (x :: xs)) : Oct xs := fun y hy => h y (List.mem_cons_of_mem _ hy)
theorem Oct.head {x : Int} {xs : List Int} (h : Oct (x :: xs)) : 0 ≤ x ∧ x < 256 := h x (List.mem_cons_self ..)
theorem enc_len (bs : List Int) : (encS 0 0 bs).length = (8 * bs.length + 5) / 6 ∧ (∀ p, (encS 1 p bs).length = (8 * bs.length + 7) / 6) ∧ ∀ p, (encS 2 p bs).length = (8 * bs.length + 9) / 6 := by
  induction bs with
  | nil => simp [encS]
  | cons x xs ih =>
    refine ⟨?_, ?_, ?_⟩
    · simp [encS, ih.2.1]; omega
    · intro p; simp [encS, ih.2.2]; omega
    · intro p; simp [encS, ih.1]; omega
theorem enc_bd (bs : List Int) (h : Oct bs) : (∀ d ∈ encS 0 0 bs, 0 ≤ d ∧ d < 64) ∧ (∀ p, 0 ≤ p → p < 4 → ∀ d ∈ encS 1 p bs, 0 ≤ d ∧ d < 64) ∧ ∀ p, 0 ≤ p → p < 16 → ∀ d ∈ encS 2 p bs, 0 ≤ d ∧ d < 64 := by
  induction bs with
  | nil =>
    refine ⟨by simp [encS], ?_, ?_⟩
    · intro p h0 h1 d hd; simp [encS] at hd; omega
    · intro p h0 h1 d hd; simp [encS] at hd; omega
  | cons x xs ih =>
    have hx := h.head
    obtain ⟨a, b, c⟩ := ih h.tail
    refine ⟨?_, ?_, ?_⟩
    · intro d hd
      simp only [encS, if_true, List.mem_cons] at hd
      rcases hd with rfl | hd
      · omega
      · exact b _ (by omega) (by omega) d hd
    · intro p h0 h1 d hd
      simp [encS] at hd
      rcases hd with rfl | hd
      · omega
      · exact c _ (by omega) (by omega) d hd
    · intro p h0 h1 d hd
      simp [encS] at hd
      rcases hd with rfl | rfl | hd
      · omega
      · omega
      · exact a d hd
theorem back_S (bs : List Int) (h : Oct bs) : decS 0 0 ((encS 0 0 bs).map chr) = some bs ∧
    (∀ q p, 0 ≤ q → q < 64 → 0 ≤ p → p < 4 → decS 1 q ((encS 1 p bs).map chr) = some ((q * 4 + p) :: bs)) ∧
    ∀ q p, 0 ≤ q → q < 16 → 0 ≤ p → p < 16 → decS 2 q ((encS 2 p bs).map chr) = some ((q * 16 + p) :: bs) := by
  induction bs with
  | nil =>
    refine ⟨by simp [encS, decS], ?_, ?_⟩
    · intro q p h0 h1 h2 h3
      simp only [encS, Nat.one_ne_zero, if_false, if_true, List.map_cons, List.map_nil, decS, val_chr (p * 16) (by omega) (by omega)]
      simp [show p * 16 % 16 = 0 by omega, show p * 16 / 16 = p by omega]
    · intro q p h0 h1 h2 h3
      simp [encS, show p * 4 % 4 = 0 by omega, show p * 4 / 4 = p by omega, decS, val_chr (p * 4) (by omega) (by omega)]
  | cons x xs ih =>
    have hx := h.head
    obtain ⟨a, b, c⟩ := ih h.tail
    refine ⟨?_, ?_, ?_⟩
    · simp only [encS, if_true, List.map_cons, decS, val_chr (x / 4) (by omega) (by omega)]
      rw [b _ _ (by omega) (by omega) (by omega) (by omega)]
      simp; omega
    · intro q p h0 h1 h2 h3
      simp only [encS, Nat.one_ne_zero, if_false, if_true, List.map_cons, decS, val_chr (p * 16 + x / 16) (by omega) (by omega)]
      rw [c _ _ (by omega) (by omega) (by omega) (by omega)]
      simp; omega
    · intro q p h0 h1 h2 h3
      have e1 := val_chr (p * 4 + x / 64) (by omega) (by omega)
      have e2 := val_chr (x % 64) (by omega) (by omega)
      simp [encS, decS, e1, e2, a]
      omega
theorem back (bs : List Int) (h : Oct bs) : bytesL (textL bs) = some bs := by
  unfold bytesL textL
  rw [if_neg (by simp [(enc_len bs).1]; omega)]
  exact (back_S bs h).1
theorem only_S : ∀ (s : List Int), (∀ bs, s.length % 4 ≠ 1 → decS 0 0 s = some bs → Oct bs ∧ (encS 0 0 bs).map chr = s) ∧
    (∀ q bs, 0 ≤ q → q < 64 → s.length % 4 ≠ 0 → decS 1 q s = some bs → ∃ p l, 0 ≤ p ∧ p < 4 ∧ bs = (q * 4 + p) :: l ∧ Oct l ∧ (encS 1 p l).map chr = s) ∧
    (∀ q bs, 0 ≤ q → q < 16 → s.length % 4 ≠ 3 → s ≠ [] → decS 2 q s = some bs → ∃ p l, 0 ≤ p ∧ p < 16 ∧ bs = (q * 16 + p) :: l ∧ Oct l ∧ (encS 2 p l).map chr = s) ∧
    ∀ q bs, 0 ≤ q → q < 4 → s.length % 4 ≠ 2 → s ≠ [] → decS 3 q s = some bs → ∃ p l, 0 ≤ p ∧ p < 64 ∧ bs = (q * 64 + p) :: l ∧ Oct l ∧ chr p :: (encS 0 0 l).map chr = s := by
  intro s
  induction s with
  | nil =>
    refine ⟨?_, ?_, ?_, ?_⟩
    · intro bs _ h
      simp [decS] at h
      subst h
      exact ⟨by intro x hx; simp at hx, by simp [encS]⟩
    · intro q bs _ _ h; simp at h
    · intro q bs _ _ _ h; simp at h
    · intro q bs _ _ _ h; simp at h
  | cons c cs ih =>
    obtain ⟨iA, iB, iC, iD⟩ := ih
    refine ⟨?_, ?_, ?_, ?_⟩
    · intro bs hl h
      simp only [List.length_cons] at hl
      unfold decS at h
      cases hv : val c with
      | none => rw [hv] at h; simp at h
      | some d =>
        rw [hv] at h
        simp only [if_true] at h
        obtain ⟨hc, h0, h1⟩ := chr_val c d hv
        obtain ⟨p, l, h2, h3, rfl, h4, h5⟩ := iB d bs h0 h1 (by omega) h
        refine ⟨?_, ?_⟩
        · intro x hx
          rcases List.mem_cons.1 hx with rfl | hx
          · omega
          · exact h4 x hx
        · simp [encS, show (d * 4 + p) / 4 = d by omega, show (d * 4 + p) % 4 = p by omega, hc, h5]
    · intro q bs hq0 hq1 hl h
      simp only [List.length_cons] at hl
      unfold decS at h
      cases hv : val c with
      | none => rw [hv] at h; simp at h
      | some d =>
        rw [hv] at h
        simp at h
        obtain ⟨l, h, rfl⟩ := h
        obtain ⟨hc, h0, h1⟩ := chr_val c d hv
        by_cases hn : cs = []
        · subst hn
          simp [decS] at h
          obtain ⟨h2, rfl⟩ := h
          exact ⟨d / 16, [], by omega, by omega, rfl, by intro x hx; simp at hx, by simp [encS, show d / 16 * 16 = d by omega, hc]⟩
        · obtain ⟨p, l', h2, h3, rfl, h4, h5⟩ := iC (d % 16) l (by omega) (by omega) (by omega) hn h
          refine ⟨d / 16, _, by omega, by omega, rfl, ?_, ?_⟩
          · intro x hx
            rcases List.mem_cons.1 hx with rfl | hx
            · omega
            · exact h4 x hx
          · simp [encS, show d / 16 * 16 + (d % 16 * 16 + p) / 16 = d by omega, show (d % 16 * 16 + p) % 16 = p by omega, hc, h5]
    · intro q bs hq0 hq1 hl _ h
      simp only [List.length_cons] at hl
      unfold decS at h
      cases hv : val c with
      | none => rw [hv] at h; simp at h
      | some d =>
        rw [hv] at h
        simp at h
        obtain ⟨l, h, rfl⟩ := h
        obtain ⟨hc, h0, h1⟩ := chr_val c d hv
        by_cases hn : cs = []
        · subst hn
          simp [decS] at h
          obtain ⟨h2, rfl⟩ := h
          exact ⟨d / 4, [], by omega, by omega, rfl, by intro x hx; simp at hx, by simp [encS, show d / 4 * 4 = d by omega, hc]⟩
        · obtain ⟨p, l', h2, h3, rfl, h4, h5⟩ := iD (d % 4) l (by omega) (by omega) (by omega) hn h
          refine ⟨d / 4, _, by omega, by omega, rfl, ?_, ?_⟩
          · intro x hx
            rcases List.mem_cons.1 hx with rfl | hx
            · omega
            · exact h4 x hx
          · simp [encS, show d / 4 * 4 + (d % 4 * 64 + p) / 64 = d by omega, show (d % 4 * 64 + p) % 64 = p by omega, hc]
            exact h5
    · intro q bs hq0 hq1 hl _ h
      simp only [List.length_cons] at hl
      unfold decS at h
      cases hv : val c with
      | none => rw [hv] at h; simp at h
      | some d =>
        rw [hv] at h
        simp at h
        obtain ⟨l, h, rfl⟩ := h
        obtain ⟨hc, h0, h1⟩ := chr_val c d hv
        obtain ⟨h4, h5⟩ := iA l (by omega) h
        exact ⟨d, l, h0, h1, rfl, h4, by rw [hc, h5]⟩
theorem only (s bs : List Int) (h : bytesL s = some bs) : Oct bs ∧ textL bs = s := by
  unfold bytesL at h
  split at h
  · simp at h
  · exact (only_S s).1 bs (by assumption) h
/-- The document's bits. -/
def bitAt (bs : List Int) (j : Nat) : Int := bs.getD (j / 8) 0 / 2 ^ (7 - j % 8) % 2
def part (bs : List Int) (i : Nat) : Nat → Int
  | 0 => 0
  | t + 1 => 2 * part bs i t + bitAt bs (i + t)
theorem bitAt_bd (bs : List Int) (j : Nat) : 0 ≤ bitAt bs j ∧ bitAt bs j ≤ 1 := by unfold bitAt; omega
theorem bitAt_far (a b c : Int) (bs : List Int) (j : Nat) : bitAt (a :: b :: c :: bs) (j + 24) = bitAt bs j := by
  unfold bitAt
  rw [show (j + 24) / 8 = j / 8 + 3 by omega, show (j + 24) % 8 = j % 8 by omega]
  rfl
theorem part_far (a b c : Int) (bs : List Int) (i : Nat) : ∀ t, part (a :: b :: c :: bs) (i + 24) t = part bs i t
  | 0 => rfl
  | t + 1 => by
    unfold part
    rw [part_far a b c bs i t, show i + 24 + t = i + t + 24 by omega, bitAt_far]
theorem part_bd (bs : List Int) (i : Nat) : 0 ≤ part bs i 0 ∧ part bs i 0 ≤ 0 ∧ 0 ≤ part bs i 1 ∧ part bs i 1 ≤ 1 ∧ 0 ≤ part bs i 2 ∧ part bs i 2 ≤ 3 ∧ 0 ≤ part bs i 3 ∧ part bs i 3 ≤ 7 ∧ 0 ≤ part bs i 4 ∧ part bs i 4 ≤ 15 ∧ 0 ≤ part bs i 5 ∧ part bs i 5 ≤ 31 ∧ 0 ≤ part bs i 6 ∧ part bs i 6 ≤ 63 := by
  have h0 := bitAt_bd bs (i + 0)
  have h1 := bitAt_bd bs (i + 1)
  have h2 := bitAt_bd bs (i + 2)
  have h3 := bitAt_bd bs (i + 3)
  have h4 := bitAt_bd bs (i + 4)
  have h5 := bitAt_bd bs (i + 5)
  simp only [part]
  omega
theorem enc_part : ∀ (n : Nat) (bs : List Int), bs.length ≤ n → Oct bs → ∀ k, 6 * k < 8 * bs.length → (encS 0 0 bs)[k]? = some (part bs (6 * k) 6)
  | _, [], _, _, k, hk => by simp at hk
  | _, [a], _, h, k, hk => by
    have ha := h.head
    simp only [List.length_cons, List.length_nil] at hk
    match k with
    | 0 => simp [encS, part, bitAt]; omega
    | 1 => simp [encS, part, bitAt]; omega
    | k + 2 => omega
  | _, [a, b], _, h, k, hk => by
    have ha := h.head
    have hb := h.tail.head
    simp only [List.length_cons, List.length_nil] at hk
    match k with
    | 0 => simp [encS, part, bitAt]; omega
    | 1 => simp [encS, part, bitAt]; omega
    | 2 => simp [encS, part, bitAt]; omega
    | k + 3 => omega
  | 0, a :: b :: c :: bs, hn, _, _, _ => by simp at hn
  | n + 1, a :: b :: c :: bs, hn, h, k, hk => by
    have ha := h.head
    have hb := h.tail.head
    have hc := h.tail.tail.head
    simp only [List.length_cons] at hk hn
    match k with
    | 0 => simp [encS, part, bitAt]; omega
    | 1 => simp [encS, part, bitAt]; omega
    | 2 => simp [encS, part, bitAt]; omega
    | 3 => simp [encS, part, bitAt]; omega
    | k + 4 =>
      rw [show 6 * (k + 4) = 6 * k + 24 by omega, part_far]
      have := enc_part n bs (by omega) h.tail.tail.tail k (by omega)
      simpa [encS] using this
end Go.Proofs.Ytnpijgpjakmkdaa
