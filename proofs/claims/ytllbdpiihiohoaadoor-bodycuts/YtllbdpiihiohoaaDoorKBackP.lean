/- What is written is read: chunks, the last one and its trailers, fed to the plain reader. -/
import Derived.Test.YtllbdpiihiohoaaDoorKCut
namespace Go.Proofs.YtllbdpiihiohoaaDoor
open Go.RowKit

/-- All of l is taken: the reader has become s', and X was told. -/
structure Fed (s : KS) (l : B) (s' : KS) (X : B) : Prop where
  k : feedK s l = s'
  n : feedN s l = l.length
  b : feedB s l = X
theorem Fed.nil (s : KS) : Fed s [] s [] := ⟨rfl, rfl, rfl⟩
theorem Fed.app {s s1 s2 : KS} {a b X Y : B} (h : Fed s a s1 X) (h' : Fed s1 b s2 Y) : Fed s (a ++ b) s2 (X ++ Y) := by
  obtain ⟨e1, e2, e3⟩ := fk_app a b s
  rw [h.k] at e1 e2 e3
  exact ⟨by rw [e1, h'.k], by rw [e2, h.n, h'.n, List.length_append], by rw [e3, h.b, h'.b]⟩
theorem Fed.app0 {s s1 s2 : KS} {a b : B} (h : Fed s a s1 []) (h' : Fed s1 b s2 []) : Fed s (a ++ b) s2 [] := h.app h'
theorem Fed.one {s s' : KS} {c : UInt8} (hn : endedK s = false) (h3 : s.st ≠ 3) (hb : byteK s c = s') : Fed s [c] s' [] := by
  obtain ⟨e1, e2, e3⟩ := fk_cons hn c []
  rw [if_neg h3] at e3
  exact ⟨by rw [e1, hb]; rfl, by rw [e2]; rfl, by rw [e3]; rfl⟩
theorem Fed.ends {s s' : KS} {a X : B} (h : Fed s a s' X) (he : endedK s' = true) (b : B) : feedK s (a ++ b) = s' ∧ feedN s (a ++ b) = a.length ∧ feedB s (a ++ b) = X := by
  obtain ⟨e1, e2, e3⟩ := fk_app a b s
  obtain ⟨d1, d2, d3⟩ := fk_ended he b
  rw [h.k] at e1 e2 e3
  exact ⟨by rw [e1, d1], by rw [e2, d2, h.n]; rfl, by rw [e3, d3, h.b, List.append_nil]⟩
theorem hex_digC : ∀ d : Fin 16, hexU (digC d.1) = true ∧ hexN (digC d.1) = d.1 := by decide +kernel
theorem hexd {d : Nat} (h : d < 16) : hexU (digC d) = true ∧ hexN (digC d) = d := hex_digC ⟨d, h⟩
def hexF (a : Nat) (ds : B) : Nat := ds.foldl (fun a y => a * 16 + hexN y) a
theorem told_val : ∀ (f n : Nat) (l : B), n < 16 ^ f → hexF 0 (toldL 16 f n l) = hexF n l
  | 0, n, l, h => by
    obtain rfl : n = 0 := by simpa using h
    simp [toldL]
  | f + 1, n, l, h => by
    rw [toldL]
    have hm : n % 16 < 16 := Nat.mod_lt _ (by omega)
    split
    · rename_i h0
      have e : n % 16 = n := by omega
      unfold hexF
      rw [List.foldl_cons, (hexd hm).2, e]
      simp
    · have h1 : n / 16 < 16 ^ f := by
        rw [Nat.div_lt_iff_lt_mul (by omega)]
        rw [Nat.pow_succ] at h
        exact h
      rw [told_val f (n / 16) _ h1]
      unfold hexF
      rw [List.foldl_cons, (hexd hm).2]
      congr 1
      omega
theorem told_hex : ∀ (f n : Nat) (l : B), (∀ y ∈ l, hexU y = true) → ∀ y ∈ toldL 16 f n l, hexU y = true
  | 0, n, l, h => by simpa [toldL] using h
  | f + 1, n, l, h => by
    rw [toldL]
    have hm : n % 16 < 16 := Nat.mod_lt _ (by omega)
    have h2 : ∀ y ∈ digC (n % 16) :: l, hexU y = true := fun y hy => by
      rcases List.mem_cons.1 hy with rfl | hy
      · exact (hexd hm).1
      · exact h y hy
    split
    · exact h2
    · exact told_hex f _ _ h2
theorem told_lenK : ∀ (f k n : Nat) (l : B), n < 16 ^ (k + 1) → (toldL 16 (f + 1) n l).length ≤ k + 1 + l.length ∧ 0 < (toldL 16 (f + 1) n l).length
  | f, k, n, l, h => by
    rw [toldL]
    split
    · exact ⟨by rw [List.length_cons]; omega, by simp⟩
    · rename_i h0
      cases f with
      | zero => exact ⟨by simp [toldL]; omega, by simp [toldL]⟩
      | succ f =>
        cases k with
        | zero => exact absurd (Nat.div_eq_of_lt (by simpa using h)) h0
        | succ k =>
          have h1 : n / 16 < 16 ^ (k + 1) := by
            rw [Nat.div_lt_iff_lt_mul (by omega)]
            rw [Nat.pow_succ] at h
            exact h
          obtain ⟨a1, a2⟩ := told_lenK f k (n / 16) (digC (n % 16) :: l) h1
          rw [List.length_cons] at a1
          exact ⟨by omega, a2⟩
/-- A body's reader between two chunks. -/
def atK (m t : Nat) : KS := ⟨m, t, 0, 0, 0, 0, [], 0, [], []⟩
theorem fed_digits : ∀ (ds : B) (m t a c : Nat), (∀ y ∈ ds, hexU y = true) → c + ds.length ≤ 16 → Fed ⟨m, t, 0, 0, a, c, [], 0, [], []⟩ ds ⟨m, t, 0, 0, hexF a ds, c + ds.length, [], 0, [], []⟩ []
  | [], m, t, a, c, _, _ => Fed.nil _
  | y :: ds, m, t, a, c, h, hl => by
    have hy := h y (by simp)
    rw [List.length_cons] at hl
    have h1 : Fed ⟨m, t, 0, 0, a, c, [], 0, [], []⟩ [y] ⟨m, t, 0, 0, a * 16 + hexN y, c + 1, [], 0, [], []⟩ [] := by
      refine Fed.one (by simp [endedK]) (by simp) ?_
      unfold byteK stepK cntK ofLinesK nextK ofSizeK judgeK
      simp [hy, show c < 16 by omega]
    have h2 := fed_digits ds m t (a * 16 + hexN y) (c + 1) (fun z hz => h z (by simp [hz])) (by omega)
    have := h1.app0 h2
    rw [List.length_cons, show c + (ds.length + 1) = c + 1 + ds.length by omega]
    exact this
theorem told_digits (n m t : Nat) (hn : n ≤ 1048576) : ∃ c, 0 < c ∧ Fed (atK m t) (told 16 n) ⟨m, t, 0, 0, n, c, [], 0, [], []⟩ [] := by
  have hl := told_lenK 63 15 n [] (Nat.lt_of_le_of_lt hn (by decide))
  have hv := told_val 64 n [] (Nat.lt_of_le_of_lt hn (by decide))
  have hx := told_hex 64 n [] (fun y hy => by simp at hy)
  have h := fed_digits (told 16 n) m t 0 0 hx (by unfold told; simpa using hl.1)
  refine ⟨0 + (told 16 n).length, by unfold told; simpa using hl.2, ?_⟩
  have e : hexF 0 (told 16 n) = n := by unfold told; rw [hv]; rfl
  rw [e] at h
  exact h
theorem fed_13 (m t n c : Nat) (hc : 0 < c) : Fed ⟨m, t, 0, 0, n, c, [], 0, [], []⟩ [13] ⟨m, t, 0, 2, n, c, [], 0, [], []⟩ [] := by
  refine Fed.one (by simp [endedK]) (by simp) ?_
  unfold byteK stepK cntK ofLinesK nextK ofSizeK judgeK
  simp [show hexU 13 = false by decide, show ¬ c = 0 by omega]
theorem fed_10 (m t n c : Nat) (hn : n ≠ 0) (ht : n ≤ m - t) : Fed ⟨m, t, 0, 2, n, c, [], 0, [], []⟩ [10] ⟨m, t, 0, 3, n, 0, [], 0, [], []⟩ [] := by
  refine Fed.one (by simp [endedK]) (by simp) ?_
  unfold byteK stepK cntK ofLinesK nextK ofSizeEndK judgeK
  simp [hn, show ¬ m - t < n by omega]
theorem fed_10e (m t n c : Nat) (hn : n ≠ 0) (ht : m - t < n) : Fed ⟨m, t, 0, 2, n, c, [], 0, [], []⟩ [10] ⟨m, t, 33, 2, n, 0, [], 0, [], []⟩ [] := by
  refine Fed.one (by simp [endedK]) (by simp) ?_
  unfold byteK stepK cntK ofLinesK nextK ofSizeEndK judgeK
  simp [hn, ht]
theorem fed_own (m t : Nat) (p : B) (hp : p ≠ []) : Fed ⟨m, t, 0, 3, p.length, 0, [], 0, [], []⟩ p ⟨m, t + p.length, 0, 4, 0, 0, [], 0, [], []⟩ p := by
  obtain ⟨h1, h2, h3⟩ := fk_own p ⟨m, t, 0, 3, p.length, 0, [], 0, [], []⟩ rfl rfl (Nat.le_refl _) (List.length_pos_iff.2 hp)
  refine ⟨?_, h2, h3⟩
  rw [h1]
  unfold ownK
  simp
theorem fed_end (m t : Nat) : Fed ⟨m, t, 0, 4, 0, 0, [], 0, [], []⟩ [13, 10] (atK m t) [] := by
  have h1 : Fed ⟨m, t, 0, 4, 0, 0, [], 0, [], []⟩ [13] ⟨m, t, 0, 5, 0, 0, [], 0, [], []⟩ [] := by
    refine Fed.one (by simp [endedK]) (by simp) ?_
    unfold byteK stepK cntK ofLinesK nextK onlyK judgeK
    simp
  have h2 : Fed ⟨m, t, 0, 5, 0, 0, [], 0, [], []⟩ [10] (atK m t) [] := by
    refine Fed.one (by simp [endedK]) (by simp) ?_
    unfold byteK stepK cntK ofLinesK nextK onlyK judgeK atK
    simp
  exact h1.app0 h2
/-- A chunk is read as its bytes. -/
theorem fed_chunk (m t : Nat) (p : B) (hp : p.length ≤ 1048576) (ht : t + p.length ≤ m) : Fed (atK m t) (encK p) (atK m (t + p.length)) p := by
  by_cases h0 : p = []
  · subst h0
    exact Fed.nil _
  · have hl : p.length ≠ 0 := fun e => h0 (List.eq_nil_of_length_eq_zero e)
    obtain ⟨c, hc, h1⟩ := told_digits p.length m t hp
    have h2 := (h1.app0 (fed_13 m t _ c hc)).app0 (fed_10 m t p.length c hl (by omega))
    have h3 := (h2.app (fed_own m t p h0)).app (fed_end m (t + p.length))
    unfold encK
    rw [if_neg h0]
    simpa using h3
/-- One that is too much is refused at its size line's end. -/
theorem fed_much (m t : Nat) (p : B) (hp : p.length ≤ 1048576) (htm : t ≤ m) (ht : m < t + p.length) (r : B) : (feedK (atK m t) (encK p ++ r)).err = 33 := by
  have h0 : p ≠ [] := by rintro rfl; simp at ht; omega
  obtain ⟨c, hc, h1⟩ := told_digits p.length m t hp
  have h2 := (h1.app0 (fed_13 m t _ c hc)).app0 (fed_10e m t p.length c (by omega) (by omega))
  unfold encK
  rw [if_neg h0]
  have h3 := h2.ends (by simp [endedK]) ((p ++ [13, 10]) ++ r)
  have e : told 16 p.length ++ [13, 10] ++ p ++ [13, 10] ++ r = (told 16 p.length ++ [13] ++ [10]) ++ ((p ++ [13, 10]) ++ r) := by simp
  rw [e, h3.1]
theorem fed_chunks : ∀ (ps : List B) (m t : Nat), (∀ p ∈ ps, p.length ≤ 1048576) → t + ps.flatten.length ≤ m → Fed (atK m t) (ps.flatMap encK) (atK m (t + ps.flatten.length)) ps.flatten
  | [], m, t, _, _ => Fed.nil _
  | p :: ps, m, t, hp, ht => by
    rw [List.flatten_cons, List.length_append] at ht
    have h1 := fed_chunk m t p (hp p (by simp)) (by omega)
    have h2 := fed_chunks ps m (t + p.length) (fun q hq => hp q (by simp [hq])) (by omega)
    rw [List.flatten_cons, List.flatMap_cons, List.length_append, ← Nat.add_assoc]
    exact h1.app h2
theorem fed_toomany : ∀ (ps : List B) (m t : Nat) (r : B), (∀ p ∈ ps, p.length ≤ 1048576) → t ≤ m → m < t + ps.flatten.length → (feedK (atK m t) (ps.flatMap encK ++ r)).err = 33
  | [], m, t, r, _, h1, h2 => by simp at h2; omega
  | p :: ps, m, t, r, hp, h1, h2 => by
    rw [List.flatten_cons, List.length_append] at h2
    rw [List.flatMap_cons, List.append_assoc]
    by_cases ht : t + p.length ≤ m
    · have h3 := fed_chunk m t p (hp p (by simp)) ht
      rw [(fk_app (encK p) (ps.flatMap encK ++ r) (atK m t)).1, h3.k]
      exact fed_toomany ps m (t + p.length) r (fun q hq => hp q (by simp [hq])) ht (by omega)
    · exact fed_much m t p (hp p (by simp)) h1 (by omega) _
/-- Behind the last size line: trailers so far, and how many bytes their lines have. -/
def trK (m t st : Nat) (tr : List (B × B)) (ln : Nat) (nm pt : B) : KS := ⟨m, t, 0, st, 0, 0, tr, ln, nm, pt⟩
theorem fed_zero (m t : Nat) : Fed (atK m t) [48, 13, 10] (trK m t 6 [] 0 [] []) [] := by
  have h1 : Fed (atK m t) [48] ⟨m, t, 0, 0, 0, 1, [], 0, [], []⟩ [] := by
    refine Fed.one (by simp [endedK, atK]) (by simp [atK]) ?_
    unfold byteK stepK cntK ofLinesK nextK ofSizeK judgeK atK
    simp [show hexU 48 = true by decide, show hexN 48 = 0 by decide]
  have h2 := fed_13 m t 0 1 (by omega)
  have h3 : Fed ⟨m, t, 0, 2, 0, 1, [], 0, [], []⟩ [10] (trK m t 6 [] 0 [] []) [] := by
    refine Fed.one (by simp [endedK]) (by simp) ?_
    unfold byteK stepK cntK ofLinesK nextK ofSizeEndK judgeK trK
    simp
  exact (h1.app0 h2).app0 h3
theorem fed_name : ∀ (l : B) (m t : Nat) (tr : List (B × B)) (ln : Nat) (nm pt : B), (∀ y ∈ l, tokU y = true) → ln + l.length ≤ 8192 → Fed (trK m t 7 tr ln nm pt) l (trK m t 7 tr (ln + l.length) nm (pt ++ l)) []
  | [], m, t, tr, ln, nm, pt, _, _ => by simpa using Fed.nil _
  | y :: l, m, t, tr, ln, nm, pt, h, hl => by
    rw [List.length_cons] at hl
    have hy := h y (by simp)
    have hne : y ≠ 58 := by rintro rfl; revert hy; decide
    have h1 : Fed (trK m t 7 tr ln nm pt) [y] (trK m t 7 tr (ln + 1) nm (pt ++ [y])) [] := by
      refine Fed.one (by simp [endedK, trK]) (by simp [trK]) ?_
      unfold byteK stepK cntK ofLinesK nextK ofNameK addK judgeK trK
      simp [hy, hne, show ¬ 8192 < ln + 1 by omega]
    have h2 := fed_name l m t tr (ln + 1) nm (pt ++ [y]) (fun z hz => h z (by simp [hz])) (by omega)
    have := h1.app0 h2
    rw [List.length_cons, show ln + (l.length + 1) = ln + 1 + l.length by omega]
    simpa using this
theorem fed_value : ∀ (l : B) (m t : Nat) (tr : List (B × B)) (ln : Nat) (nm pt : B), (∀ y ∈ l, valU y = true) → ln + l.length ≤ 8192 → Fed (trK m t 8 tr ln nm pt) l (trK m t 8 tr (ln + l.length) nm (pt ++ l)) []
  | [], m, t, tr, ln, nm, pt, _, _ => by simpa using Fed.nil _
  | y :: l, m, t, tr, ln, nm, pt, h, hl => by
    rw [List.length_cons] at hl
    have hy := h y (by simp)
    have hne : y ≠ 13 := by rintro rfl; revert hy; decide
    have h1 : Fed (trK m t 8 tr ln nm pt) [y] (trK m t 8 tr (ln + 1) nm (pt ++ [y])) [] := by
      refine Fed.one (by simp [endedK, trK]) (by simp [trK]) ?_
      unfold byteK stepK cntK ofLinesK nextK ofValueK addK judgeK trK
      simp [hy, hne, show ¬ 8192 < ln + 1 by omega]
    have h2 := fed_value l m t tr (ln + 1) nm (pt ++ [y]) (fun z hz => h z (by simp [hz])) (by omega)
    have := h1.app0 h2
    rw [List.length_cons, show ln + (l.length + 1) = ln + 1 + l.length by omega]
    simpa using this
theorem trim_sp (v : B) : trimL (32 :: v) = trimL v := by
  unfold trimL
  rw [List.dropWhile_cons, if_pos (by decide)]
/-- A trailer's line is read as it. -/
theorem fed_line (m t : Nat) (tr : List (B × B)) (ln : Nat) (nm0 : B) (f : B × B) (h1 : f.1 ≠ []) (h2 : ∀ y ∈ f.1, tokU y = true) (h3 : ∀ y ∈ f.2, valU y = true) (h4 : trimL f.2 = f.2) (htr : tr.length < 64) (hl : ln + (fieldW f).length ≤ 8192) : Fed (trK m t 6 tr ln nm0 []) (fieldW f) (trK m t 6 (tr ++ [f]) (ln + (fieldW f).length) f.1 []) [] := by
  obtain ⟨n, v⟩ := f
  dsimp only at *
  rw [fieldW_len] at hl
  dsimp only at hl
  cases n with
  | nil => exact absurd rfl h1
  | cons y l =>
    have hy := h2 y (by simp)
    have hne : y ≠ 13 := by rintro rfl; revert hy; decide
    rw [List.length_cons] at hl
    have a1 : Fed (trK m t 6 tr ln nm0 []) [y] (trK m t 7 tr (ln + 1) nm0 [y]) [] := by
      refine Fed.one (by simp [endedK, trK]) (by simp [trK]) ?_
      unfold byteK stepK cntK ofLinesK nextK ofFirstK addK judgeK trK
      simp [hy, hne, show ¬ 8192 < ln + 1 by omega, show ¬ tr.length = 64 by omega]
    have a2 := fed_name l m t tr (ln + 1) nm0 [y] (fun z hz => h2 z (by simp [hz])) (by omega)
    have a3 : Fed (trK m t 7 tr (ln + 1 + l.length) nm0 ([y] ++ l)) [58] (trK m t 8 tr (ln + 1 + l.length + 1) (y :: l) []) [] := by
      refine Fed.one (by simp [endedK, trK]) (by simp [trK]) ?_
      unfold byteK stepK cntK ofLinesK nextK ofNameK judgeK trK
      simp [show ¬ 8192 < ln + 1 + l.length + 1 by omega]
    have a4 := fed_value (32 :: v) m t tr (ln + 1 + l.length + 1) (y :: l) [] (fun z hz => by
      rcases List.mem_cons.1 hz with rfl | hz
      · decide
      · exact h3 z hz) (by rw [List.length_cons]; omega)
    rw [List.nil_append] at a4
    have a5 : Fed (trK m t 8 tr (ln + 1 + l.length + 1 + (32 :: v).length) (y :: l) (32 :: v)) [13] (trK m t 9 tr (ln + 1 + l.length + 1 + (32 :: v).length + 1) (y :: l) (32 :: v)) [] := by
      refine Fed.one (by simp [endedK, trK]) (by simp [trK]) ?_
      unfold byteK stepK cntK ofLinesK nextK ofValueK judgeK trK
      simp [show ¬ 8192 < ln + 1 + l.length + 1 + (v.length + 1) + 1 by omega]
    have a6 : Fed (trK m t 9 tr (ln + 1 + l.length + 1 + (32 :: v).length + 1) (y :: l) (32 :: v)) [10] (trK m t 6 (tr ++ [(y :: l, v)]) (ln + 1 + l.length + 1 + (32 :: v).length + 1 + 1) (y :: l) []) [] := by
      refine Fed.one (by simp [endedK, trK]) (by simp [trK]) ?_
      unfold byteK stepK cntK ofLinesK nextK ofLineEndK judgeK trK
      simp [show ¬ 8192 < ln + 1 + l.length + 1 + (v.length + 1) + 1 + 1 by omega, trim_sp, h4]
    have a7 := ((((a1.app0 a2).app0 a3).app0 a4).app0 a5).app0 a6
    have e : ln + 1 + l.length + 1 + (32 :: v).length + 1 + 1 = ln + (fieldW (y :: l, v)).length := by
      rw [fieldW_len]
      simp
      omega
    rw [e] at a7
    have e2 : [y] ++ l ++ [58] ++ (32 :: v) ++ [13] ++ [10] = fieldW (y :: l, v) := by unfold fieldW; simp
    rw [e2] at a7
    exact a7
def OkF (f : B × B) : Prop := f.1 ≠ [] ∧ (∀ y ∈ f.1, tokU y = true) ∧ (∀ y ∈ f.2, valU y = true) ∧ trimL f.2 = f.2
theorem fed_lines : ∀ (fs : List (B × B)) (m t : Nat) (tr : List (B × B)) (ln : Nat) (nm : B), (∀ f ∈ fs, OkF f) → tr.length + fs.length ≤ 64 → ln + (fs.flatMap fieldW).length ≤ 8192 → ∃ nm', Fed (trK m t 6 tr ln nm []) (fs.flatMap fieldW) (trK m t 6 (tr ++ fs) (ln + (fs.flatMap fieldW).length) nm' []) []
  | [], m, t, tr, ln, nm, _, _, _ => ⟨nm, by simpa using Fed.nil _⟩
  | f :: fs, m, t, tr, ln, nm, h, hn, hl => by
    rw [List.flatMap_cons, List.length_append] at hl
    rw [List.length_cons] at hn
    obtain ⟨b1, b2, b3, b4⟩ := h f (by simp)
    have a1 := fed_line m t tr ln nm f b1 b2 b3 b4 (by omega) (by omega)
    obtain ⟨nm', a2⟩ := fed_lines fs m t (tr ++ [f]) (ln + (fieldW f).length) f.1 (fun g hg => h g (by simp [hg])) (by simp; omega) (by omega)
    refine ⟨nm', ?_⟩
    have := a1.app0 a2
    rw [List.flatMap_cons, List.length_append, ← Nat.add_assoc]
    simpa using this
theorem fed_done (m t : Nat) (tr : List (B × B)) (ln : Nat) (hln : ln ≤ 8192) (nm : B) : Fed (trK m t 6 tr ln nm []) [13, 10] (trK m t 11 tr ln nm []) [] := by
  have h1 : Fed (trK m t 6 tr ln nm []) [13] (trK m t 10 tr ln nm []) [] := by
    refine Fed.one (by simp [endedK, trK]) (by simp [trK]) ?_
    unfold byteK stepK cntK ofLinesK nextK ofFirstK judgeK trK
    simp [show ¬ 8192 < ln by omega]
  have h2 : Fed (trK m t 10 tr ln nm []) [10] (trK m t 11 tr ln nm []) [] := by
    refine Fed.one (by simp [endedK, trK]) (by simp [trK]) ?_
    unfold byteK stepK cntK ofLinesK nextK onlyK judgeK trK
    simp [show ¬ 8192 < ln by omega]
  exact h1.app0 h2
theorem ok_of (f : B × B) (h : okK f = true) : OkF f := by
  unfold okK valK isTok allTo at h
  simp only [Bool.and_eq_true, decide_eq_true_eq] at h
  obtain ⟨⟨h1, h2⟩, h3, h4⟩ := h
  refine ⟨fun e => h1 (by rw [e]; rfl), ?_, by simpa using h3, h4⟩
  rw [str_size, List.take_of_length_le (by simp)] at h2
  intro y hy
  rw [List.all_eq_true] at h2
  exact h2 y (by simpa using hy)
/-- All of a body that was written is read. -/
theorem fed_whole (ps : List B) (hp : ∀ p ∈ ps, p.length ≤ 1048576) (fs : List (B × B)) (he : lastE fs = 0) (m : Nat) (hm : ps.flatten.length ≤ m) : ∃ s', Fed (newK m) (ps.flatMap encK ++ lastK fs) s' ps.flatten ∧ s'.err = 0 ∧ s'.st = 11 ∧ s'.tr = fs := by
  have hfb : fineK fs = true := by
    cases h : fineK fs with
    | true => rfl
    | false => unfold lastE at he; rw [h] at he; simp at he
  have hsm : (fs.flatMap fieldW).length ≤ 8192 := by
    rcases Nat.lt_or_ge 8192 (fs.flatMap fieldW).length with h | h
    · unfold lastE at he; rw [if_pos hfb, if_neg (by omega)] at he; simp at he
    · exact h
  unfold fineK at hfb
  rw [Bool.and_eq_true, decide_eq_true_eq, List.all_eq_true] at hfb
  obtain ⟨hn, ho⟩ := hfb
  have a1 := fed_chunks ps m 0 hp (by omega)
  rw [Nat.zero_add] at a1
  have a2 := fed_zero m ps.flatten.length
  obtain ⟨nm, a3⟩ := fed_lines fs m ps.flatten.length [] 0 [] (fun f hf => ok_of f (ho f hf)) (by simpa using hn) (by omega)
  have a4 := fed_done m ps.flatten.length ([] ++ fs) (0 + (fs.flatMap fieldW).length) (by omega) nm
  have a5 := a1.app ((a2.app0 a3).app0 a4)
  rw [List.append_nil] at a5
  exact ⟨_, a5, rfl, rfl, by simp [trK]⟩
theorem fed_over (ps : List B) (hp : ∀ p ∈ ps, p.length ≤ 1048576) (m : Nat) (hm : m < ps.flatten.length) (r : B) : (feedK (newK m) (ps.flatMap encK ++ r)).err = 33 := fed_toomany ps m 0 r hp (by omega) (by omega)
end Go.Proofs.YtllbdpiihiohoaaDoor
