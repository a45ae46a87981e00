/- The document's reader of chunked bodies: step, at any reader under way; a fresh reader. -/
import Derived.Test.YtnlmjlfoeodleaaGreatDoorDStep
import Derived.Test.YtnlmjlfoeodleaaGreatDoorDFns
namespace Go.Proofs.YtnlmjlfoeodleaaGreatDoor
open Go.RowKit

/-- What a reader under way must be. -/
structure OkD (d : DK) : Prop where
  st : d.st ≤ 7
  most : d.most ≤ 1099511627776
  len : d.len ≤ d.most
  size : d.size ≤ 1125899906842624
  d1 : d.st = 1 → d.digits ≠ 0
  m0 : d.st = 0 → d.more = 0
  m1 : d.more ≤ 256
  s3 : d.st = 3 → 0 < d.size ∧ d.size ≤ d.most - d.len
  b6 : d.st ≤ 6 → d.bytes ≤ 8192
  b7 : d.bytes ≤ 8193
  line : d.line.length ≤ d.bytes
  tr : d.tr.length ≤ 64
  trl : d.line ≠ [] → d.tr.length < 64
  has : d.st = 7 → d.line ≠ [] → hasD d = true
theorem stepd_any (d : DK) (lp tp : Option Addr) (ln lc tn tc : Nat) (c : UInt8) (w : World) (h : OkD d) (hl : d.line.length = ln) (ht : d.tr.length = tn) (hA : DkAt w d lp lc tp tc) : Calls Tryz.prog 71 #[.agg (dkC d (.slice lp ln lc) (.slice tp tn tc)), byteV c] w (AnsS (stepD d c) (decide (d.st = 3)) w) := by
  have h1 := h.st
  have hT : (d.st = 6 ∨ d.st = 7) → OkT d := fun e => ⟨e, by have := h.b7; omega, by have := h.b7; have := h.line; omega, by have := h.tr; omega, h.has⟩
  have hS : (d.st = 0 ∨ d.st = 1 ∨ d.st = 2) → OkS d := fun e => ⟨e, h.most, h.len, h.size, h.d1, h.m0, h.m1⟩
  by_cases e3 : d.st = 3
  · rw [decide_eq_true e3, show stepD d c = _ from by unfold stepD; rw [if_pos e3]]
    obtain ⟨hz, hzm⟩ := h.s3 e3
    have hm := h.most
    have hn := h.len
    by_cases hz1 : d.size = 1
    · rw [if_pos (by omega)]
      exact st_3a d lp tp ln lc tn tc c w hl ht hA e3 hz1 (by omega) (by omega)
    · rw [if_neg (by omega)]
      exact st_3b d lp tp ln lc tn tc c w hl ht hA e3 (by omega) (by omega) (by omega)
  · rw [decide_eq_false e3]
    by_cases e4 : d.st = 4
    · by_cases hc : c = 13
      · rw [show stepD d c = _ from by unfold stepD; rw [if_neg e3, if_pos e4, if_pos hc]]
        exact st_4a d lp tp ln lc tn tc c w hl ht hA e4 hc
      · rw [show stepD d c = _ from by unfold stepD; rw [if_neg e3, if_pos e4, if_neg hc]]
        exact st_4b d lp tp ln lc tn tc c w hl ht hA e4 hc
    · by_cases e5 : d.st = 5
      · by_cases hc : c = 10
        · rw [show stepD d c = _ from by unfold stepD; rw [if_neg e3, if_neg e4, if_pos e5, if_pos hc]]
          exact st_5a d lp tp ln lc tn tc c w hl ht hA e5 hc
        · rw [show stepD d c = _ from by unfold stepD; rw [if_neg e3, if_neg e4, if_pos e5, if_neg hc]]
          exact st_5b d lp tp ln lc tn tc c w hl ht hA e5 hc
      · by_cases e67 : d.st = 6 ∨ d.st = 7
        · rw [show stepD d c = trailD d c from by unfold stepD; rw [if_neg e3, if_neg e4, if_neg e5, if_pos e67]]
          rcases e67 with e | e
          · exact st_6 d lp tp ln lc tn tc c w hl ht hA e (hT (.inl e))
          · exact st_7 d lp tp ln lc tn tc c w hl ht hA e (hT (.inr e))
        · rw [show stepD d c = sizeD d c from by unfold stepD; rw [if_neg e3, if_neg e4, if_neg e5, if_neg e67]]
          have e012 : d.st = 0 ∨ d.st = 1 ∨ d.st = 2 := by omega
          have hk := hS e012
          rcases e012 with e | e | e
          · exact st_0 d lp tp ln lc tn tc c w hl ht hA e hk
          · exact st_1 d lp tp ln lc tn tc c w hl ht hA e hk
          · exact st_2 d lp tp ln lc tn tc c w hl ht hA e hk
theorem okD_new (m : Nat) (hm : m ≤ 1099511627776) : OkD (newD m) := by
  constructor <;> simp [newD, hm]
set_option maxRecDepth 20000 in
set_option maxHeartbeats 8000000 in
theorem newD_ok (m : Nat) (w : World) (hm : m ≤ 1099511627776) : Calls Tryz.prog 30 #[.int .i64 (m : Int)] w fun e w' => e = .returned (.tuple #[.agg (dkC (newD m) (.slice none 0 0) (.slice none 0 0)), .int .i64 0]) ∧ Below w.heap.size w w' := by
  unfold dkC newD
  dsimp only
  push_cast
  obtain ⟨M, hM⟩ : ∃ M : Int, (m : Int) = M := ⟨_, rfl⟩
  have h0 : ¬ M < 0 := by omega
  have h1 : ¬ (1099511627776 : Int) < M := by omega
  rw [hM]
  clear hM hm
  go_enter Tryz.func30, Tryz.ntmps30
  go_wp2
  refine bodyPost_ret (results_dk2 rfl _ _ _ 35 _ (0, 0) rfl (heap_alloc_new w _) rfl) rfl ?_
  exact ⟨rfl, below_new w _⟩
set_option maxRecDepth 20000 in
set_option maxHeartbeats 8000000 in
theorem newD_no (M : Int) (w : World) (hm : M < 0 ∨ (1099511627776 : Int) < M) : Calls Tryz.prog 30 #[.int .i64 M] w fun e w' => e = .returned (.tuple #[.agg (dkC (newD 0) (.slice none 0 0) (.slice none 0 0)), .int .i64 1]) ∧ Below w.heap.size w w' := by
  unfold dkC newD
  dsimp only
  push_cast
  go_enter Tryz.func30, Tryz.ntmps30
  rcases hm with h1 | h1
  · go_wp2
    refine bodyPost_ret (results_dk2 rfl _ _ _ 35 _ (0, 0) rfl (heap_alloc_new w _) rfl) rfl ?_
    exact ⟨rfl, below_new w _⟩
  · have h2 : ¬ M < 0 := by omega
    go_wp2
    refine bodyPost_ret (results_dk2 rfl _ _ _ 35 _ (0, 0) rfl (heap_alloc_new w _) rfl) rfl ?_
    exact ⟨rfl, below_new w _⟩
end Go.Proofs.YtnlmjlfoeodleaaGreatDoor
/- The document's reader of chunked bodies: what every byte keeps. -/
namespace Go.Proofs.YtnlmjlfoeodleaaGreatDoor
open Go.RowKit

theorem okD_size {d : DK} (h : OkD d) (e : d.st = 0 ∨ d.st = 1 ∨ d.st = 2) (c : UInt8) (hs : (sizeD d c).st ≤ 7) : OkD (sizeD d c) := by
  obtain ⟨k1, k2, k3, k4, k5, k6, k7, k8, k9, k10, k11, k12, k13, k14⟩ := h
  have kb : d.bytes ≤ 8192 := k9 (by omega)
  revert hs
  unfold sizeD
  split
  · split
    · intro hs; simp [failD] at hs
    · rename_i h1 h2
      intro _
      by_cases hz : d.size = 0
      · rw [if_pos hz]
        exact ⟨by simp, k2, k3, k4, by simp, by simp, k7, by simp, fun _ => kb, k10, k11, k12, k13, by simp⟩
      · rw [if_neg hz]
        exact ⟨by simp, k2, k3, k4, by simp, by simp, k7, fun _ => ⟨by dsimp only; omega, by dsimp only; omega⟩, fun _ => kb, k10, k11, k12, k13, by simp⟩
  · split
    · intro hs; simp [failD] at hs
    · split
      · rename_i h1 h2 h3
        intro _
        exact ⟨k1, k2, k3, by dsimp only; omega, fun e1 => by dsimp only at e1; omega, k6, k7, fun e1 => by dsimp only at e1; omega, k9, k10, k11, k12, k13, k14⟩
      · split
        · intro hs; simp [failD] at hs
        · rename_i h4
          split
          · intro _
            exact ⟨by simp, k2, k3, k4, by simp, by simp, k7, by simp, fun _ => kb, k10, k11, k12, k13, by simp⟩
          · split
            · split
              · intro hs; simp [failD] at hs
              · rename_i h6
                intro _
                exact ⟨by simp, k2, k3, k4, fun _ => h4, by simp, by dsimp only; omega, by simp, fun _ => kb, k10, k11, k12, k13, by simp⟩
            · intro hs; simp [failD] at hs
theorem okD_trail {d : DK} (h : OkD d) (e : d.st = 6 ∨ d.st = 7) (c : UInt8) (hs : (trailD d c).st ≤ 7) : OkD (trailD d c) := by
  obtain ⟨k1, k2, k3, k4, k5, k6, k7, k8, k9, k10, k11, k12, k13, k14⟩ := h
  revert hs
  unfold trailD
  split
  · intro hs; simp [failD] at hs
  · rename_i g1
    split
    · rename_i g7
      split
      · split
        · intro hs; simp at hs
        · rename_i g10 gl
          intro _
          have go : ¬ 8192 < d.bytes + 1 := fun ho => g1 ⟨ho, fun hl => gl hl.1⟩
          have gt := k13 gl
          exact ⟨by simp, k2, k3, k4, by simp, by simp, k7, by simp, fun _ => by simp only [cntD]; omega, by simp only [cntD]; omega, by simp, by simp; omega, by simp, by simp⟩
      · intro hs; simp [failD] at hs
    · rename_i g7
      have e6 : d.st = 6 := by omega
      have kb : d.bytes ≤ 8192 := k9 (by omega)
      split
      · rename_i g13
        split
        · intro hs; simp [failD] at hs
        · rename_i gh
          intro _
          exact ⟨by simp, k2, k3, k4, by simp, by simp, k7, by simp, by simp, by simp only [cntD]; omega, by simp only [cntD]; omega, k12, k13, fun _ hl => by
            show hasD d = true
            cases hh : hasD d with
            | true => rfl
            | false => exact absurd ⟨hh, hl⟩ gh⟩
      · rename_i g13
        split
        · intro hs; simp [failD] at hs
        · rename_i gb
          intro _
          have gl : ¬ lastD d c := fun hl => by rcases hl.2 with h | h; exact g7 h; exact g13 h
          have go : ¬ 8192 < d.bytes + 1 := fun ho => g1 ⟨ho, gl⟩
          have gt : d.tr.length < 64 := by
            by_cases hl : d.line = []
            · have : d.tr.length ≠ 64 := fun e9 => gb (.inr (.inr (.inr ⟨hl, e9⟩)))
              omega
            · exact k13 hl
          exact ⟨k1, k2, k3, k4, k5, k6, k7, k8, fun _ => by simp only [cntD]; omega, by simp only [cntD]; omega, by simp only [cntD, List.length_append, List.length_singleton]; omega, k12, fun _ => gt, fun e9 => absurd e9 g7⟩
theorem okD_step {d : DK} (h : OkD d) (c : UInt8) (hs : (stepD d c).st ≤ 7) : OkD (stepD d c) := by
  have h' := h
  obtain ⟨k1, k2, k3, k4, k5, k6, k7, k8, k9, k10, k11, k12, k13, k14⟩ := h
  revert hs
  unfold stepD
  split
  · rename_i e3
    intro _
    obtain ⟨hz, hzm⟩ := k8 e3
    have kb := k9 (by omega)
    by_cases hz1 : d.size - 1 = 0
    · rw [if_pos hz1]
      exact ⟨by simp, k2, by dsimp only; omega, by dsimp only; omega, by simp, by simp, k7, by simp, fun _ => kb, k10, k11, k12, k13, by simp⟩
    · rw [if_neg hz1]
      exact ⟨by simp, k2, by dsimp only; omega, by dsimp only; omega, by simp, by simp, k7, fun _ => ⟨by dsimp only; omega, by dsimp only; omega⟩, fun _ => kb, k10, k11, k12, k13, by simp⟩
  · split
    · rename_i e4
      have kb := k9 (by omega)
      split
      · intro _
        exact ⟨by simp, k2, k3, k4, by simp, by simp, k7, by simp, fun _ => kb, k10, k11, k12, k13, by simp⟩
      · intro hs; simp [failD] at hs
    · split
      · rename_i e5
        have kb := k9 (by omega)
        split
        · intro _
          exact ⟨by simp, k2, k3, by simp, by simp, by simp, by simp, by simp, fun _ => kb, k10, k11, k12, k13, by simp⟩
        · intro hs; simp [failD] at hs
      · split
        · rename_i e67
          exact okD_trail h' e67 c
        · exact okD_size h' (by omega) c
/-- The document's reader fed: the reader, how many bytes it took, the body's bytes. -/
def endD (d : DK) : Prop := d.st = 8 ∨ d.st = 9
instance (d : DK) : Decidable (endD d) := by unfold endD; infer_instance
def feedD (d : DK) : B → DK × Nat × B
  | [] => (d, 0, [])
  | c :: l => if endD d then (d, 0, []) else ((feedD (stepD d c) l).1, (feedD (stepD d c) l).2.1 + 1, (if d.st = 3 then [c] else []) ++ (feedD (stepD d c) l).2.2)
end Go.Proofs.YtnlmjlfoeodleaaGreatDoor
/- The document's reader of chunked bodies, fed, goes with the program's. -/
namespace Go.Proofs.YtnlmjlfoeodleaaGreatDoor
open Go.RowKit

theorem fd_ended {d : DK} (h : endD d) : ∀ l : B, feedD d l = (d, 0, [])
  | [] => rfl
  | c :: l => by unfold feedD; rw [if_pos h]
theorem fd_cons {d : DK} (h : ¬ endD d) (c : UInt8) (l : B) : feedD d (c :: l) = ((feedD (stepD d c) l).1, (feedD (stepD d c) l).2.1 + 1, (if d.st = 3 then [c] else []) ++ (feedD (stepD d c) l).2.2) := by
  conv => lhs; unfold feedD
  rw [if_neg h]
theorem rel_end {s : KS} {d : DK} (h : RelD s d) (hi : InvK s) : endD d ↔ endedK s = true := by
  unfold endD endedK
  rw [Bool.or_eq_true, decide_eq_true_iff, decide_eq_true_iff]
  by_cases he : s.err = 0
  · obtain ⟨_, hS⟩ := h.ok he
    have hst := hi.st
    unfold StD at hS
    have : s.st = 0 ∨ s.st = 1 ∨ s.st = 2 ∨ s.st = 3 ∨ s.st = 4 ∨ s.st = 5 ∨ s.st = 6 ∨ s.st = 7 ∨ s.st = 8 ∨ s.st = 9 ∨ s.st = 10 ∨ s.st = 11 := by omega
    rcases this with e | e | e | e | e | e | e | e | e | e | e | e <;> simp only [e] at hS <;> first | (have h9 := hS.1; simp [he, e, h9]) | simp [he, e, hS]
  · have := (h.bad he).1
    simp [he, this]
theorem rel_three {s : KS} {d : DK} (h : RelD s d) (hi : InvK s) (hn : endedK s = false) : d.st = 3 ↔ s.st = 3 := by
  obtain ⟨he, h11⟩ := ended_parts hn
  obtain ⟨_, hS⟩ := h.ok he
  have hst := hi.st
  unfold StD at hS
  have : s.st = 0 ∨ s.st = 1 ∨ s.st = 2 ∨ s.st = 3 ∨ s.st = 4 ∨ s.st = 5 ∨ s.st = 6 ∨ s.st = 7 ∨ s.st = 8 ∨ s.st = 9 ∨ s.st = 10 := by omega
  rcases this with e | e | e | e | e | e | e | e | e | e | e <;> simp only [e] at hS <;> (have h9 := hS.1; omega)
theorem rel_feed : ∀ (l : B) {s : KS} {d : DK}, RelD s d → InvK s → (s.st < 6 → s.part = []) → RelD (feedK s l) (feedD d l).1 ∧ (feedD d l).2.1 = feedN s l ∧ (feedD d l).2.2 = feedB s l := by
  intro l
  induction l with
  | nil => exact fun h _ _ => ⟨h, rfl, rfl⟩
  | cons c l ih =>
    intro s d h hi hp
    cases hn : endedK s with
    | true =>
      rw [fd_ended ((rel_end h hi).2 hn), (fk_ended hn _).1, (fk_ended hn _).2.1, (fk_ended hn _).2.2]
      exact ⟨h, rfl, rfl⟩
    | false =>
      have hne : ¬ endD d := fun e => by rw [(rel_end h hi).1 e] at hn; cases hn
      have hp2 := part_nil [c] s hp
      rw [(fk_cons hn c []).1] at hp2
      obtain ⟨r1, r2, r3⟩ := ih (rel_byte h hi hn hp c) (hi.byte hn c) hp2
      rw [fd_cons hne, (fk_cons hn c l).1, (fk_cons hn c l).2.1, (fk_cons hn c l).2.2]
      refine ⟨r1, by dsimp only; rw [r2], ?_⟩
      dsimp only
      rw [r3]
      by_cases h3 : s.st = 3
      · rw [if_pos h3, if_pos ((rel_three h hi hn).2 h3)]
      · rw [if_neg h3, if_neg (fun e => h3 ((rel_three h hi hn).1 e))]
end Go.Proofs.YtnlmjlfoeodleaaGreatDoor
