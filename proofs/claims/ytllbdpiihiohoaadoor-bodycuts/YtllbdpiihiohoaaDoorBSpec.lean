/- Bodies read, in plain words: what a reader is behind each feed, and that cuts change nothing. -/
import Derived.Test.YtllbdpiihiohoaaDoorBFlds
namespace Go.Proofs.YtllbdpiihiohoaaDoor
open Go.RowKit

structure BS where
  kind : Nat
  room : Nat
  told : Nat
  done : Bool
  err : Nat
  ck : KS
def overX (s : BS) : Bool := s.done || decide (s.err ≠ 0)
/-- A reader fed with bytes: what it has become; how many it took; what they say. -/
def fedX (s : BS) (l : B) : BS :=
  if overX s = true then s
  else if s.kind = 2 then { s with told := s.told + (feedB s.ck l).length, done := decide ((feedK s.ck l).st = 11), err := (feedK s.ck l).err, ck := feedK s.ck l }
  else if s.kind = 1 then { s with room := s.room - l.length, told := s.told + min l.length s.room, done := decide (s.room ≤ l.length), err := 0 }
  else { s with room := s.room - l.length, told := s.told + min l.length s.room, done := false, err := if s.room < l.length then 33 else 0 }
def tookX (s : BS) (l : B) : Nat :=
  if overX s = true then 0 else if s.kind = 2 then feedN s.ck l else if s.kind = 1 then min l.length s.room else if s.room < l.length then s.room + 1 else l.length
def saidX (s : BS) (l : B) : B :=
  if overX s = true then [] else if s.kind = 2 then feedB s.ck l else l.take s.room
def shutX (s : BS) : BS := if overX s = true then s else if s.kind = 3 then { s with done := true } else { s with err := 32 }
def topX (m : Int) : Nat := if m = -1 then 9223372036854775807 else m.toNat
def newE (K N m : Int) : Nat := if ¬ (okFr K N = true ∧ -1 ≤ m) then 1 else if (topX m : Int) < N then 33 else 0
def newX (K N m : Int) : BS := ⟨K.toNat, if K = 1 then N.toNat else if K = 3 then topX m else 0, 0, decide (K = 0 ∨ (K = 1 ∧ N = 0)), 0, newK (min (topX m) 1099511627776)⟩
/-- What a reader always is. -/
structure InvX (s : BS) : Prop where
  kind : s.kind ≤ 3
  k0 : s.kind = 0 → s.done = true
  ck : s.kind = 2 → InvK s.ck ∧ s.told = s.ck.told
  room : s.kind ≠ 2 → s.told + s.room ≤ 9223372036854775807
theorem over_yes {s : BS} (h : overX s = true) (l : B) : fedX s l = s ∧ tookX s l = 0 ∧ saidX s l = [] := by
  unfold fedX tookX saidX
  simp only [if_pos h, and_self]
theorem over_no {s : BS} (h : overX s = false) : s.done = false ∧ s.err = 0 := by
  unfold overX at h
  simpa using h
theorem fed_2 {s : BS} (h : overX s = false) (h2 : s.kind = 2) (l : B) : fedX s l = { s with told := s.told + (feedB s.ck l).length, done := decide ((feedK s.ck l).st = 11), err := (feedK s.ck l).err, ck := feedK s.ck l } ∧ tookX s l = feedN s.ck l ∧ saidX s l = feedB s.ck l := by
  have hn : ¬ overX s = true := by rw [h]; decide
  unfold fedX tookX saidX
  simp only [if_neg hn, if_pos h2, and_self]
theorem fed_1 {s : BS} (h : overX s = false) (h1 : s.kind = 1) (l : B) : fedX s l = { s with room := s.room - l.length, told := s.told + min l.length s.room, done := decide (s.room ≤ l.length), err := 0 } ∧ tookX s l = min l.length s.room ∧ saidX s l = l.take s.room := by
  have hn : ¬ overX s = true := by rw [h]; decide
  have h2 : ¬ s.kind = 2 := by omega
  unfold fedX tookX saidX
  simp only [if_neg hn, if_neg h2, if_pos h1, and_self]
theorem fed_3 {s : BS} (h : overX s = false) (h2 : s.kind ≠ 2) (h1 : s.kind ≠ 1) (l : B) : fedX s l = { s with room := s.room - l.length, told := s.told + min l.length s.room, done := false, err := if s.room < l.length then 33 else 0 } ∧ tookX s l = (if s.room < l.length then s.room + 1 else l.length) ∧ saidX s l = l.take s.room := by
  have hn : ¬ overX s = true := by rw [h]; decide
  unfold fedX tookX saidX
  simp only [if_neg hn, if_neg h2, if_neg h1, and_self]
theorem over_ck {s : BS} (h : overX s = false) (h2 : s.kind = 2) (l : B) : overX (fedX s l) = endedK (feedK s.ck l) := by
  rw [(fed_2 h h2 l).1]
  unfold overX endedK
  simp only
  rw [Bool.or_comm]
/-- However cut, the same. -/
theorem cut_over {s : BS} {a : B} (h : overX (fedX s a) = true) (b : B) : fedX s (a ++ b) = fedX s a ∧ tookX s (a ++ b) = tookX s a ∧ saidX s (a ++ b) = saidX s a := by
  cases hn : overX s with
  | true =>
    obtain ⟨h1, h2, h3⟩ := over_yes hn (a ++ b)
    obtain ⟨k1, k2, k3⟩ := over_yes hn a
    rw [h1, h2, h3, k1, k2, k3]
    exact ⟨rfl, rfl, rfl⟩
  | false =>
    by_cases e2 : s.kind = 2
    · rw [over_ck hn e2] at h
      obtain ⟨h1, h2, h3⟩ := fed_2 hn e2 (a ++ b)
      obtain ⟨k1, k2, k3⟩ := fed_2 hn e2 a
      obtain ⟨f1, f2, f3⟩ := fk_app a b s.ck
      obtain ⟨g1, g2, g3⟩ := fk_ended h b
      rw [g1] at f1
      rw [g2, Nat.add_zero] at f2
      rw [g3, List.append_nil] at f3
      rw [h1, h2, h3, k1, k2, k3, f1, f2, f3]
      exact ⟨rfl, rfl, rfl⟩
    · by_cases e1 : s.kind = 1
      · obtain ⟨h1, h2, h3⟩ := fed_1 hn e1 (a ++ b)
        obtain ⟨k1, k2, k3⟩ := fed_1 hn e1 a
        rw [k1] at h
        have hr : s.room ≤ a.length := by unfold overX at h; simpa using h
        rw [h1, h2, h3, k1, k2, k3, List.length_append]
        have e : decide (s.room ≤ a.length + b.length) = decide (s.room ≤ a.length) := decide_eq_decide.2 (by omega)
        refine ⟨?_, by omega, List.take_append_of_le_length hr⟩
        rw [e, show s.room - (a.length + b.length) = s.room - a.length from by omega, show min (a.length + b.length) s.room = min a.length s.room from by omega]
      · obtain ⟨h1, h2, h3⟩ := fed_3 hn e2 e1 (a ++ b)
        obtain ⟨k1, k2, k3⟩ := fed_3 hn e2 e1 a
        rw [k1] at h
        have hr : s.room < a.length := by unfold overX at h; simpa using h
        rw [h1, h2, h3, k1, k2, k3, List.length_append, if_pos hr, if_pos (show s.room < a.length + b.length from by omega), if_pos hr, if_pos (show s.room < a.length + b.length from by omega)]
        refine ⟨?_, rfl, List.take_append_of_le_length (by omega)⟩
        rw [show s.room - (a.length + b.length) = s.room - a.length from by omega, show min (a.length + b.length) s.room = min a.length s.room from by omega]
theorem cut_on {s : BS} {a : B} (h : overX (fedX s a) = false) (b : B) : fedX s (a ++ b) = fedX (fedX s a) b ∧ tookX s (a ++ b) = tookX s a + tookX (fedX s a) b ∧ saidX s (a ++ b) = saidX s a ++ saidX (fedX s a) b := by
  cases hn : overX s with
  | true =>
    rw [(over_yes hn a).1, hn] at h
    cases h
  | false =>
    by_cases e2 : s.kind = 2
    · have hk := over_ck hn e2 a
      rw [h] at hk
      obtain ⟨h1, h2, h3⟩ := fed_2 hn e2 (a ++ b)
      obtain ⟨k1, k2, k3⟩ := fed_2 hn e2 a
      obtain ⟨f1, f2, f3⟩ := fk_app a b s.ck
      obtain ⟨g1, g2, g3⟩ := fed_2 h (by rw [k1]; exact e2) b
      rw [g1, g2, g3, h1, h2, h3, k2, k3, k1, f1, f2, f3]
      simp only [List.length_append, Nat.add_assoc, and_self]
    · by_cases e1 : s.kind = 1
      · obtain ⟨h1, h2, h3⟩ := fed_1 hn e1 (a ++ b)
        obtain ⟨k1, k2, k3⟩ := fed_1 hn e1 a
        obtain ⟨g1, g2, g3⟩ := fed_1 h (by rw [k1]; exact e1) b
        rw [k1] at h
        have hr : a.length < s.room := by unfold overX at h; simpa using h
        rw [g1, g2, g3, h1, h2, h3, k2, k3, k1]
        simp only [List.length_append]
        refine ⟨?_, by omega, ?_⟩
        · have e : decide (s.room ≤ a.length + b.length) = decide (s.room - a.length ≤ b.length) := decide_eq_decide.2 (by omega)
          rw [e, show s.room - (a.length + b.length) = s.room - a.length - b.length from by omega, show s.told + min (a.length + b.length) s.room = s.told + min a.length s.room + min b.length (s.room - a.length) from by omega]
        · rw [List.take_append, List.take_of_length_le (l := a) (by omega)]
      · obtain ⟨h1, h2, h3⟩ := fed_3 hn e2 e1 (a ++ b)
        obtain ⟨k1, k2, k3⟩ := fed_3 hn e2 e1 a
        obtain ⟨g1, g2, g3⟩ := fed_3 h (by rw [k1]; exact e2) (by rw [k1]; exact e1) b
        rw [k1] at h
        have hr : ¬ s.room < a.length := by unfold overX at h; simpa using h
        rw [g1, g2, g3, h1, h2, h3, k2, k3, k1]
        simp only [List.length_append, if_neg hr]
        refine ⟨?_, ?_, ?_⟩
        · have e : (if s.room < a.length + b.length then 33 else 0) = (if s.room - a.length < b.length then 33 else 0) := by
            by_cases hh : s.room < a.length + b.length
            · rw [if_pos hh, if_pos (by omega)]
            · rw [if_neg hh, if_neg (by omega)]
          rw [e, show s.room - (a.length + b.length) = s.room - a.length - b.length from by omega, show s.told + min (a.length + b.length) s.room = s.told + min a.length s.room + min b.length (s.room - a.length) from by omega]
        · by_cases hh : s.room < a.length + b.length
          · rw [if_pos hh, if_pos (by omega)]; omega
          · rw [if_neg hh, if_neg (by omega)]
        · rw [List.take_append, List.take_of_length_le (l := a) (by omega)]
theorem said_len {s : BS} (l : B) : (saidX s l).length ≤ l.length ∨ s.kind = 2 := by
  by_cases e2 : s.kind = 2
  · exact .inr e2
  · refine .inl ?_
    unfold saidX
    split
    · simp
    · (try rw [if_neg e2]); rw [List.length_take]; omega
theorem new_parts {K N m : Int} (h : newE K N m = 0) : okFr K N = true ∧ -1 ≤ m ∧ N ≤ (topX m : Int) := by
  unfold newE at h
  by_cases h0 : okFr K N = true ∧ -1 ≤ m
  · rw [if_neg (fun h9 => h9 h0)] at h
    refine ⟨h0.1, h0.2, ?_⟩
    by_cases h1 : (topX m : Int) < N
    · rw [if_pos h1] at h; cases h
    · omega
  · rw [if_pos h0] at h; cases h
theorem top_le {m : Int} (h : m ≤ 9223372036854775807) : topX m ≤ 9223372036854775807 := by unfold topX; split <;> omega
theorem inv_new {K N m : Int} (h : newE K N m = 0) (h9 : m ≤ 9223372036854775807) : InvX (newX K N m) := by
  obtain ⟨hk, hm, hN⟩ := new_parts h
  have hk := of_decide_eq_true hk
  have hi : InvK (newK (min (topX m) 1099511627776)) := invK_new (by omega)
  have ht := top_le h9
  refine ⟨?_, ?_, ?_, ?_⟩
  · show K.toNat ≤ 3
    omega
  · intro e
    have e : K.toNat = 0 := e
    show decide _ = true
    exact decide_eq_true (.inl (by omega))
  · intro e
    exact ⟨hi, rfl⟩
  · intro e
    show 0 + (if K = 1 then N.toNat else if K = 3 then topX m else 0) ≤ 9223372036854775807
    split
    · omega
    · split <;> omega
theorem inv_fed {s : BS} (h : InvX s) (l : B) : InvX (fedX s l) := by
  cases hn : overX s with
  | true => rw [(over_yes hn l).1]; exact h
  | false =>
    by_cases e2 : s.kind = 2
    · rw [(fed_2 hn e2 l).1]
      obtain ⟨c1, c2⟩ := h.ck e2
      refine ⟨h.kind, fun e => ?_, fun _ => ⟨feed_inv l c1, ?_⟩, fun e => absurd e2 e⟩
      · have e : s.kind = 0 := e
        omega
      · show s.told + (feedB s.ck l).length = (feedK s.ck l).told
        have := fk_told l s.ck
        omega
    · have hd := (over_no hn).1
      have hr := h.room e2
      by_cases e1 : s.kind = 1
      · rw [(fed_1 hn e1 l).1]
        refine ⟨h.kind, fun e => ?_, fun e => absurd e e2, fun _ => ?_⟩
        · have e : s.kind = 0 := e
          omega
        · show s.told + min l.length s.room + (s.room - l.length) ≤ 9223372036854775807
          omega
      · rw [(fed_3 hn e2 e1 l).1]
        refine ⟨h.kind, fun e => ?_, fun e => absurd e e2, fun _ => ?_⟩
        · have := h.k0 e
          rw [hd] at this
          cases this
        · show s.told + min l.length s.room + (s.room - l.length) ≤ 9223372036854775807
          omega
theorem inv_shut {s : BS} (h : InvX s) : InvX (shutX s) := by
  unfold shutX
  split
  · exact h
  · split
    · exact ⟨h.kind, fun _ => rfl, h.ck, h.room⟩
    · exact ⟨h.kind, h.k0, h.ck, h.room⟩
end Go.Proofs.YtllbdpiihiohoaaDoor
