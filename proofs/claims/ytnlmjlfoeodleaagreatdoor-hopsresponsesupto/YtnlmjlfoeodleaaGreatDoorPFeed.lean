/- The program's reader: it is fed. -/
import Derived.Test.YtnlmjlfoeodleaaGreatDoorPTake
namespace Go.Proofs.YtnlmjlfoeodleaaGreatDoor
open Go.RowKit

/-- What every reader keeps. -/
structure InvP (s : PS) : Prop where
  most : s.most ≤ 65536
  st : s.st ≤ 11
  part : s.part.length ≤ s.taken
  fields : s.fields.length ≤ 64
  low : s.err = 0 → s.taken ≤ 65536
  high : s.taken ≤ 65537
theorem keep_shape (s : PS) : (keepP s).part = [] ∧ (keepP s).most = s.most ∧ (keepP s).fields = s.fields ∧ (keepP s).err = s.err ∧ (keepP s).resp = s.resp := by
  by_cases h0 : s.st = 0
  · rw [keep0 h0]; exact ⟨rfl, rfl, rfl, rfl, rfl⟩
  by_cases h1 : s.st = 1
  · rw [keep1 h1]; exact ⟨rfl, rfl, rfl, rfl, rfl⟩
  by_cases h2 : s.st = 2 ∨ s.st = 3
  · rw [keep2 h2]; exact ⟨rfl, rfl, rfl, rfl, rfl⟩
  by_cases h4 : s.st = 4
  · rw [keep4 h4]; exact ⟨rfl, rfl, rfl, rfl, rfl⟩
  by_cases h5 : s.st = 5
  · rw [keep5 h5]; exact ⟨rfl, rfl, rfl, rfl, rfl⟩
  by_cases h7 : s.st = 7
  · rw [keep7 h7]; exact ⟨rfl, rfl, rfl, rfl, rfl⟩
  by_cases h8 : s.st = 8
  · rw [keep8 h8]; exact ⟨rfl, rfl, rfl, rfl, rfl⟩
  unfold keepP
  rw [if_neg h0, if_neg h1, if_neg h2, if_neg h4, if_neg h5, if_neg h7, if_neg h8]
  exact ⟨rfl, rfl, rfl, rfl, rfl⟩
/-- What a step leaves. -/
structure StepI (s s' : PS) : Prop where
  most : s'.most = s.most
  err : s'.err = s.err
  resp : s'.resp = s.resp
  st : s'.st ≤ 11
  part : s'.part.length ≤ s.part.length + 1
theorem row_inv {s s' : PS} {c x : UInt8} {may done : Bool} {n : Nat} (hn : n ≤ 11) (hs : s.st ≤ 11) (e : rowP s c may x done n = some s') : StepI s s' := by
  by_cases hx : c = x ∧ done = true
  · rw [row_end hx.1 hx.2] at e
    cases e
    obtain ⟨h1, h2, h3, h4, h5⟩ := keep_shape s
    exact ⟨h2, h4, h5, hn, by dsimp only; rw [h1]; simp⟩
  · cases hm : may with
    | false => rw [row_no hx hm] at e; cases e
    | true => rw [row_on hx hm] at e; cases e; exact ⟨rfl, rfl, rfl, hs, by simp⟩
theorem end_inv {s s' : PS} {c : UInt8} {n : Nat} (hn : n ≤ 11) (e : endP s c n = some s') : StepI s s' := by
  unfold endP at e
  by_cases hc : c = 10
  · rw [if_pos hc] at e; cases e; exact ⟨rfl, rfl, rfl, hn, by simp⟩
  · rw [if_neg hc] at e; cases e
theorem step_inv {s s' : PS} {c : UInt8} (hs : s.st ≤ 11) (e : stepP s c = some s') : StepI s s' := by
  by_cases h0 : s.st = 0
  · rw [step_0 c h0] at e; exact row_inv (by omega) hs e
  by_cases h1 : s.st = 1
  · rw [step_1 c h1] at e; exact row_inv (by omega) hs e
  by_cases h2 : s.st = 2
  · rw [step_2 c h2] at e; exact row_inv (by omega) hs e
  by_cases h3 : s.st = 3
  · rw [step_3 c h3] at e; exact row_inv (by omega) hs e
  by_cases h4 : s.st = 4
  · rw [step_4 c h4] at e; exact row_inv (by omega) hs e
  by_cases h5 : s.st = 5
  · rw [step_5 c h5] at e; exact row_inv (by omega) hs e
  by_cases h6 : s.st = 6
  · rw [step_6 c h6] at e; exact end_inv (by omega) e
  by_cases h7 : s.st = 7
  · rw [step_7 c h7] at e
    by_cases hc : s.part.length = 0 ∧ c = 13
    · rw [if_pos hc] at e; cases e; exact ⟨rfl, rfl, rfl, by simp, by simp⟩
    · rw [if_neg hc] at e; exact row_inv (by omega) hs e
  by_cases h8 : s.st = 8
  · rw [step_8 c h8] at e; exact row_inv (by omega) hs e
  by_cases h9 : s.st = 9
  · rw [step_9 c h9] at e; exact end_inv (by omega) e
  by_cases h10 : s.st = 10
  · rw [step_10 c h10] at e; exact end_inv (by omega) e
  unfold stepP at e
  rw [if_neg h0, if_neg h1, if_neg h2, if_neg h3, if_neg h4, if_neg h5, if_neg h6, if_neg h7, if_neg h8, if_neg h9, if_neg h10] at e
  cases e
theorem spoil_inv {t e : Nat} (he : e ≠ 0) (ht : t ≤ 65537) : InvP (spoilP t e) := ⟨by simp [spoilP], by simp [spoilP], by simp [spoilP], by simp [spoilP], fun h => absurd h he, ht⟩
theorem take_inv {s : PS} (c : UInt8) (h : InvP s) (hn : endedP s = false) : InvP (takeP s c) := by
  have hne : s.st ≠ 11 ∧ s.err = 0 := by unfold endedP at hn; simpa using hn
  have hlow := h.low hne.2
  by_cases hm : s.most < (s.taken : Int) + 1
  · rw [take_size hm]; exact spoil_inv (by decide) (by omega)
  · cases hs : stepP { s with taken := s.taken + 1 } c with
    | none => rw [take_none hm hs]; exact spoil_inv (fault_ne _) (by omega)
    | some s' =>
      by_cases h64 : 64 < s'.fields.length
      · rw [take_many hm hs h64]; exact spoil_inv (by decide) (by omega)
      · rw [take_some hm hs h64]
        have h1 := step_inv (s := { s with taken := s.taken + 1 }) h.st hs
        have h2 : s'.taken = s.taken + 1 := step_taken hs
        have hmo := h.most
        have hpa := h.part
        exact ⟨by rw [h1.most]; exact h.most, h1.st, by have := h1.part; dsimp only at this; omega, by omega, fun _ => by omega, by omega⟩
theorem feed_inv : ∀ (l : B) {s : PS}, InvP s → InvP (feedP s l)
  | [], _, h => h
  | c :: l, s, h => by
    unfold feedP
    split
    · exact h
    · rename_i hn
      exact feed_inv l (take_inv c h (by simpa using hn))
theorem feed_resp : ∀ (l : B) {s : PS}, s.st ≤ 11 → (feedP s l).err = 0 → (feedP s l).resp = s.resp
  | [], _, _, _ => rfl
  | c :: l, s, h11, he => by
    cases hs : endedP s with
    | true => rw [(feed_ended hs _).1]
    | false =>
      have e1 : feedP s (c :: l) = feedP (takeP s c) l := by rw [feedP, if_neg (by rw [hs]; simp)]
      rw [e1] at he ⊢
      rcases take_cases s c with ⟨e, h0, e2⟩ | e2
      · rw [e2, (feed_ended (spoil_ended h0) l).1] at he
        exact absurd he h0
      · have h1 := step_inv (s := { s with taken := s.taken + 1 }) h11 e2
        rw [feed_resp l h1.st he, h1.resp]
theorem new_inv {r : Bool} {m : Int} (hm : m ≤ 65536) : InvP (newP r m) := ⟨hm, by unfold newP; cases r <;> simp, by simp [newP], by simp [newP], fun _ => by simp [newP], by simp [newP]⟩
/-- Bytes that are handed in. -/
def ArgAt (w : World) (p : Option Addr) (l : B) : Prop := ∀ i y, l[i]? = some y → ∃ g o, p = some ⟨g, o, none⟩ ∧ w.cell? ⟨g, o + i, none⟩ = some (.int .u8 (y.toNat : Int))
def ArgOut (F : Nat → Prop) (p : Option Addr) (l : B) : Prop := ∀ a, p = some a → l ≠ [] → ¬ F a.block
theorem ArgAt.out {F : Nat → Prop} {w : World} {p : Option Addr} {l : B} (h : ArgAt w p l) (hF : ∀ k, F k → w.heap.size ≤ k) : ArgOut F p l := by
  intro a e hl hf
  cases l with
  | nil => exact hl rfl
  | cons y r =>
    obtain ⟨g, o, e2, hc⟩ := h 0 y rfl
    have := lt_of_cell hc
    rw [e] at e2
    have e3 := Option.some.inj e2
    have := hF _ hf
    rw [e3] at this
    dsimp only at this
    omega
theorem cell_only {F : Nat → Prop} {w w' : World} (h : Only F w w') {k o : Nat} {v : Value} (hk : ¬ F k) (hc : w.cell? ⟨k, o, none⟩ = some v) : w'.cell? ⟨k, o, none⟩ = some v := by
  have := h.block k (lt_of_cell hc) hk
  unfold World.cell? at hc ⊢
  rw [this]
  exact hc
theorem ArgAt.only {F : Nat → Prop} {w w' : World} {p : Option Addr} {l : B} (h : ArgAt w p l) (ho : Only F w w') (hp : ArgOut F p l) : ArgAt w' p l := by
  intro i y hi
  obtain ⟨g, o, e, hc⟩ := h i y hi
  exact ⟨g, o, e, cell_only ho (hp _ e (by rintro rfl; simp at hi)) hc⟩
theorem ArgAt.next {w w' : World} {p : Option Addr} {l : B} (h : ArgAt w p l) (hb : Below w.heap.size w w') : ArgAt w' p l := by
  intro i y hi
  obtain ⟨g, o, e, hc⟩ := h i y hi
  exact ⟨g, o, e, cell_keep hb hc⟩
theorem Own.arg {w : World} {N n c : Nat} {p : Option Addr} {l : B} (h : Own w N (.slice p n c) l) : ArgAt w p l := fun _ _ hi => h.at hi
def fedV (s : PS) (n : Nat) : Value := .tuple #[.int .i64 (n : Int), .bool (decide (s.st = 11)), errOf s.err]
theorem take_snocB {l : B} {i : Nat} {y : UInt8} (h : l[i]? = some y) : l.take (i + 1) = l.take i ++ [y] := by rw [List.take_add_one, h]; rfl
theorem feed_done {s : PS} {l : B} {i : Nat} (hn : feedN s (l.take i) = i) (he : endedP (feedP s (l.take i)) = true) : feedP s l = feedP s (l.take i) ∧ feedN s l = i := by
  have e1 := feed_app (l.take i) (l.drop i) s
  have e2 := feedN_app (l.take i) (l.drop i) s
  rw [List.take_append_drop] at e1 e2
  rw [(feed_ended he _).1] at e1
  rw [(feed_ended he _).2, hn] at e2
  exact ⟨e1, by omega⟩
theorem feed_more {s : PS} {l : B} {i : Nat} {y : UInt8} (hn : feedN s (l.take i) = i) (he : endedP (feedP s (l.take i)) = false) (hy : l[i]? = some y) : feedP s (l.take (i + 1)) = takeP (feedP s (l.take i)) y ∧ feedN s (l.take (i + 1)) = i + 1 := by
  rw [take_snocB hy, feed_app, feedN_app, hn]
  have h1 : ¬ endedP (feedP s (l.take i)) = true := by rw [he]; simp
  refine ⟨?_, ?_⟩
  · rw [feedP, if_neg h1]; rfl
  · rw [feedN, if_neg h1]; rfl
end Go.Proofs.YtnlmjlfoeodleaaGreatDoor
