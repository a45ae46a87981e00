/- What both readers tell of a head under way: the same request, the same response, the same errors. -/
import Derived.Test.YtfmkkkkdfkjdlaaDoorHPG
namespace Go.Proofs.YtfmkkkkdfkjdlaaDoor
open Go.RowKit

/-- What holds of both along the way. -/
structure Way (H : HS) (s : PS) : Prop where
  rel : Rel H s
  invH : InvH H
  invP : InvP s
  lines : ∀ z ∈ H.lines, z.length ≤ H.len
  de : H.done = true → H.err = 0
theorem byteH_de {h : HS} (c : UInt8) (hd : h.done = false) (he : h.err = 0) : (byteH h c).done = true → (byteH h c).err = 0 := by
  unfold byteH
  split
  · intro e; rw [hd] at e; cases e
  · split
    · split
      · split
        · intro _; exact he
        · intro e; rw [hd] at e; cases e
      · intro e; rw [hd] at e; cases e
    · split
      · intro e; rw [hd] at e; cases e
      · split
        · split
          · intro _; exact he
          · intro e; rw [hd] at e; cases e
        · split
          · intro _; exact he
          · intro e; rw [hd] at e; cases e
theorem feedH_de (l : B) : ∀ h : HS, (h.done = true → h.err = 0) → (feedH h l).done = true → (feedH h l).err = 0 := by
  induction l with
  | nil => intro h h1; exact h1
  | cons c l ih =>
    intro h h1
    unfold feedH
    split
    · exact h1
    · rename_i he
      have he' : endedH h = false := by simpa using he
      have := ended_of he'
      exact ih _ (byteH_de c this.1 this.2)
theorem Way.feed {H : HS} {s : PS} (h : Way H s) (l : B) : Way (feedH H l) (feedP s l) :=
  ⟨(feed_rel l H s h.rel).1, feedH_inv l H h.invH, feed_inv l h.invP, feedH_lines l H h.invH h.lines, feedH_de l H h.de⟩
theorem way_new (r : Bool) {m : Int} (hm : m ≤ 65536) : Way (newH r m) (newP r m) := ⟨rel_new r m, newH_inv hm, new_inv hm, newH_lines r m, fun e => by simp [newH] at e⟩
/-- What is told of a request, and the error's number. -/
structure ReqS where
  M : B
  T : B
  k : Int
  fs : List (B × B)
  e : Nat
def reqS (s : PS) : ReqS := if s.st = 11 ∧ s.resp = false then ⟨s.method, s.target, s.minor, s.fields, 0⟩ else ⟨[], [], 0, [], 8⟩
structure RespS where
  s : Int
  T : B
  k : Int
  fs : List (B × B)
  e : Nat
def respS (s : PS) : RespS := if s.st = 11 ∧ s.resp = true then ⟨s.status, s.reason, s.minor, s.fields, 0⟩ else ⟨0, [], 0, [], 8⟩
theorem preqS {F : Nat → Prop} {w : World} {g : Nat} {s : PS} (h : RdAt F w g s) (hi : InvP s) : Calls Tryd.prog 20 #[.pointer (some ⟨g, 0, none⟩)] w fun e w' => ∃ q d, e = .returned (.tuple #[.agg #[.string (str (reqS s).M), .string (str (reqS s).T), .int .i64 (reqS s).k, .slice q (reqS s).fs.length d], errOf (reqS s).e]) ∧ FAt w' q (reqS s).fs ∧ Below w.heap.size w w' := by
  by_cases hc : s.st = 11 ∧ s.resp = false
  · refine (req_yes h hc.1 hc.2 hi.fields).mono ?_
    rintro e w' ⟨v, rfl, ho, hb⟩
    obtain ⟨q, n2, d, rfl⟩ := own_slice3 ho
    have hn2 := sliceF_len ho
    unfold reqS
    rw [if_pos hc]
    exact ⟨q, d, by unfold reqC; rw [hn2], ho.fat, hb⟩
  · refine (req_no h hc).mono ?_
    rintro e w' ⟨rfl, hb⟩
    unfold reqS
    rw [if_neg hc]
    exact ⟨none, 0, rfl, fun j f h => by simp at h, hb⟩
theorem prespS {F : Nat → Prop} {w : World} {g : Nat} {s : PS} (h : RdAt F w g s) (hi : InvP s) : Calls Tryd.prog 21 #[.pointer (some ⟨g, 0, none⟩)] w fun e w' => ∃ q d, e = .returned (.tuple #[.agg #[.int .i64 (respS s).s, .string (str (respS s).T), .int .i64 (respS s).k, .slice q (respS s).fs.length d], errOf (respS s).e]) ∧ FAt w' q (respS s).fs ∧ Below w.heap.size w w' := by
  by_cases hc : s.st = 11 ∧ s.resp = true
  · refine (resp_yes h hc.1 hc.2 hi.fields).mono ?_
    rintro e w' ⟨v, rfl, ho, hb⟩
    obtain ⟨q, n2, d, rfl⟩ := own_slice3 ho
    have hn2 := sliceF_len ho
    unfold respS
    rw [if_pos hc]
    exact ⟨q, d, by unfold respC; rw [hn2], ho.fat, hb⟩
  · refine (resp_no h hc).mono ?_
    rintro e w' ⟨rfl, hb⟩
    unfold respS
    rw [if_neg hc]
    exact ⟨none, 0, rfl, fun j f h => by simp at h, hb⟩
/-- A head that is whole: both hold the same. -/
theorem Way.whole {H : HS} {s : PS} (h : Way H s) (hd : H.done = true) : s.st = 11 ∧ s.resp = H.resp ∧ ∃ x ls, H.lines = x :: ls ∧ FirstOk H.resp x s ∧ s.fields = ls.map fieldOf ∧ (∀ z ∈ ls, FldOk z) ∧ (∀ z ∈ H.lines, z.length ≤ 65536) ∧ H.lines.length ≤ 65 := by
  have he := h.de hd
  rcases h.rel with ⟨h1, _⟩ | ⟨h1, _, _, h4, h5, _, h7, h8, h9⟩ | u
  · exact absurd he h1
  · obtain ⟨x, ls, hx⟩ := List.exists_cons_of_ne_nil h7
    rw [hx] at h8
    obtain ⟨f1, f2, f3⟩ := h8
    exact ⟨h4, h5, x, ls, hx, f1, f2, f3, fun z hz => Nat.le_trans (h.lines z hz) (h.invH.len h1), h9⟩
  · rw [u.done] at hd; cases hd
theorem Way.under {H : HS} {s : PS} (h : Way H s) (hd : H.done = false) : s.st ≠ 11 := by
  rcases h.rel with ⟨_, h2⟩ | ⟨_, h2, _⟩ | u
  · rw [h2]; show (0 : Nat) ≠ 11; decide
  · rw [hd] at h2; cases h2
  · exact u.st
theorem Way.doneP {H : HS} {s : PS} (h : Way H s) : decide (s.st = 11) = H.done := by
  cases hd : H.done with
  | true => exact decide_eq_true (h.whole hd).1
  | false => exact decide_eq_false (h.under hd)
theorem dreqS {H : HS} {s : PS} (hw : Way H s) (v : Value) (b : Nat) (w : World) (ho : OwnS w b v H.lines) : Calls Tryd.prog 8 #[headV H v] w fun e w' => ∃ q d, e = .returned (.tuple #[.agg #[.string (str (reqS s).M), .string (str (reqS s).T), .int .i64 (reqS s).k, .slice q (reqS s).fs.length d], .int .i64 ((reqS s).e : Int)]) ∧ FAt w' q (reqS s).fs ∧ Below w.heap.size w w' := by
  by_cases hc : H.done = true ∧ H.resp = false
  · obtain ⟨h1, h2, x, ls, hx, f1, f2, f3, f4, f5⟩ := hw.whole hc.1
    rw [hc.2] at f1 h2
    unfold FirstOk at f1
    rw [if_neg (by simp)] at f1
    refine (rreqD_yes H v b w x ls hx ho hc.1 hc.2 f1.1 f3 f4 f5).mono ?_
    rintro e w' ⟨v', rfl, hf, hb⟩
    obtain ⟨q, n2, d, rfl⟩ := own_slice3 hf
    have hn2 := sliceF_len hf
    unfold reqS
    rw [if_pos ⟨h1, h2⟩]
    exact ⟨q, d, by rw [f1.2.1, f1.2.2.1, f1.2.2.2, f2, hn2]; rfl, by rw [f2]; exact hf.fat, hb⟩
  · have hn : ¬ (s.st = 11 ∧ s.resp = false) := by
      intro hq
      cases hd : H.done with
      | false => exact hw.under hd hq.1
      | true => exact hc ⟨hd, by rw [← (hw.whole hd).2.1]; exact hq.2⟩
    refine (rreqD_no H v b w ho (by cases hd : H.done with
      | false => exact .inl rfl
      | true => right; cases hr : H.resp with
        | true => rfl
        | false => exact absurd ⟨hd, hr⟩ hc)).mono ?_
    rintro e w' ⟨rfl, hb⟩
    unfold reqS
    rw [if_neg hn]
    exact ⟨none, 0, rfl, fun j f h => by simp at h, hb⟩
theorem drespS {H : HS} {s : PS} (hw : Way H s) (v : Value) (b : Nat) (w : World) (ho : OwnS w b v H.lines) : Calls Tryd.prog 10 #[headV H v] w fun e w' => ∃ q d, e = .returned (.tuple #[.agg #[.int .i64 (respS s).s, .string (str (respS s).T), .int .i64 (respS s).k, .slice q (respS s).fs.length d], .int .i64 ((respS s).e : Int)]) ∧ FAt w' q (respS s).fs ∧ Below w.heap.size w w' := by
  by_cases hc : H.done = true ∧ H.resp = true
  · obtain ⟨h1, h2, x, ls, hx, f1, f2, f3, f4, f5⟩ := hw.whole hc.1
    rw [hc.2] at f1 h2
    unfold FirstOk at f1
    rw [if_pos rfl] at f1
    refine (rrespD_yes H v b w x ls hx ho hc.1 hc.2 f1.1 f3 f4 f5).mono ?_
    rintro e w' ⟨v', rfl, hf, hb⟩
    obtain ⟨q, n2, d, rfl⟩ := own_slice3 hf
    have hn2 := sliceF_len hf
    unfold respS
    rw [if_pos ⟨h1, h2⟩]
    exact ⟨q, d, by rw [f1.2.1, f1.2.2.1, f1.2.2.2, f2, hn2]; rfl, by rw [f2]; exact hf.fat, hb⟩
  · have hn : ¬ (s.st = 11 ∧ s.resp = true) := by
      intro hq
      cases hd : H.done with
      | false => exact hw.under hd hq.1
      | true => exact hc ⟨hd, by rw [← (hw.whole hd).2.1]; exact hq.2⟩
    refine (rrespD_no H v b w ho (by cases hd : H.done with
      | false => exact .inl rfl
      | true => right; cases hr : H.resp with
        | false => rfl
        | true => exact absurd ⟨hd, hr⟩ hc)).mono ?_
    rintro e w' ⟨rfl, hb⟩
    unfold respS
    rw [if_neg hn]
    exact ⟨none, 0, rfl, fun j f h => by simp at h, hb⟩
end Go.Proofs.YtfmkkkkdfkjdlaaDoor
