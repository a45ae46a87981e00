/- What both readers tell of all bytes: the same request, the same response, the same length, the same error. -/
import Derived.Test.YtfmkkkkdfkjdlaaDoorHParse
import Derived.Test.YtfmkkkkdfkjdlaaDoorLFns
namespace Go.Proofs.YtfmkkkkdfkjdlaaDoor
open Go.RowKit

theorem byteH_lines {h : HS} (c : UInt8) (h1 : ∀ z ∈ h.lines, z.length ≤ h.len) (h2 : h.line.length ≤ h.len) : ∀ z ∈ (byteH h c).lines, z.length ≤ (byteH h c).len := by
  have up : ∀ z ∈ h.lines, z.length ≤ h.len + 1 := fun z hz => Nat.le_succ_of_le (h1 z hz)
  unfold byteH
  split
  · exact up
  · split
    · split
      · split
        · exact up
        · intro z hz
          rcases List.mem_append.1 hz with q | q
          · exact up z q
          · obtain rfl := List.mem_singleton.1 q
            show h.line.dropLast.length ≤ h.len + 1
            rw [List.length_dropLast]
            omega
      · exact up
    · split
      · exact up
      · split
        · split
          · exact up
          · exact up
        · split
          · exact up
          · exact up
theorem feedH_lines (l : B) : ∀ h : HS, InvH h → (∀ z ∈ h.lines, z.length ≤ h.len) → ∀ z ∈ (feedH h l).lines, z.length ≤ (feedH h l).len := by
  induction l with
  | nil => intro h _ h1; exact h1
  | cons c l ih =>
    intro h hi h1
    unfold feedH
    split
    · exact h1
    · exact ih _ (byteH_inv c hi) (byteH_lines c h1 hi.line)
theorem newH_lines (r : Bool) (m : Int) : ∀ z ∈ (newH r m).lines, z.length ≤ (newH r m).len := fun z hz => by simp [newH] at hz
/-- What is told of a request: method, target, minor, fields, length. -/
structure Req9 where
  M : B
  T : B
  k : Int
  fs : List (B × B)
  tk : Nat
def reqOf (l : B) (m : Int) : Req9 := if parseE false l m = 0 then ⟨(feedP (newP false m) l).method, (feedP (newP false m) l).target, (feedP (newP false m) l).minor, (feedP (newP false m) l).fields, (feedP (newP false m) l).taken⟩ else ⟨[], [], 0, [], 0⟩
structure Resp9 where
  s : Int
  T : B
  k : Int
  fs : List (B × B)
  tk : Nat
def respOf (l : B) (m : Int) : Resp9 := if parseE true l m = 0 then ⟨(feedP (newP true m) l).status, (feedP (newP true m) l).reason, (feedP (newP true m) l).minor, (feedP (newP true m) l).fields, (feedP (newP true m) l).taken⟩ else ⟨0, [], 0, [], 0⟩
theorem parseE_in {r : Bool} {l : B} {m : Int} (h : 1 ≤ m ∧ m ≤ 65536) : parseE r l m = allE (feedP (newP r m) l) := by unfold parseE; rw [if_pos h]
theorem parseE_out {r : Bool} {l : B} {m : Int} (h : ¬ (1 ≤ m ∧ m ≤ 65536)) : parseE r l m = 1 := by unfold parseE; rw [if_neg h]
theorem parseE_zero {r : Bool} {l : B} {m : Int} (h : parseE r l m = 0) : (1 ≤ m ∧ m ≤ 65536) ∧ allE (feedP (newP r m) l) = 0 := by
  by_cases hm : 1 ≤ m ∧ m ≤ 65536
  · exact ⟨hm, by rw [← parseE_in hm]; exact h⟩
  · rw [parseE_out hm] at h; cases h
theorem preq_gen (l : B) (p : Option Addr) (n c : Nat) (m : Int) (w : World) (hn : l.length = n) (ha : ArgAt w p l) (hl : n ≤ 140737488355328) : Calls Tryd.prog 6 #[.slice p n c, .int .i64 m] w fun e w' => ∃ q d, e = .returned (.tuple #[.agg #[.string (str (reqOf l m).M), .string (str (reqOf l m).T), .int .i64 (reqOf l m).k, .slice q (reqOf l m).fs.length d], .int .i64 ((reqOf l m).tk : Int), errOf (parseE false l m)]) ∧ FAt w' q (reqOf l m).fs ∧ Below w.heap.size w w' := by
  by_cases h0 : parseE false l m = 0
  · obtain ⟨hm, he⟩ := parseE_zero h0
    refine (parse_req_ok l p n c m w hn ha hl hm he).mono ?_
    rintro e w' ⟨v, rfl, ho, hb⟩
    obtain ⟨q, n2, d, rfl⟩ := own_slice3 ho
    have hn2 := sliceF_len ho
    unfold reqOf
    rw [if_pos h0, h0]
    exact ⟨q, d, by unfold reqC; rw [hn2], ho.fat, hb⟩
  · unfold reqOf
    rw [if_neg h0]
    by_cases hm : 1 ≤ m ∧ m ≤ 65536
    · rw [parseE_in hm] at h0 ⊢
      refine (parse_req_err l p n c m w hn ha hl hm h0).mono ?_
      rintro e w' ⟨rfl, hb⟩
      exact ⟨none, 0, rfl, fun j f h => by simp at h, hb⟩
    · rw [parseE_out hm]
      refine (parse_req_arg _ m w hm).mono ?_
      rintro e w' ⟨rfl, hb⟩
      exact ⟨none, 0, rfl, fun j f h => by simp at h, hb⟩
theorem presp_gen (l : B) (p : Option Addr) (n c : Nat) (m : Int) (w : World) (hn : l.length = n) (ha : ArgAt w p l) (hl : n ≤ 140737488355328) : Calls Tryd.prog 9 #[.slice p n c, .int .i64 m] w fun e w' => ∃ q d, e = .returned (.tuple #[.agg #[.int .i64 (respOf l m).s, .string (str (respOf l m).T), .int .i64 (respOf l m).k, .slice q (respOf l m).fs.length d], .int .i64 ((respOf l m).tk : Int), errOf (parseE true l m)]) ∧ FAt w' q (respOf l m).fs ∧ Below w.heap.size w w' := by
  by_cases h0 : parseE true l m = 0
  · obtain ⟨hm, he⟩ := parseE_zero h0
    refine (parse_resp_ok l p n c m w hn ha hl hm he).mono ?_
    rintro e w' ⟨v, rfl, ho, hb⟩
    obtain ⟨q, n2, d, rfl⟩ := own_slice3 ho
    have hn2 := sliceF_len ho
    unfold respOf
    rw [if_pos h0, h0]
    exact ⟨q, d, by unfold respC; rw [hn2], ho.fat, hb⟩
  · unfold respOf
    rw [if_neg h0]
    by_cases hm : 1 ≤ m ∧ m ≤ 65536
    · rw [parseE_in hm] at h0 ⊢
      refine (parse_resp_err l p n c m w hn ha hl hm h0).mono ?_
      rintro e w' ⟨rfl, hb⟩
      exact ⟨none, 0, rfl, fun j f h => by simp at h, hb⟩
    · rw [parseE_out hm]
      refine (parse_resp_arg _ m w hm).mono ?_
      rintro e w' ⟨rfl, hb⟩
      exact ⟨none, 0, rfl, fun j f h => by simp at h, hb⟩
/-- The head that the document's Parse hands out. -/
def HeadOf (r : Bool) (l : B) (m : Int) (H : HS) : Prop := (parseE r l m = 0 ∧ H = feedH (newH r m) l) ∨ (parseE r l m ≠ 0 ∧ H = newH false 0)
def tkOf (r : Bool) (l : B) (m : Int) : Nat := if parseE r l m = 0 then (feedP (newP r m) l).taken else 0
theorem tk_req (l : B) (m : Int) : tkOf false l m = (reqOf l m).tk := by unfold tkOf reqOf; split <;> rfl
theorem tk_resp (l : B) (m : Int) : tkOf true l m = (respOf l m).tk := by unfold tkOf respOf; split <;> rfl
theorem dparse_gen (r : Bool) (l : B) (p : Option Addr) (n c : Nat) (m : Int) (w : World) (hn : l.length = n) (ha : ArgAt w p l) (hl : n ≤ 140737488355328) : Calls Tryd.prog 7 #[.bool r, .slice p n c, .int .i64 m] w fun e w' => ∃ H v, e = .returned (.tuple #[headV H v, .int .i64 (tkOf r l m : Int), .int .i64 (parseE r l m : Int)]) ∧ OwnS w' w.heap.size v H.lines ∧ HeadOf r l m H ∧ Below w.heap.size w w' := by
  by_cases hm : 1 ≤ m ∧ m ≤ 65536
  · obtain ⟨R, hN⟩ := feed_rel l (newH r m) (newP r m) (rel_new r m)
    have hE := parseE_in (r := r) (l := l) hm
    have hRe := R.err
    by_cases he : (feedH (newH r m) l).err = 0
    · cases hd : (feedH (newH r m) l).done with
      | true =>
        have h11 : (feedP (newP r m) l).st = 11 := by have := R.whole he; rw [hd] at this; exact of_decide_eq_true this
        have h0 : parseE r l m = 0 := by rw [hE]; unfold allE; rw [hRe, he, h11]; rfl
        refine (rparse_ok r l p n c hn m w hm ha hl he hd).mono ?_
        rintro e w' ⟨v, rfl, ho, hb⟩
        refine ⟨_, v, ?_, ho, .inl ⟨h0, rfl⟩, hb⟩
        unfold tkOf
        rw [if_pos h0, h0, hN, feed_taken]
        simp [newP]
      | false =>
        have h11 : (feedP (newP r m) l).st ≠ 11 := by have := R.whole he; rw [hd] at this; exact of_decide_eq_false this
        have h0 : parseE r l m = 32 := by rw [hE]; unfold allE; rw [hRe, he, if_neg (by simp), if_neg h11]
        refine (rparse_end r l p n c hn m w hm ha hl he hd).mono ?_
        rintro e w' ⟨rfl, hb⟩
        exact ⟨newH false 0, .slice none 0 0, by unfold tkOf; rw [h0]; rfl, OwnS.nil _ _, .inr ⟨by rw [h0]; decide, rfl⟩, hb⟩
    · have h0 : parseE r l m = (feedH (newH r m) l).err := by rw [hE]; unfold allE; rw [hRe, if_pos he]
      refine (rparse_err r l p n c hn m w hm ha hl he).mono ?_
      rintro e w' ⟨rfl, hb⟩
      exact ⟨newH false 0, .slice none 0 0, by unfold tkOf; rw [if_neg (by rw [h0]; exact he), h0]; rfl, OwnS.nil _ _, .inr ⟨by rw [h0]; exact he, rfl⟩, hb⟩
  · have h0 := parseE_out (r := r) (l := l) hm
    refine (rparse_arg r _ m w hm).mono ?_
    rintro e w' ⟨rfl, hb⟩
    exact ⟨newH false 0, .slice none 0 0, by unfold tkOf; rw [h0]; rfl, OwnS.nil _ _, .inr ⟨by rw [h0]; decide, rfl⟩, hb⟩
/-- A head that is whole, at both. -/
theorem whole_both {r : Bool} {l : B} {m : Int} (h0 : parseE r l m = 0) : ∃ x ls, (feedH (newH r m) l).lines = x :: ls ∧ (feedH (newH r m) l).done = true ∧ (feedH (newH r m) l).resp = r ∧ FirstOk r x (feedP (newP r m) l) ∧ (feedP (newP r m) l).fields = ls.map fieldOf ∧ (∀ z ∈ ls, FldOk z) ∧ (∀ z ∈ (feedH (newH r m) l).lines, z.length ≤ 65536) ∧ (feedH (newH r m) l).lines.length ≤ 65 := by
  obtain ⟨hm, he⟩ := parseE_zero h0
  obtain ⟨R, _⟩ := feed_rel l (newH r m) (newP r m) (rel_new r m)
  obtain ⟨e1, e2⟩ := allE_zero he
  have hre : (feedP (newP r m) l).resp = r := (feed_resp l (new_inv hm.2).st e1).trans rfl
  have hi := feedH_inv l _ (newH_inv (resp := r) hm.2)
  have hli := feedH_lines l _ (newH_inv (resp := r) hm.2) (newH_lines r m)
  rcases R with ⟨h1, h2⟩ | ⟨h1, h2, _, _, h5, _, h7, h8, h9⟩ | u
  · rw [h2] at e1; exact absurd e1 h1
  · have h5' : (feedH (newH r m) l).resp = r := by rw [← h5, hre]
    rw [h5'] at h8
    obtain ⟨x, ls, hx⟩ := List.exists_cons_of_ne_nil h7
    rw [hx] at h8
    obtain ⟨f1, f2, f3⟩ := h8
    exact ⟨x, ls, hx, h2, h5', f1, f2, f3, fun z hz => Nat.le_trans (hli z hz) (hi.len h1), h9⟩
  · exact absurd e2 u.st
theorem dreq_gen (l : B) (m : Int) (H : HS) (v : Value) (b : Nat) (w : World) (hH : HeadOf false l m H) (ho : OwnS w b v H.lines) : Calls Tryd.prog 8 #[headV H v] w fun e w' => ∃ q d x, e = .returned (.tuple #[.agg #[.string (str (reqOf l m).M), .string (str (reqOf l m).T), .int .i64 (reqOf l m).k, .slice q (reqOf l m).fs.length d], .int .i64 x]) ∧ FAt w' q (reqOf l m).fs ∧ Below w.heap.size w w' := by
  rcases hH with ⟨h0, rfl⟩ | ⟨h0, rfl⟩
  · obtain ⟨x, ls, h1, h2, h3, h4, h5, h6, h7, h8⟩ := whole_both h0
    unfold FirstOk at h4
    rw [if_neg (by simp)] at h4
    refine (rreqD_yes _ v b w x ls h1 ho h2 h3 h4.1 h6 h7 h8).mono ?_
    rintro e w' ⟨v', rfl, hf, hb⟩
    obtain ⟨q, n2, d, rfl⟩ := own_slice3 hf
    have hn2 := sliceF_len hf
    unfold reqOf
    rw [if_pos h0]
    exact ⟨q, d, 0, by rw [h4.2.1, h4.2.2.1, h4.2.2.2, h5, hn2], by rw [h5]; exact hf.fat, hb⟩
  · refine (rreqD_no _ v b w ho (.inl rfl)).mono ?_
    rintro e w' ⟨rfl, hb⟩
    unfold reqOf
    rw [if_neg h0]
    exact ⟨none, 0, 8, rfl, fun j f h => by simp at h, hb⟩
theorem dresp_gen (l : B) (m : Int) (H : HS) (v : Value) (b : Nat) (w : World) (hH : HeadOf true l m H) (ho : OwnS w b v H.lines) : Calls Tryd.prog 10 #[headV H v] w fun e w' => ∃ q d x, e = .returned (.tuple #[.agg #[.int .i64 (respOf l m).s, .string (str (respOf l m).T), .int .i64 (respOf l m).k, .slice q (respOf l m).fs.length d], .int .i64 x]) ∧ FAt w' q (respOf l m).fs ∧ Below w.heap.size w w' := by
  rcases hH with ⟨h0, rfl⟩ | ⟨h0, rfl⟩
  · obtain ⟨x, ls, h1, h2, h3, h4, h5, h6, h7, h8⟩ := whole_both h0
    unfold FirstOk at h4
    rw [if_pos rfl] at h4
    refine (rrespD_yes _ v b w x ls h1 ho h2 h3 h4.1 h6 h7 h8).mono ?_
    rintro e w' ⟨v', rfl, hf, hb⟩
    obtain ⟨q, n2, d, rfl⟩ := own_slice3 hf
    have hn2 := sliceF_len hf
    unfold respOf
    rw [if_pos h0]
    exact ⟨q, d, 0, by rw [h4.2.1, h4.2.2.1, h4.2.2.2, h5, hn2], by rw [h5]; exact hf.fat, hb⟩
  · refine (rrespD_no _ v b w ho (.inl rfl)).mono ?_
    rintro e w' ⟨rfl, hb⟩
    unfold respOf
    rw [if_neg h0]
    exact ⟨none, 0, 8, rfl, fun j f h => by simp at h, hb⟩
end Go.Proofs.YtfmkkkkdfkjdlaaDoor
