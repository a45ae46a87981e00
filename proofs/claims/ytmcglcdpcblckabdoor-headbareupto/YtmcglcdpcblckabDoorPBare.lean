/- A byte 13 or 10 laid into a head that may be written spoils it. -/
import Derived.Test.YtmcglcdpcblckabDoorLSizes
namespace Go.Proofs.YtmcglcdpcblckabDoor
open Go.RowKit

theorem new_last (most : Int) : LastR (newP false most) none := ⟨fun h => by simp [newP] at h, fun h => by simp [newP] at h, by simp [newP], by simp [newP], by simp [newP]⟩
theorem take_pos {l : B} {i : Nat} {y : UInt8} (h : l[i]? = some y) : l = l.take i ++ y :: l.drop (i + 1) := by
  have hlt : i < l.length := (List.getElem?_eq_some_iff.1 h).1
  rw [List.getElem?_eq_getElem hlt] at h
  obtain rfl := Option.some.inj h
  conv => lhs; rw [← List.take_append_drop i l, List.drop_eq_getElem_cons hlt]
theorem feed_spoil {s : PS} {c : UInt8} (l : B) {e : Nat} (hn : endedP s = false) (he : e ≠ 0) (ht : takeP s c = spoilP (s.taken + 1) e) : allE (feedP s (c :: l)) = e := by
  rw [feedP, if_neg (by rw [hn]; simp), ht, (feed_ended (spoil_ended he) l).1]
  unfold allE spoilP
  simp [he]
/-- What is read of a head ahead of its end. -/
theorem bare_mid {l : B} {most : Int} {i : Nat} {y : UInt8} {s : PS} (hr : feedP (newP false most) l = s) (h11 : s.st = 11) (he : s.err = 0) (ht : s.taken = l.length) (hi : l[i]? = some y) :
    endedP (feedP (newP false most) (l.take i)) = false ∧ (feedP (newP false most) (l.take i)).taken = i ∧ (takeP (feedP (newP false most) (l.take i)) y).err = 0 := by
  have hlt : i < l.length := (List.getElem?_eq_some_iff.1 hi).1
  have e1 := feed_app (l.take i) (l.drop i) (newP false most)
  rw [List.take_append_drop, hr] at e1
  have hne : endedP (feedP (newP false most) (l.take i)) = false := by
    cases hc : endedP (feedP (newP false most) (l.take i)) with
    | false => rfl
    | true =>
      rw [(feed_ended hc _).1] at e1
      have h2 := feed_taken (l.take i) (newP false most)
      have h3 := feedN_le (l.take i) (newP false most)
      rw [← e1, ht] at h2
      rw [List.length_take] at h3
      rw [show (newP false most).taken = 0 from rfl] at h2
      omega
  have e2 : l.drop i = y :: l.drop (i + 1) := by
    rw [List.drop_eq_getElem_cons hlt]
    rw [List.getElem?_eq_getElem hlt] at hi
    rw [Option.some.inj hi]
  rw [e2, feedP, if_neg (by rw [hne]; simp)] at e1
  refine ⟨hne, ?_, ?_⟩
  · have h2 := feed_taken (l.take i) (newP false most)
    have h3 := feedN_le (l.take i) (newP false most)
    rw [List.length_take] at h3
    have h4 := feed_taken (l.drop (i + 1)) (takeP (feedP (newP false most) (l.take i)) y)
    have h5 := feedN_le (l.drop (i + 1)) (takeP (feedP (newP false most) (l.take i)) y)
    have h6 : (takeP (feedP (newP false most) (l.take i)) y).taken = (feedP (newP false most) (l.take i)).taken + 1 := by
      rcases take_cases (feedP (newP false most) (l.take i)) y with ⟨e, _, e3⟩ | e3
      · rw [e3]; rfl
      · exact step_taken e3
    rw [← e1, ht, h6] at h4
    rw [List.length_drop] at h5
    rw [show (newP false most).taken = 0 from rfl] at h2
    omega
  · rcases take_cases (feedP (newP false most) (l.take i)) y with ⟨e, h0, e3⟩ | e3
    · rw [e3, (feed_ended (spoil_ended h0) _).1] at e1
      rw [e1] at he
      exact absurd he h0
    · have h1 : s.st ≤ 11 := by omega
      have hne2 : (feedP (newP false most) (l.take i)).st ≠ 11 ∧ (feedP (newP false most) (l.take i)).err = 0 := by unfold endedP at hne; simpa using hne
      have h3 : ({ feedP (newP false most) (l.take i) with taken := (feedP (newP false most) (l.take i)).taken + 1 } : PS).err = 0 := hne2.2
      by_cases hst : (feedP (newP false most) (l.take i)).st ≤ 11
      · have h2 := step_inv (s := { feedP (newP false most) (l.take i) with taken := (feedP (newP false most) (l.take i)).taken + 1 }) hst e3
        rw [h2.err]
        exact h3
      · exfalso
        have h4 : stepP { feedP (newP false most) (l.take i) with taken := (feedP (newP false most) (l.take i)).taken + 1 } y = none := by
          unfold stepP
          rw [if_neg (by dsimp only; omega), if_neg (by dsimp only; omega), if_neg (by dsimp only; omega), if_neg (by dsimp only; omega), if_neg (by dsimp only; omega), if_neg (by dsimp only; omega), if_neg (by dsimp only; omega), if_neg (by dsimp only; omega), if_neg (by dsimp only; omega), if_neg (by dsimp only; omega), if_neg (by dsimp only; omega)]
        rw [h4] at e3
        cases e3
theorem fault_or (n : Nat) : faultN n = 20 ∨ faultN n = 21 := by unfold faultN; split <;> simp
theorem bare_plain {l : B} {i : Nat} {y c : UInt8} {s : PS} (hr : feedP (newP false 65536) l = s) (h11 : s.st = 11) (he : s.err = 0) (ht : s.taken = l.length) (hlen : l.length ≤ 32768) (hi : l[i]? = some y) (hc : c = 13 ∨ c = 10) (hy : y ≠ 13 ∧ y ≠ 10) (hp : ∀ z, i ≠ 0 → l[i - 1]? = some z → z ≠ 13 ∧ z ≠ 10) :
    allE (feedP (newP false 65536) (l.take i ++ c :: l.drop i)) = 20 ∨ allE (feedP (newP false 65536) (l.take i ++ c :: l.drop i)) = 21 := by
  have hlt : i < l.length := (List.getElem?_eq_some_iff.1 hi).1
  obtain ⟨hne, htk, hok⟩ := bare_mid hr h11 he ht hi
  have hlr := feed_lastR (l.take i) (newP false 65536) none (new_last _)
  have hin := feed_inv (l.take i) (new_inv (r := false) (m := 65536) (by omega))
  rw [feed_app]
  obtain ⟨S, hS⟩ : ∃ S, feedP (newP false 65536) (l.take i) = S := ⟨_, rfl⟩
  have hmost : S.most = 65536 := by
    have key : ∀ (a : B) (s : PS), s.st ≤ 11 → endedP (feedP s a) = false → (feedP s a).most = s.most := by
      intro a
      induction a with
      | nil => intro s _ _; rfl
      | cons c a ih =>
        intro s hs hn
        cases he : endedP s with
        | true => rw [(feed_ended he _).1]
        | false =>
          have e1 : feedP s (c :: a) = feedP (takeP s c) a := by rw [feedP, if_neg (by rw [he]; simp)]
          rw [e1] at hn ⊢
          rcases take_cases s c with ⟨e, h0, e2⟩ | e2
          · rw [e2, (feed_ended (spoil_ended h0) a).1, spoil_ended h0] at hn; cases hn
          · have h1 := step_inv (s := { s with taken := s.taken + 1 }) hs e2
            rw [ih _ h1.st hn, h1.most]
    rw [← hS]
    rw [key (l.take i) (newP false 65536) (by simp [newP]) hne]
    rfl
  rw [hS] at hne htk hok hlr hin ⊢
  have hne2 : S.st ≠ 11 ∧ S.err = 0 := by unfold endedP at hne; simpa using hne
  have hl2 := hlr hne2.2 hne
  have hlast : (if l.take i = [] then none else (l.take i).getLast?) ≠ some 13 ∧ (if l.take i = [] then none else (l.take i).getLast?) ≠ some 10 := by
    by_cases h0 : l.take i = []
    · rw [if_pos h0]; simp
    · rw [if_neg h0]
      have hi0 : i ≠ 0 := fun e => h0 (by rw [e]; rfl)
      obtain ⟨z, hz⟩ : ∃ z, l[i - 1]? = some z := ⟨l[i - 1]'(by omega), List.getElem?_eq_getElem (by omega)⟩
      have e3 : (l.take i).getLast? = some z := by
        rw [List.getLast?_eq_getElem?, List.length_take, Nat.min_eq_left (by omega), List.getElem?_take, if_pos (by omega)]
        exact hz
      have := hp z hi0 hz
      rw [e3]
      exact ⟨fun e => this.1 (Option.some.inj e), fun e => this.2 (Option.some.inj e)⟩
  obtain ⟨q1, q2, q3, q4, q5⟩ := hl2
  have hsz : ¬ S.most < (S.taken : Int) + 1 := by rw [hmost, htk]; omega
  have no : stepP { S with taken := S.taken + 1 } c = none → allE (feedP S (c :: l.drop i)) = 20 ∨ allE (feedP S (c :: l.drop i)) = 21 := by
    intro h1
    rw [feed_spoil (l.drop i) hne (fault_ne S.st) (take_none hsz h1)]
    exact fault_or _
  have hst := hin.st
  have cases5 : S.st = 0 ∨ S.st = 1 ∨ S.st = 2 ∨ (S.st = 7 ∧ S.part ≠ []) ∨ S.st = 8 := by
    have h6 : ¬ (S.st = 6 ∨ S.st = 9 ∨ S.st = 10) := fun h => hlast.1 (q1 h)
    by_cases h7 : S.st = 7
    · exact .inr (.inr (.inr (.inl ⟨h7, fun hp0 => hlast.2 (q2 ⟨h7, hp0⟩)⟩)))
    · omega
  have hcx : clsB 0 c = false ∧ clsB 1 c = false ∧ clsB 2 c = false ∧ c ≠ 32 ∧ c ≠ 58 ∧ (∀ n, verAt n c = false) := by
    rcases hc with rfl | rfl
    · exact ⟨cls13 0, cls13 1, cls13 2, by decide, by decide, fun n => (ver_cr n).1⟩
    · exact ⟨cls10 0, cls10 1, cls10 2, by decide, by decide, fun n => (ver_cr n).2.1⟩
  obtain ⟨k0, k1, k2, k32, k58, kv⟩ := hcx
  rcases cases5 with h0 | h0 | h0 | ⟨h0, hpn⟩ | h0
  · exact no (by rw [step_0 _ (by exact h0)]; exact row_no (fun h => k32 h.1) k0)
  · exact no (by rw [step_1 _ (by exact h0)]; exact row_no (fun h => k32 h.1) k1)
  · refine no ?_
    rw [step_2 _ (by exact h0)]
    refine row_no (fun h => ?_) (kv _)
    -- the version is whole: then the head's own next byte is a byte 13
    have h8 : S.part.length = 8 := by simpa using h.2
    have hn : stepP { S with taken := S.taken + 1 } y = none := by
      rw [step_2 _ (by exact h0)]
      exact row_no (fun h => hy.1 h.1) (ver_no h8)
    rw [take_none hsz hn] at hok
    exact fault_ne _ hok
  · refine no (by
      rw [step_7 _ (by exact h0)]
      dsimp only
      rw [if_neg (fun h => hpn (List.eq_nil_of_length_eq_zero h.1))]
      exact row_no (fun h => k58 h.1) k0)
  · rcases hc with rfl | rfl
    · have e1 : stepP { S with taken := S.taken + 1 } 13 = some { keepP { S with taken := S.taken + 1 } with st := 9 } := by rw [step_8 _ (by exact h0)]; exact row_end rfl rfl
      have hk := keep_shape { S with taken := S.taken + 1 }
      have hf64 : ¬ 64 < ({ keepP { S with taken := S.taken + 1 } with st := 9 } : PS).fields.length := by dsimp only; rw [hk.2.2.1]; have := hin.fields; dsimp only; omega
      have e2 := take_some hsz e1 hf64
      have e3 : l.drop i = y :: l.drop (i + 1) := by
        rw [List.drop_eq_getElem_cons hlt]
        rw [List.getElem?_eq_getElem hlt] at hi
        rw [Option.some.inj hi]
      rw [feedP, if_neg (by rw [hne]; simp), e2, e3]
      right
      have hkt := keep_taken { S with taken := S.taken + 1 }
      refine feed_spoil (l.drop (i + 1)) ?_ (by decide) ?_
      · exact not_ended (by simp) (by dsimp only; rw [hk.2.2.2.1]; exact hne2.2)
      · refine (take_none ?_ ?_).trans rfl
        · dsimp only
          rw [hk.2.1, hkt]
          dsimp only
          rw [hmost, htk]
          push_cast
          omega
        · rw [step_9 _ rfl]
          exact end_no hy.2
    · exact no (by rw [step_8 _ (by exact h0)]; exact row_no (by simp) k2)
end Go.Proofs.YtmcglcdpcblckabDoor
