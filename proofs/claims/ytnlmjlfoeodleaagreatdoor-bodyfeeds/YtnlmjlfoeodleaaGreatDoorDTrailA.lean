/- The document's reader of chunked bodies: any byte of the trailers. -/
import Derived.Test.YtnlmjlfoeodleaaGreatDoorDFldB
namespace Go.Proofs.YtnlmjlfoeodleaaGreatDoor
open Go.RowKit

/-- What a function that answers a reader must answer. -/
def AnsD (d' : DK) (w : World) (e : Ending) (w' : World) : Prop := ∃ lp ln lc tp tn tc, e = .returned (.agg (dkC d' (.slice lp ln lc) (.slice tp tn tc))) ∧ d'.line.length = ln ∧ d'.tr.length = tn ∧ DkAt w' d' lp lc tp tc ∧ Below w.heap.size w w'
theorem ans_same {w : World} {d : DK} {lp tp : Option Addr} {ln lc tn tc : Nat} (hA : DkAt w d lp lc tp tc) (hl : d.line.length = ln) (ht : d.tr.length = tn) {d' : DK} {fn : Nat} {args : Array Value} (h : Calls Tryz.prog fn args w fun e w' => e = .returned (.agg (dkC d' (.slice lp ln lc) (.slice tp tn tc))) ∧ Below w.heap.size w w') (h1 : d'.line = d.line) (h2 : d'.tr = d.tr) (h3 : d'.gh = d.gh := by rfl) : Calls Tryz.prog fn args w (AnsD d' w) := by
  refine h.mono ?_
  rintro e w' ⟨rfl, hb⟩
  exact ⟨lp, ln, lc, tp, tn, tc, rfl, by rw [h1]; exact hl, by rw [h2]; exact ht, ⟨by rw [h1]; exact hA.line.next hb, by rw [h1]; exact hA.lcap, hA.lnil, by rw [h2]; exact hA.tr.next hb, hA.tnil, by rw [h1, h2, h3]; exact hA.g.next hb.size⟩, hb⟩
theorem ans_line {w : World} {d : DK} {lp tp : Option Addr} {ln lc tn tc : Nat} (hA : DkAt w d lp lc tp tc) (hl : d.line.length = ln) (ht : d.tr.length = tn) {c : UInt8} {fn : Nat} {args : Array Value} (h : Calls Tryz.prog fn args w fun e w' => ∃ q2 d2, e = .returned (.agg (dkC { cntD d with line := d.line ++ [c] } (.slice q2 (ln + 1) d2) (.slice tp tn tc))) ∧ ArgAt w' q2 (d.line ++ [c]) ∧ ln + 1 ≤ d2 ∧ NewR w q2 d2 ∧ Below w.heap.size w w') : Calls Tryz.prog fn args w (AnsD { cntD d with line := d.line ++ [c] } w) := by
  refine h.mono ?_
  rintro e w' ⟨q2, d2, rfl, ha, hc, hn, hb⟩
  have hlen : (d.line ++ [c]).length = ln + 1 := by rw [List.length_append, hl]; rfl
  exact ⟨q2, ln + 1, d2, tp, tn, tc, rfl, hlen, ht, ⟨ha, (show (d.line ++ [c]).length ≤ d2 by rw [hlen]; exact hc), hn.1, hA.tr.next hb, hA.tnil, ⟨fun a e _ h9 => Nat.lt_irrefl _ (Nat.lt_of_lt_of_le (hA.g.gl _ h9) (hn.2 a e)), hA.g.to, fun k hk => Nat.lt_of_lt_of_le (hA.g.gl k hk) hb.size⟩⟩, hb⟩
/-- What a trailers' reader must be. -/
structure OkT (d : DK) : Prop where
  st : d.st = 6 ∨ d.st = 7
  bytes : d.bytes ≤ 1048576
  line : d.line.length ≤ 1048576
  tr : d.tr.length ≤ 1048575
  has : d.st = 7 → d.line ≠ [] → hasD d = true
theorem trail_any (d : DK) (lp tp : Option Addr) (ln lc tn tc : Nat) (c : UInt8) (w : World) (h : OkT d) (hl : d.line.length = ln) (ht : d.tr.length = tn) (hA : DkAt w d lp lc tp tc) : Calls Tryz.prog 113 #[.agg (dkC d (.slice lp ln lc) (.slice tp tn tc)), byteV c] w (AnsD (trailD d c) w) := by
  obtain ⟨hst, hbb, hll, htt, hhs⟩ := h
  rw [hl] at hll
  rw [ht] at htt
  by_cases he : d.line = []
  · have hno : hasD d = false := has_none (by rw [he]; simp)
    rcases hst with hs | hs
    · have g7 : ¬ d.st = 7 := by omega
      by_cases h13 : c = 13
      · rw [show trailD d c = _ from by unfold trailD; rw [if_neg (fun h => h.2 ⟨he, .inr h13⟩), if_neg g7, if_pos h13, if_neg (fun h => h.2 he)]]
        by_cases ho : 8192 < d.bytes + 1
        · exact ans_same hA hl ht (tr_6b d lp tp ln lc tn tc c w hl ht hll hbb hA.line hs he h13 ho) rfl rfl
        · exact ans_same hA hl ht (tr_6a d lp tp ln lc tn tc c w hl ht hll hbb hA.line hs he h13 ho) rfl rfl
      · have g1 : ¬ lastD d c := fun h => by rcases h.2 with h | h; omega; exact h13 h
        by_cases ho : 8192 < d.bytes + 1
        · rw [show trailD d c = _ from by unfold trailD; rw [if_pos ⟨ho, g1⟩]]
          exact ans_same hA hl ht (tr_1b d lp tp ln lc tn tc c w hl ht hll hbb hA.line hs he h13 ho) rfl rfl
        · by_cases h58 : c = 58
          · rw [show trailD d c = _ from by unfold trailD; rw [if_neg (fun h => ho h.1), if_neg g7, if_neg h13, if_pos (.inl ⟨hno, h58, he⟩)]]
            exact ans_same hA hl ht (tr_7a d lp tp ln lc tn tc c w hl ht hll hbb hA.line hs he h58 ho) rfl rfl
          · cases hk : tokU c with
            | false =>
              rw [show trailD d c = _ from by unfold trailD; rw [if_neg (fun h => ho h.1), if_neg g7, if_neg h13, if_pos (.inr (.inl ⟨hno, h58, hk⟩))]]
              exact ans_same hA hl ht (tr_7b d lp tp ln lc tn tc c w hl ht hll hbb hA.line hs he h13 h58 ho hk) rfl rfl
            | true =>
              by_cases h64 : d.tr.length = 64
              · rw [show trailD d c = _ from by unfold trailD; rw [if_neg (fun h => ho h.1), if_neg g7, if_neg h13, if_pos (.inr (.inr (.inr ⟨he, h64⟩)))]]
                exact ans_same hA hl ht (tr_7d d lp tp ln lc tn tc c w hl ht hll hbb hA.line hs he h13 h58 ho hk h64) rfl rfl
              · rw [show trailD d c = _ from by unfold trailD; rw [if_neg (fun h => ho h.1), if_neg g7, if_neg h13, if_neg (fun h => by rcases h with h | h | h | h; (exact h58 h.2.1); (rw [hk] at h; exact absurd h.2.2 (by decide)); (rw [hno] at h; exact absurd h.1 (by decide)); exact h64 h.2)]]
                exact ans_line hA hl ht (tr_8a d lp tp ln lc tn tc c w hl ht hll hbb hA.line hA.lnil hs he h13 h58 ho hk h64)
    · have g1 : ¬ (8192 < d.bytes + 1 ∧ ¬ lastD d c) := fun h => h.2 ⟨he, .inl hs⟩
      by_cases h10 : c = 10
      · rw [show trailD d c = _ from by unfold trailD; rw [if_neg g1, if_pos hs, if_pos h10, if_pos he]]
        by_cases ho : 8192 < d.bytes + 1
        · exact ans_same hA hl ht (tr_3b d lp tp ln lc tn tc c w hl ht hll hbb hA.line hs he h10 ho) rfl rfl
        · exact ans_same hA hl ht (tr_3a d lp tp ln lc tn tc c w hl ht hll hbb hA.line hs he h10 ho) rfl rfl
      · rw [show trailD d c = _ from by unfold trailD; rw [if_neg g1, if_pos hs, if_neg h10]]
        by_cases ho : 8192 < d.bytes + 1
        · exact ans_same hA hl ht (tr_2c d lp tp ln lc tn tc c w hl ht hll hbb hA.line hs he h10 ho) rfl rfl
        · exact ans_same hA hl ht (tr_2b d lp tp ln lc tn tc c w hl ht hll hbb hA.line hs he h10 ho) rfl rfl
  · have g1 : ¬ lastD d c := fun h => he h.1
    by_cases ho : 8192 < d.bytes + 1
    · rw [show trailD d c = _ from by unfold trailD; rw [if_pos ⟨ho, g1⟩]]
      exact ans_same hA hl ht (tr_1a d lp tp ln lc tn tc c w hl ht hll hbb hA.line he ho) rfl rfl
    · rcases hst with hs | hs
      · have g7 : ¬ d.st = 7 := by omega
        by_cases h13 : c = 13
        · cases hh : hasD d with
          | false =>
            rw [show trailD d c = _ from by unfold trailD; rw [if_neg (fun h => ho h.1), if_neg g7, if_pos h13, if_pos ⟨hh, he⟩]]
            exact ans_same hA hl ht (tr_5 d lp tp ln lc tn tc c w hl ht hll hbb hA.line hs he hh h13 ho) rfl rfl
          | true =>
            rw [show trailD d c = _ from by unfold trailD; rw [if_neg (fun h => ho h.1), if_neg g7, if_pos h13, if_neg (fun h => by rw [hh] at h; exact absurd h.1 (by decide))]]
            exact ans_same hA hl ht (tr_6c d lp tp ln lc tn tc c w hl ht hll hbb hA.line hs he hh h13 ho) rfl rfl
        · cases hh : hasD d with
          | true =>
            cases hv : valU c with
            | true =>
              rw [show trailD d c = _ from by unfold trailD; rw [if_neg (fun h => ho h.1), if_neg g7, if_neg h13, if_neg (fun h => by rcases h with h | h | h | h; (rw [hh] at h; exact absurd h.1 (by decide)); (rw [hh] at h; exact absurd h.1 (by decide)); (rw [hv] at h; exact absurd h.2 (by decide)); exact he h.1)]]
              exact ans_line hA hl ht (tr_8d d lp tp ln lc tn tc c w hl ht hll hbb hA.line hA.lnil hs he hh h13 ho hv)
            | false =>
              rw [show trailD d c = _ from by unfold trailD; rw [if_neg (fun h => ho h.1), if_neg g7, if_neg h13, if_pos (.inr (.inr (.inl ⟨hh, hv⟩)))]]
              exact ans_same hA hl ht (tr_7c d lp tp ln lc tn tc c w hl ht hll hbb hA.line hs he hh h13 ho hv) rfl rfl
          | false =>
            by_cases h58 : c = 58
            · rw [show trailD d c = _ from by unfold trailD; rw [if_neg (fun h => ho h.1), if_neg g7, if_neg h13, if_neg (fun h => by rcases h with h | h | h | h; (exact he h.2.2); (exact h.2.1 h58); (rw [hh] at h; exact absurd h.1 (by decide)); exact he h.1)]]
              exact ans_line hA hl ht (tr_8b d lp tp ln lc tn tc c w hl ht hll hbb hA.line hA.lnil hs he hh h58 ho)
            · cases hk : tokU c with
              | true =>
                rw [show trailD d c = _ from by unfold trailD; rw [if_neg (fun h => ho h.1), if_neg g7, if_neg h13, if_neg (fun h => by rcases h with h | h | h | h; (exact he h.2.2); (rw [hk] at h; exact absurd h.2.2 (by decide)); (rw [hh] at h; exact absurd h.1 (by decide)); exact he h.1)]]
                exact ans_line hA hl ht (tr_8c d lp tp ln lc tn tc c w hl ht hll hbb hA.line hA.lnil hs he hh h13 h58 ho hk)
              | false =>
                rw [show trailD d c = _ from by unfold trailD; rw [if_neg (fun h => ho h.1), if_neg g7, if_neg h13, if_pos (.inr (.inl ⟨hh, h58, hk⟩))]]
                exact ans_same hA hl ht (tr_7b2 d lp tp ln lc tn tc c w hl ht hll hbb hA.line hs he hh h13 h58 ho hk) rfl rfl
      · by_cases h10 : c = 10
        · subst h10
          rw [show trailD d 10 = _ from by unfold trailD; rw [if_neg (fun h => ho h.1), if_pos hs, if_pos rfl, if_neg he]]
          refine (tr_4 d lp tp ln lc tn tc w hl ht hll htt hbb hA hs (hhs hs he) ho).mono ?_
          rintro e w' ⟨q2, d2, rfl, hf, hn, hb⟩
          exact ⟨none, 0, 0, q2, tn + 1, d2, rfl, rfl, by rw [List.length_append, ht]; rfl, ⟨fun j y hj => by simp at hj, Nat.zero_le _, fun _ => rfl, hf, hn.1, ⟨(fun a e => by cases e), (fun a e _ h9 => Nat.lt_irrefl _ (Nat.lt_of_lt_of_le (hA.g.gl _ h9) (hn.2 a e))), fun k hk => Nat.lt_of_lt_of_le (hA.g.gl k hk) hb.size⟩⟩, hb⟩
        · rw [show trailD d c = _ from by unfold trailD; rw [if_neg (fun h => ho h.1), if_pos hs, if_neg h10]]
          exact ans_same hA hl ht (tr_2a d lp tp ln lc tn tc c w hl ht hll hbb hA.line hs he h10 ho) rfl rfl
end Go.Proofs.YtnlmjlfoeodleaaGreatDoor
