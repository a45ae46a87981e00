/- The reader of chunked bodies: what is fed piece by piece. -/
import Derived.Test.YtnlmjlfoeodleaaGreatDoorKStep
import Derived.Test.YtnlmjlfoeodleaaGreatDoorKOwn
namespace Go.Proofs.YtnlmjlfoeodleaaGreatDoor
open Go.RowKit

theorem fk_done {s : KS} {l : B} {i : Nat} (hn : feedN s (l.take i) = i) (he : endedK (feedK s (l.take i)) = true) : feedK s l = feedK s (l.take i) ∧ feedN s l = i ∧ feedB s l = feedB s (l.take i) := by
  obtain ⟨e1, e2, e3⟩ := fk_app (l.take i) (l.drop i) s
  rw [List.take_append_drop] at e1 e2 e3
  obtain ⟨d1, d2, d3⟩ := fk_ended he (l.drop i)
  rw [d1] at e1
  rw [d2, hn] at e2
  rw [d3, List.append_nil] at e3
  exact ⟨e1, by omega, e3⟩
theorem fk_more {s : KS} {l : B} {i : Nat} {y : UInt8} (hn : feedN s (l.take i) = i) (he : endedK (feedK s (l.take i)) = false) (h3 : (feedK s (l.take i)).st ≠ 3) (hy : l[i]? = some y) : feedK s (l.take (i + 1)) = { (stepK (feedK s (l.take i)) y).1 with err := (stepK (feedK s (l.take i)) y).2 } ∧ feedN s (l.take (i + 1)) = i + 1 ∧ feedB s (l.take (i + 1)) = feedB s (l.take i) := by
  rw [take_snocB hy]
  obtain ⟨e1, e2, e3⟩ := fk_app (l.take i) [y] s
  obtain ⟨c1, c2, c3⟩ := fk_cons he y []
  rw [e1, e2, e3, c1, c2, c3, hn, if_neg h3]
  unfold byteK
  rw [if_neg h3]
  simp [feedK, feedN, feedB]
theorem take_add_k (l : B) (i k : Nat) : l.take (i + k) = l.take i ++ (l.drop i).take k := List.take_add
theorem fk_mine {s : KS} {l : B} {i k : Nat} (hn : feedN s (l.take i) = i) (he : (feedK s (l.take i)).err = 0) (h3 : (feedK s (l.take i)).st = 3) (hk : k ≤ (feedK s (l.take i)).left) (h0 : 0 < k) (hl : i + k ≤ l.length) : feedK s (l.take (i + k)) = ownK (feedK s (l.take i)) k ∧ feedN s (l.take (i + k)) = i + k ∧ feedB s (l.take (i + k)) = feedB s (l.take i) ++ (l.drop i).take k := by
  rw [take_add_k]
  have hlen : ((l.drop i).take k).length = k := by rw [List.length_take, List.length_drop]; omega
  obtain ⟨e1, e2, e3⟩ := fk_app (l.take i) ((l.drop i).take k) s
  obtain ⟨c1, c2, c3⟩ := fk_own ((l.drop i).take k) _ he h3 (by omega) (by omega)
  rw [e1, e2, e3, c1, c2, c3, hn, hlen]
  exact ⟨rfl, rfl, rfl⟩
theorem step_told (s : KS) (c : UInt8) : (stepK s c).1.told = s.told := by
  unfold stepK
  split
  · exact (cnt_st s c).2.2.2.2.2
  · unfold judgeK
    have := (next_st (cntK s c) c).2.2
    rw [(cnt_st s c).2.2.2.2.2] at this
    (repeat' split) <;> exact this
/-- What was told is what was counted. -/
theorem fk_told : ∀ (l : B) (s : KS), (feedB s l).length + s.told = (feedK s l).told
  | [], s => by simp [feedB, feedK]
  | c :: l, s => by
    cases hn : endedK s with
    | true => rw [(fk_ended hn _).1, (fk_ended hn _).2.2]; simp
    | false =>
      obtain ⟨c1, c2, c3⟩ := fk_cons hn c l
      have ih := fk_told l (byteK s c)
      rw [c1, c3, ← ih]
      unfold byteK
      split
      · simp [ownK]; omega
      · simp [step_told]
theorem fk_small {s : KS} (hi : InvK s) (l : B) : (feedB s l).length ≤ 1099511627776 := by
  have h1 := fk_told l s
  have h2 := feed_inv l hi
  have := h2.told
  have := h2.most
  omega
/-- The reader under way: block, what is told so far. -/
structure FeedI (F : Nat → Prop) (w wr : World) (g : Nat) (s : KS) (l : B) (i : Nat) (G : Nat → Prop) (v : Value) : Prop where
  rd : RdAt G wr g (feedK s (l.take i))
  only : Only F w wr
  sub : ∀ k, G k → F k ∨ w.heap.size ≤ k
  lt : ∀ k, G k → k < wr.heap.size
  n : feedN s (l.take i) = i
  body : Own wr w.heap.size v (feedB s (l.take i))
  out : ∀ k, v.ownBlock = some k → ¬ G k
theorem FeedI.begin {F : Nat → Prop} {w : World} {g : Nat} {s : KS} (h : RdAt F w g s) (l : B) : FeedI F w w g s l 0 (fun k => F k ∧ k < w.heap.size) (.slice none 0 0) :=
  ⟨by simpa [feedK] using h.trim, Only.refl _ _, fun k h => .inl h.1, fun k h => h.2, by simp [feedN], by simpa [feedB] using Own.nil w w.heap.size, fun k e => by simp [Value.ownBlock] at e⟩
/-- One byte more. -/
theorem FeedI.step {F G : Nat → Prop} {w wr w2 : World} {g i : Nat} {s : KS} {l : B} {v : Value} {y : UInt8} (h : FeedI F w wr g s l i G v) (he : endedK (feedK s (l.take i)) = false) (h3 : (feedK s (l.take i)).st ≠ 3) (hy : l[i]? = some y) (t : Turned G wr g (stepK (feedK s (l.take i)) y).1 w2) : ∃ G2, FeedI F w (w2.setCell ⟨g, 2, none⟩ (errOf (stepK (feedK s (l.take i)) y).2)) g s l (i + 1) G2 v := by
  obtain ⟨m1, m2, m3⟩ := fk_more h.n he h3 hy
  obtain ⟨G1, hr, ho, hs⟩ := t
  obtain ⟨r1, o1⟩ := hr.put (s' := { (stepK (feedK s (l.take i)) y).1 with err := (stepK (feedK s (l.take i)) y).2 }) 2 (errOf (stepK (feedK s (l.take i)) y).2) (fun t p => by unfold kdCells; simp) rfl rfl
  have o2 := ho.trans o1 hs
  have hlow := own_low0 h.body
  refine ⟨fun k => G1 k ∧ k < (w2.setCell ⟨g, 2, none⟩ (errOf (stepK (feedK s (l.take i)) y).2)).heap.size, ⟨by rw [m1]; exact r1.trim, h.only.trans o2 h.sub, fun k hk => ?_, fun k hk => hk.2, m2, ?_, fun k e hk => ?_⟩⟩
  · rcases hs k hk.1 with h4 | h4
    · exact h.sub k h4
    · exact .inr (Nat.le_trans h.only.size h4)
  · rw [m3]
    exact own_only h.body o2 (fun k e hk => h.out k e hk)
  · rcases hs k hk.1 with h4 | h4
    · exact h.out k e h4
    · have := ys_lt hlow e; omega
/-- Bytes of the chunk's own, laid behind what is told. -/
theorem FeedI.mine {F G : Nat → Prop} {w wr w2 w3 : World} {g i k : Nat} {s : KS} {l : B} {v v3 : Value} (h : FeedI F w wr g s l i G v) (he : (feedK s (l.take i)).err = 0) (h3 : (feedK s (l.take i)).st = 3) (hk : k ≤ (feedK s (l.take i)).left) (h0 : 0 < k) (hl : i + k ≤ l.length) (t : Turned G wr g (ownK (feedK s (l.take i)) k) w2) (hg : w2.grownBy w3 v.ownBlock) (ho3 : Own w3 w.heap.size v3 (feedB s (l.take i) ++ (l.drop i).take k)) (hv : v3.ownBlock = v.ownBlock ∨ v3.ownBlock = some w2.heap.size) : ∃ G2, FeedI F w w3 g s l (i + k) G2 v3 := by
  obtain ⟨m1, m2, m3⟩ := fk_mine h.n he h3 hk h0 hl
  obtain ⟨G1, hr, ho, hs⟩ := t
  have hlow := own_low0 h.body
  have hout : ∀ j, v.ownBlock = some j → ¬ (G1 j ∧ j < w2.heap.size) := fun j e hj => by
    rcases hs j hj.1 with h4 | h4
    · exact h.out j e h4
    · have := ys_lt hlow e; omega
  have og : Only (fun j => v.ownBlock = some j) w2 w3 := Only.grown hg (fun j e => e)
  have hr3 := hr.trim.keep og (fun j hj e => hout j e hj)
  refine ⟨fun j => G1 j ∧ j < w2.heap.size, ⟨by rw [m1]; exact hr3, ?_, fun j hj => ?_, fun j hj => Nat.lt_of_lt_of_le hj.2 hg.size, m2, by rw [m3]; exact ho3, fun j e hj => ?_⟩⟩
  · refine (h.only.trans ho h.sub).trans og (fun j e => .inr ?_)
    exact own_ge h.body e
  · rcases hs j hj.1 with h4 | h4
    · exact h.sub j h4
    · exact .inr (Nat.le_trans h.only.size h4)
  · rcases hv with e2 | e2
    · exact hout j (by rw [← e2]; exact e) hj
    · rw [e2] at e
      have := Option.some.inj e
      omega
/-- What a reader has become by a text that was fed to it, and what it told. -/
structure FedG (F : Nat → Prop) (w w' : World) (g : Nat) (s : KS) (l : B) (G : Nat → Prop) (v : Value) : Prop where
  rd : RdAt G w' g (feedK s l)
  only : Only F w w'
  sub : ∀ k, G k → F k ∨ w.heap.size ≤ k
  lt : ∀ k, G k → k < w'.heap.size
  body : Own w' w.heap.size v (feedB s l)
  out : ∀ k, v.ownBlock = some k → ¬ G k
theorem FeedI.fin {F G : Nat → Prop} {w wr : World} {g i : Nat} {s : KS} {l : B} {v : Value} (h : FeedI F w wr g s l i G v) (h1 : feedK s l = feedK s (l.take i)) (h2 : feedB s l = feedB s (l.take i)) (q : Nat) : FedG F w (wr.drewN q) g s l G v := by
  have hb : Below wr.heap.size wr (wr.drewN q) := below_drew (Below.refl _ _) q
  exact ⟨by rw [h1]; exact h.rd.next hb, ⟨h.only.os, h.only.tape, h.only.output, h.only.size, h.only.block⟩, h.sub, h.lt, by rw [h2]; exact h.body.keep hb, h.out⟩
def fedV (s : KS) (l : B) (q : Option Addr) (d : Nat) : Value := .tuple #[.int .i64 (feedN s l : Int), .slice q (feedB s l).length d, .bool (decide ((feedK s l).st = 11)), errOf (feedK s l).err]
/-- What Feed answers, and what the reader has become. -/
def FedK (F : Nat → Prop) (w : World) (g : Nat) (s : KS) (l : B) (e : Ending) (w' : World) : Prop :=
  ∃ q d, e = .returned (fedV s l q d) ∧ ∃ G, FedG F w w' g s l G (.slice q (feedB s l).length d)
end Go.Proofs.YtnlmjlfoeodleaaGreatDoor
