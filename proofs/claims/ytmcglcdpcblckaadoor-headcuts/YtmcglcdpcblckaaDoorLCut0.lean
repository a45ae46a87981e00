/- The law of cuts. -/
import Derived.Test.YtmcglcdpcblckaaDoorLFns
import Derived.Laws.AppendOwnNone
namespace Go.Proofs.YtmcglcdpcblckaaDoor
open Go.RowKit

/-- What the reader tells as a request, and its error. -/
def rqM (s : PS) : B := if s.st = 11 ∧ s.resp = false then s.method else []
def rqT (s : PS) : B := if s.st = 11 ∧ s.resp = false then s.target else []
def rqK (s : PS) : Int := if s.st = 11 ∧ s.resp = false then s.minor else 0
def rqF (s : PS) : List (B × B) := if s.st = 11 ∧ s.resp = false then s.fields else []
def rqE (s : PS) : Nat := if s.st = 11 ∧ s.resp = false then 0 else 8
def rpS (s : PS) : Int := if s.st = 11 ∧ s.resp = true then s.status else 0
def rpR (s : PS) : B := if s.st = 11 ∧ s.resp = true then s.reason else []
def rpK (s : PS) : Int := if s.st = 11 ∧ s.resp = true then s.minor else 0
def rpF (s : PS) : List (B × B) := if s.st = 11 ∧ s.resp = true then s.fields else []
def rpE (s : PS) : Nat := if s.st = 11 ∧ s.resp = true then 0 else 8
theorem tellQ_any {F : Nat → Prop} {w : World} {g : Nat} {s : PS} (h : RdAt F w g s) (hf : s.fields.length ≤ 64) : Calls Tryd.prog 21 #[.pointer (some ⟨g, 0, none⟩)] w fun e w' => ∃ p c, e = .returned (.tuple #[.agg #[.string (str (rqM s)), .string (str (rqT s)), .int .i64 (rqK s), .slice p (rqF s).length c], errOf (rqE s)]) ∧ OwnF w' w.heap.size (.slice p (rqF s).length c) (rqF s) ∧ Below w.heap.size w w' := by
  by_cases hs : s.st = 11 ∧ s.resp = false
  · refine (req_yes h hs.1 hs.2 hf).mono ?_
    rintro e w' ⟨v, rfl, ho, hb⟩
    obtain ⟨p, n, c, rfl⟩ := own_slice3 ho
    have hn := sliceF_len ho
    refine ⟨p, c, ?_, ?_, hb⟩
    · unfold reqC rqM rqT rqK rqF rqE
      simp only [if_pos hs, hn]
    · unfold rqF
      rw [if_pos hs, hn]
      exact ho
  · refine (req_no h hs).mono ?_
    rintro e w' ⟨rfl, hb⟩
    refine ⟨none, 0, ?_, ?_, hb⟩
    · unfold reqZ rqM rqT rqK rqF rqE
      simp only [if_neg hs]
      rfl
    · unfold rqF
      rw [if_neg hs]
      exact OwnF.nil _ _
theorem tellP_any {F : Nat → Prop} {w : World} {g : Nat} {s : PS} (h : RdAt F w g s) (hf : s.fields.length ≤ 64) : Calls Tryd.prog 22 #[.pointer (some ⟨g, 0, none⟩)] w fun e w' => ∃ p c, e = .returned (.tuple #[.agg #[.int .i64 (rpS s), .string (str (rpR s)), .int .i64 (rpK s), .slice p (rpF s).length c], errOf (rpE s)]) ∧ OwnF w' w.heap.size (.slice p (rpF s).length c) (rpF s) ∧ Below w.heap.size w w' := by
  by_cases hs : s.st = 11 ∧ s.resp = true
  · refine (resp_yes h hs.1 hs.2 hf).mono ?_
    rintro e w' ⟨v, rfl, ho, hb⟩
    obtain ⟨p, n, c, rfl⟩ := own_slice3 ho
    have hn := sliceF_len ho
    refine ⟨p, c, ?_, ?_, hb⟩
    · unfold respC rpS rpR rpK rpF rpE
      simp only [if_pos hs, hn]
    · unfold rpF
      rw [if_pos hs, hn]
      exact ho
  · refine (resp_no h hs).mono ?_
    rintro e w' ⟨rfl, hb⟩
    refine ⟨none, 0, ?_, ?_, hb⟩
    · unfold respZ rpS rpR rpK rpF rpE
      simp only [if_neg hs]
      rfl
    · unfold rpF
      rw [if_neg hs]
      exact OwnF.nil _ _
/-- A copy of bytes that were handed in. -/
theorem wpList_copy {w : World} {ops : Array Oper} {rest : List Oper} {o : Oper} {a : Act} {Q : Exit → Act → World → Prop} (hgd : o.guard = none) (s x : Operand)
    (ho : o.op = .call { callee := .builtin .append, args := #[s, x], argTypes := #[22, 22] }) (hs : a.eval s = .slice none 0 0) (L : B) (p : Option Addr) (n c : Nat) (hx : a.eval x = .slice p n c) (hn : L.length = n) (hA : ArgAt w p L) (hp : p = none → c = 0) (hl : n ≤ 140737488355328)
    (h : ∀ q d w', Own w' w.heap.size (.slice q n d) L → Below w.heap.size w w' → (n = 0 → q = none ∧ d = 0) → (0 < n → ∃ g, q = some ⟨g, 0, none⟩) → wpList Tryd.prog ops Q rest (a.put o.dst (.slice q n d)) w') : wpList Tryd.prog ops Q (o :: rest) a w := by
  obtain ⟨i0, hi0, hz0, hz1, hz2⟩ := info_parts infoB
  cases p with
  | none =>
    have hL : L = [] := by
      cases L with
      | nil => rfl
      | cons y r => obtain ⟨_, _, e, _⟩ := hA 0 y rfl; cases e
    subst hL
    obtain rfl : n = 0 := by simpa using hn.symm
    obtain rfl := hp rfl
    exact wpList_append_own_none hgd s x 22 ho w.heap.size 5 i0 1 Tryd.underlying22 hi0 (.slice none 0 0) 0 [] hs ⟨rfl, .inl ⟨rfl, rfl⟩⟩ hx (h none 0 w (Own.nil _ _) (Below.refl _ _) (fun _ => ⟨rfl, rfl⟩) (fun h => absurd h (by omega)))
  | some ad =>
    refine wpList_append_own_at w hgd s x 22 ho w.heap.size 5 i0 _ 1 1 Tryd.underlying22 hi0 hz0 hz1 hz2 rfl (by decide) (.slice none 0 0) 0 [] hs ⟨rfl, .inl ⟨rfl, rfl⟩⟩ ad n c (Lib.byteCells L) hx (by simp [Lib.byteCells, hn]) (fun j u hj => ?_) (fun u hu => ?_) (by unfold maxLen; omega) (by omega) (Nat.le_refl _) ?_
    · unfold Lib.byteCells at hj
      rw [List.getElem?_map] at hj
      cases hy : L[j]? with
      | none => rw [hy] at hj; cases hj
      | some y =>
        rw [hy] at hj
        obtain rfl := Option.some.inj hj
        obtain ⟨g, o2, e, hc⟩ := hA j y hy
        obtain rfl := Option.some.inj e
        have : (⟨g, o2, none⟩ : Addr).add j = ⟨g, o2 + j, none⟩ := by unfold Addr.add; split <;> simp_all
        rw [this]
        exact hc
    · unfold Lib.byteCells at hu
      obtain ⟨c, _, rfl⟩ := List.mem_map.1 hu
      rfl
    · intro v' w' hown hgr hnil _
      rw [Nat.zero_add, List.nil_append] at hown
      have hsome : 0 < n → ∃ g cp, v' = .slice (some ⟨g, 0, none⟩) n cp := fun hp => by
        rcases hown.2 with ⟨_, h0⟩ | ⟨g, cap, cur, h1, _⟩
        · omega
        · exact ⟨g, cap, h1⟩
      obtain ⟨q, d, rfl⟩ := own_slice hown
      refine h q d w' (by unfold Own; rw [hn]; exact hown) (below_grown hgr) (fun h0 => ?_) (fun h0 => ?_)
      · have := hnil.2 ⟨rfl, h0⟩
        simp only [Value.slice.injEq] at this
        exact ⟨this.1, this.2.2⟩
      · obtain ⟨g, cp, e⟩ := hsome h0
        simp only [Value.slice.injEq] at e
        exact ⟨g, e.1⟩
theorem cut_at (a : Int) {x : Nat} (h : 0 < x) : ∃ i : Nat, (IntKind.u64.wrap a).tmod (x : Int) = (i : Int) ∧ i < x := by
  have h0 : 0 ≤ IntKind.u64.wrap a := by rw [IntKind.wrap_u64]; omega
  rw [Int.tmod_eq_emod_of_nonneg h0]
  have h1 := Int.emod_nonneg (IntKind.u64.wrap a) (show (x : Int) ≠ 0 by omega)
  have h2 := Int.emod_lt_of_pos (IntKind.u64.wrap a) (show (0 : Int) < (x : Int) by omega)
  exact ⟨(IntKind.u64.wrap a % (x : Int)).toNat, by omega, by omega⟩
theorem wrap_small {i x : Nat} (h : i ≤ x) (hx : x ≤ 140737488355328) : wrap64 (i : Int) = (i : Int) := by unfold wrap64; omega
theorem arg_take {w : World} {p : Option Addr} {L : B} (h : ArgAt w p L) (i : Nat) : ArgAt w p (L.take i) := by
  intro j y hj
  rw [List.getElem?_take] at hj
  split at hj
  · exact h j y hj
  · cases hj
theorem arg_drop {w : World} {g o : Nat} {L : B} (h : ArgAt w (some ⟨g, o, none⟩) L) (i : Nat) : ArgAt w (some ⟨g, o + i, none⟩) (L.drop i) := by
  intro j y hj
  rw [List.getElem?_drop] at hj
  obtain ⟨g2, o2, e, hc⟩ := h (i + j) y hj
  simp only [Option.some.injEq, Addr.mk.injEq, and_true] at e
  obtain ⟨rfl, rfl⟩ := e
  exact ⟨g, o + i, rfl, by rw [Nat.add_assoc]; exact hc⟩
/-- Bytes of one's own lie outside of what lies below them. -/
theorem own_out {w : World} {F : Nat → Prop} {b n c : Nat} {p : Option Addr} {L l : B} (h : Own w b (.slice p n c) L) (hF : ∀ k, F k → k < b) : ArgOut F p l := by
  intro a e _ hf
  have := hF _ hf
  rcases h.2 with ⟨h1, _⟩ | ⟨g, cap, cur, h1, h2, _⟩
  · simp only [Value.slice.injEq] at h1
    rw [h1.1] at e
    cases e
  · simp only [Value.slice.injEq] at h1
    rw [h1.1] at e
    obtain rfl := Option.some.inj e
    dsimp only at this
    omega
theorem own_keepF {w w' : World} {F : Nat → Prop} {b n c : Nat} {p : Option Addr} {L : B} (h : Own w b (.slice p n c) L) (ho : Only F w w') (hF : ∀ k, F k → k < b ∨ w.heap.size ≤ k) : Own w' b (.slice p n c) L := by
  refine ⟨h.1, ?_⟩
  rcases h.2 with h1 | ⟨g, cap, cur, h1, h2, h3, h4⟩
  · exact .inl h1
  · refine .inr ⟨g, cap, cur, h1, h2, (ho.block g (lt_of_heap h3) (fun hf => ?_)).trans h3, h4⟩
    have := hF g hf
    have := lt_of_heap h3
    omega
end Go.Proofs.YtmcglcdpcblckaaDoor
