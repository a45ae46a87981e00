/- The document's bytes behind a message. -/
import Derived.Test.YtojcaoieodogdaaDoorAppend
namespace Go.Proofs.YtojcaoieodogdaaDoor
open Go.RowKit

theorem one_arg (V : World) (x : Int) : ArgAt (V.alloc (.cells #[.int .u8 x] 5)) (.slice (some ⟨V.heap.size, 0, none⟩) 1 1) [x] := by
  refine .inr ⟨V.heap.size, 0, 1, by simp, rfl, Nat.le_refl _, by unfold maxLen; omega, ?_⟩
  intro j v hj
  rw [Nat.zero_add, (row_new V #[.int .u8 x] 5).cell j]
  match j, hj with
  | 0, hj => simpa using hj
theorem Mine.next {w w' w2 : World} {pa : Option Addr} {cap : Nat} {l : List Int} (h : Mine w w' pa cap l) (hb : Below w'.heap.size w' w2) : Mine w w2 pa cap l := by
  refine ⟨h.below.trans (hb.mono h.below.size), h.fits, h.most, h.nothing, fun a ha => ?_⟩
  obtain ⟨b, cur, h0, h1, h2, h3⟩ := h.row a ha
  exact ⟨b, cur, h0, h1, (hb.block b (lt_of_heap h2)).trans h2, h3⟩
theorem mineB_nil (w : World) : Mine w w none 0 [] := ⟨Below.refl _ _, Nat.le_refl _, Nat.zero_le _, fun _ => ⟨rfl, rfl⟩, fun a ha => by simp at ha⟩
def headL (N : Nat) : List Int := 128 :: List.replicate (N - 1) 0
theorem headL_len (N : Nat) (h : 1 ≤ N) : (headL N).length = N := by simp [headL]; omega
theorem headL_succ (N : Nat) (h : 1 ≤ N) : headL N ++ [0] = headL (N + 1) := by
  unfold headL
  rw [show N + 1 - 1 = (N - 1) + 1 by omega, List.replicate_succ', List.cons_append]
def tailL (n k : Nat) : List Int := (List.range k).map fun j => (n : Int) * 8 / 2 ^ (8 * (7 - j)) % 256
theorem tailL_len (n k : Nat) : (tailL n k).length = k := by simp [tailL]
theorem tailL_succ (n k : Nat) : tailL n (k + 1) = tailL n k ++ [(n : Int) * 8 / 2 ^ (8 * (7 - k)) % 256] := by simp [tailL, List.range_succ]
theorem pad_parts (n : Nat) : headL (padLen n - 8) ++ tailL n 8 = padL n := by
  have hb := padLen_bd n
  apply List.ext_getElem?
  intro j
  have hl : (headL (padLen n - 8)).length = padLen n - 8 := headL_len _ (by omega)
  rw [List.getElem?_append, hl]
  unfold padL padTo
  rw [List.getElem?_map]
  by_cases h1 : j < padLen n - 8
  · rw [if_pos h1, List.getElem?_range (by omega)]
    simp only [Option.map_some]
    unfold headL
    by_cases h0 : j = 0
    · subst h0; rfl
    · obtain ⟨i, rfl⟩ : ∃ i, j = i + 1 := ⟨j - 1, by omega⟩
      rw [List.getElem?_cons_succ, List.getElem?_replicate, if_pos (by omega), if_neg (by omega), if_neg (by omega)]
  · rw [if_neg h1]
    unfold tailL
    rw [List.getElem?_map]
    by_cases h2 : j < padLen n
    · rw [List.getElem?_range (by omega), List.getElem?_range (by omega)]
      simp only [Option.map_some]
      rw [if_neg (by omega), if_pos (by omega), show 7 - (j - (padLen n - 8)) = padLen n - 1 - j by omega]
    · rw [List.getElem?_eq_none (by simp; omega), List.getElem?_eq_none (by simp; omega)]
      rfl
theorem stop_at (n N : Nat) (h1 : 1 ≤ N) (h2 : N + 8 ≤ padLen n) : (n + N + 8) % 64 = 0 ↔ N + 8 = padLen n := by unfold padLen at *; omega
set_option maxRecDepth 20000 in
set_option maxHeartbeats 2000000 in
theorem refPad_any (n : Nat) (hn : n ≤ 1152921504606846976) (w : World) :
    Calls Tryd.prog 36 #[.int .i64 n] w fun e w' => ∃ pa c, e = .returned (.tuple #[.slice pa (padLen n) c, .int .i64 0]) ∧ Mine w w' pa c (padL n) := by
  have hn' : ¬ (1152921504606846976 : Int) < n := by omega
  have hb := padLen_bd n
  go_enter Tryd.func36, Tryd.ntmps36
  go_wp2_with (refine wpList_append_to (w0 := w) rfl _ _ rfl none 0 0 rfl [] rfl ((mineB_nil w).next (below_new _ _)) _ rfl [128] (one_arg _ _) 1 rfl (by omega) ?_; intro pa c W1 hm; have HM0 := hid hm; clear hm)
  go_loopw [4] (fun s W => ∃ (N c : Nat) (pa : Option Addr), s = .slice pa N c ∧ 1 ≤ N ∧ N + 8 ≤ padLen n ∧ Hid (Mine w W pa c (headL N))) (fun s _ => match s with | .slice _ N _ => 80 - N | _ => 0)
  case atStart => exact ⟨1, c, pa, rfl, Nat.le_refl _, by omega, HM0⟩
  case round =>
    obtain ⟨N, c, pa, rfl, h1, h2, HM⟩ := hrel
    obtain ⟨V, hV⟩ : ∃ V, V = wr := ⟨_, rfl⟩
    rw [← hV] at HM ⊢
    clear hV HM0
    have hs := stop_at n N h1 h2
    by_cases hgo : N + 8 = padLen n
    · have hz : ((n : Int) + N + 8) % 64 = 0 := by have := hs.2 hgo; omega
      have hN2 : (N : Int) ≤ 100 := by omega
      have e8 : N = padLen n - 8 := by omega
      have HE8 := hid e8
      have HN := hid h1
      have HG := hid hgo
      clear hs e8 hgo h1 h2
      go_wp2
      clear hz
      go_loopw [4, 6] (fun s i W => ∃ (k c : Nat) (pa : Option Addr), k ≤ 8 ∧ s = .slice pa (N + k) c ∧ i = .int .i64 (7 - (k : Int)) ∧ Hid (Mine w W pa c (headL N ++ tailL n k))) (fun _ i _ => (intOf i + 1).toNat)
      case atStart => exact ⟨0, c, pa, Nat.zero_le _, rfl, rfl, by simpa [tailL] using HM⟩
      case round =>
        clear HM
        obtain ⟨k, c, pa, hk, rfl, rfl, HM⟩ := hrel
        obtain ⟨U, hU⟩ : ∃ U, U = wr := ⟨_, rfl⟩
        rw [← hU] at HM ⊢
        clear hU
        have hlk : (headL N ++ tailL n k).length = N + k := by rw [List.length_append, headL_len N HN.out, tailL_len]
        have HLK := hid hlk
        clear hlk
        by_cases hlt : k < 8
        · obtain ⟨j, hj⟩ : ∃ j : Nat, 7 - k = j := ⟨_, rfl⟩
          have hj' : (7 : Int) - k = (j : Int) := by omega
          have hj1 : (j : Int) ≤ 7 := by omega
          have HJ := hid hj
          have HJ' := hid hj'
          rw [hj']
          clear hj hj'
          go_wp2_with (refine wpList_append_to (w0 := w) rfl _ _ rfl pa (N + k) c rfl (headL N ++ tailL n k) HLK.out (HM.out.next (below_new _ _)) _ rfl [(n : Int) * 8 / 2 ^ (8 * j) % 256] (one_arg _ _) (N + k + 1) (by rw [List.length_append, HLK.out]; rfl) (by omega) ?_; intro pa2 c2 W2 hm2; have HM2 := hid hm2; clear hm2)
          go_roundw
          case rel =>
            refine ⟨k + 1, c2, pa2, by omega, rfl, ?_, ?_⟩
            · have := HJ'.out
              congr 1
              omega
            · rw [tailL_succ, HJ.out, ← List.append_assoc]
              exact HM2
          case measure => first | (simp [intOf]; done) | (simp [intOf]; omega)
        · obtain rfl : k = 8 := by omega
          go_wp2
          refine bodyPost_ret (results_tmp2 rfl _ _ _) rfl ?_
          refine ⟨pa, c, by have := HG.out; rw [← HG.out]; rfl, ?_⟩
          rw [← pad_parts, ← HE8.out]
          exact HM.out
    · have hz : ¬ ((n : Int) + N + 8) % 64 = 0 := fun h => hgo (hs.1 (by omega))
      have hN2 : (N : Int) ≤ 100 := by omega
      have HN := hid h1
      clear hs
      go_wp2_with (refine wpList_append_to (w0 := w) rfl _ _ rfl pa N c rfl (headL N) (headL_len N HN.out) (HM.out.next (below_new _ _)) _ rfl [0] (one_arg _ _) (N + 1) (by rw [List.length_append, headL_len N HN.out]; rfl) (by omega) ?_; intro pa2 c2 W2 hm2; have HM2 := hid hm2; clear hm2)
      go_roundw
      case rel => exact ⟨N + 1, c2, pa2, rfl, by omega, by omega, by rw [← headL_succ N h1]; exact HM2⟩
      case measure => show 80 - (N + 1) < 80 - N; omega
theorem refPad_no (n : Int) (h : n < 0 ∨ 1152921504606846976 < n) (w : World) :
    Calls Tryd.prog 36 #[.int .i64 n] w fun e w' => e = .returned (.tuple #[.slice none 0 0, .int .i64 1]) ∧ w' = w := by
  rcases (by omega : n < 0 ∨ (¬ n < 0 ∧ (1152921504606846976 : Int) < n)) with h | ⟨h0, h⟩
  all_goals
    go_enter Tryd.func36, Tryd.ntmps36
    go_wp2
    go_ret2
    exact ⟨rfl, rfl⟩
end Go.Proofs.YtojcaoieodogdaaDoor
