/- The document's Line of a ring. -/
import Derived.Test.YtfiiiefhchbhlaaRefWrite
namespace Go.Proofs.Ytfiiiefhchbhlaa
open Go.RowKit

/-- What the document's Line leaves. -/
structure LineP (r g : Nat) (w w' : World) (v' vl : Value) (q : List Int) (most : Int) : Prop where
  below : Below w.heap.size w w'
  rest : QAt r g w' v' (lineR q most)
  line : QAt r g w' vl (lineL q most)
theorem lineP_err {r g : Nat} {w w' : World} {v' : Value} {q : List Int} {most : Int} (hb : Below w.heap.size w w') (h : QAt r g w v' q) (hc : lineC q most ≠ 0) : LineP r g w w' v' (.slice none 0 0) q most :=
  ⟨hb, by unfold lineR; rw [if_neg hc]; exact h.below hb, by unfold lineL; rw [if_neg hc]; exact .inl ⟨rfl, rfl⟩⟩
def RInv (q : List Int) (most : Int) (k : Nat) : Prop := k ≤ q.length ∧ (((k : Int) ≤ most ∧ scan most 0 q = scan most k (q.drop k)) ∨ (most < k ∧ lineC q most = 2 ∧ most < q.length))
theorem ret3 {S : Int} {v vl : Value} {c d : Int} (h : c = d) : Ending.returned (.tuple #[.agg #[.int .i64 S, v], vl, .int .i64 d]) = .returned (.tuple #[.agg #[.int .i64 S, v], vl, .int .i64 c]) := by rw [h]
theorem ArgAt.slice3 {w : World} {v : Value} {q : List Int} (h : ArgAt w v q) : ∃ pv n c, v = .slice pv n c ∧ Hid (n = q.length) := by
  obtain ⟨pv, c, rfl⟩ := h.slice
  exact ⟨pv, _, c, rfl, rfl⟩
/-- The cells of the variables behind two Reads. -/
theorem line_cells {w w3 w5 : World} {x : Obj} {A B : Value} (h3 : Below (((w.alloc x).alloc (.cells #[.int .i64 0, .slice none 0 0] 30)).heap.size) ((w.alloc x).alloc (.cells #[.int .i64 0, .slice none 0 0] 30)) w3) (h5 : Below (w3.alloc (.cells #[A, B] 30)).heap.size (w3.alloc (.cells #[A, B] 30)) w5) :
    w5.cell? ⟨w3.heap.size, 0, none⟩ = some A ∧ w5.cell? ⟨w3.heap.size, 1, none⟩ = some B ∧ w5.frozen? ⟨w3.heap.size, 0, none⟩ = false ∧ w5.frozen? ⟨w3.heap.size, 1, none⟩ = false ∧
    w5.cell? ⟨w.heap.size + 1, 0, none⟩ = some (.int .i64 0) ∧ w5.cell? ⟨w.heap.size + 1, 1, none⟩ = some (.slice none 0 0) ∧ w5.frozen? ⟨w.heap.size + 1, 0, none⟩ = false ∧ w5.frozen? ⟨w.heap.size + 1, 1, none⟩ = false ∧ ¬ w3.heap.size = w.heap.size + 1 ∧ ¬ w.heap.size + 1 = w3.heap.size := by
  have e1 := (h5.block w3.heap.size (by simp)).trans (heap_new w3 (.cells #[A, B] 30))
  have e2 : ((w.alloc x).alloc (.cells #[.int .i64 0, .slice none 0 0] 30)).heap[w.heap.size + 1]? = some (.cells #[.int .i64 0, .slice none 0 0] 30) := by
    have := heap_new (w.alloc x) (.cells #[.int .i64 0, .slice none 0 0] 30)
    simpa only [World.size_alloc] using this
  have hz := h3.size
  simp only [World.size_alloc] at hz
  have e3 := (h3.block (w.heap.size + 1) (by simp)).trans e2
  have e4 := (h5.block (w.heap.size + 1) (by simp only [World.size_alloc]; omega)).trans ((heap_old w3 (.cells #[A, B] 30) _ (by omega)).trans e3)
  refine ⟨?_, ?_, ?_, ?_, ?_, ?_, ?_, ?_, by omega, by omega⟩
  · simp only [World.cell?, e1]; rfl
  · simp only [World.cell?, e1]; rfl
  · simp [World.frozen?, e1]
  · simp [World.frozen?, e1]
  · simp only [World.cell?, e4]; rfl
  · simp only [World.cell?, e4]; rfl
  · simp [World.frozen?, e4]
  · simp [World.frozen?, e4]
theorem no_u8 {w : World} {B : Nat} {A : Int} {V : Value} {t : TypeId} {z : Nat × Nat} (hV : ∀ x, V ≠ .int .u8 x) (h : w.heap[B]? = some (.cells #[.int .i64 A, V] t z)) : ∀ j x, w.cell? ⟨B, j, none⟩ ≠ some (.int .u8 x) := by
  intro j x hc
  simp only [World.cell?, h] at hc
  match j, hc with
  | 0, hc => simp at hc
  | 1, hc => simp at hc; exact hV x hc
  | j + 2, hc => simp at hc
theorem CellsAt.over {w5 w6 : World} {b o B1 B2 : Nat} {bs : List Int} (h : CellsAt w5 b o bs) (hk : ∀ k, k ≠ B1 → k ≠ B2 → w6.heap[k]? = w5.heap[k]?) (h1 : ∀ j x, w5.cell? ⟨B1, j, none⟩ ≠ some (.int .u8 x)) (h2 : ∀ j x, w5.cell? ⟨B2, j, none⟩ ≠ some (.int .u8 x)) : CellsAt w6 b o bs := by
  intro j v hj
  have h3 := h j v hj
  have hb1 : b ≠ B1 := fun e => by subst e; exact h1 _ _ h3
  have hb2 : b ≠ B2 := fun e => by subst e; exact h2 _ _ h3
  unfold World.cell? at h3 ⊢
  rwa [hk b hb1 hb2]
theorem lineP_ok {r g k : Nat} {S : Int} {w w3 w5 : World} {x : Obj} {v1 vo1 v2 vo2 : Value} {q : List Int} {most : Int} (hC : lineC q most = 0) (hs : scan most 0 q = (0, k)) (hk : k + 1 < q.length) {V : Value} (hV : ∀ x, V ≠ .int .u8 x)
    (h1 : ReadP r g ((w.alloc x).alloc (.cells #[.int .i64 0, .slice none 0 0] 30)) w3 v1 vo1 q k) (h2 : ReadP r g (w3.alloc (.cells #[.int .i64 S, V] 30)) w5 v2 vo2 (q.drop k) (held 2 (q.drop k).length)) (A B C D : Value) :
    LineP r g w ((((w5.setCell ⟨w3.heap.size, 0, none⟩ A).setCell ⟨w3.heap.size, 1, none⟩ B).setCell ⟨w.heap.size + 1, 0, none⟩ C).setCell ⟨w.heap.size + 1, 1, none⟩ D) v2 vo1 q most := by
  have hz3 := h1.below.size
  simp only [World.size_alloc] at hz3
  have hz5 := h2.below.size
  simp only [World.size_alloc] at hz5
  have hkeep : ∀ i, i ≠ w3.heap.size → i ≠ w.heap.size + 1 → ((((w5.setCell ⟨w3.heap.size, 0, none⟩ A).setCell ⟨w3.heap.size, 1, none⟩ B).setCell ⟨w.heap.size + 1, 0, none⟩ C).setCell ⟨w.heap.size + 1, 1, none⟩ D).heap[i]? = w5.heap[i]? := fun i hi1 hi2 => by
    rw [Below.heap_setCell _ _ _ _ (by show i ≠ w.heap.size + 1; exact hi2), Below.heap_setCell _ _ _ _ (by show i ≠ w.heap.size + 1; exact hi2), Below.heap_setCell _ _ _ _ (by show i ≠ w3.heap.size; exact hi1), Below.heap_setCell _ _ _ _ (by show i ≠ w3.heap.size; exact hi1)]
  have hsz : w5.heap.size ≤ ((((w5.setCell ⟨w3.heap.size, 0, none⟩ A).setCell ⟨w3.heap.size, 1, none⟩ B).setCell ⟨w.heap.size + 1, 0, none⟩ C).setCell ⟨w.heap.size + 1, 1, none⟩ D).heap.size := by simp [World.setCell]
  have e1 : w5.heap[w3.heap.size]? = some (.cells #[.int .i64 S, V] 30) := (h2.below.block w3.heap.size (by simp)).trans (heap_new w3 _)
  have e2 : ((w.alloc x).alloc (.cells #[.int .i64 0, .slice none 0 0] 30)).heap[w.heap.size + 1]? = some (.cells #[.int .i64 0, .slice none 0 0] 30) := by
    have := heap_new (w.alloc x) (.cells #[.int .i64 0, .slice none 0 0] 30)
    simpa only [World.size_alloc] using this
  have e3 : w5.heap[w.heap.size + 1]? = some (.cells #[.int .i64 0, .slice none 0 0] 30) :=
    (h2.below.block (w.heap.size + 1) (by simp only [World.size_alloc]; omega)).trans ((heap_old w3 _ _ (by omega)).trans ((h1.below.block (w.heap.size + 1) (by simp)).trans e2))
  have u1 := no_u8 hV e1
  have u2 := no_u8 (V := .slice none 0 0) (fun x h => by cases h) e3
  have hb : Below w.heap.size w ((((w5.setCell ⟨w3.heap.size, 0, none⟩ A).setCell ⟨w3.heap.size, 1, none⟩ B).setCell ⟨w.heap.size + 1, 0, none⟩ C).setCell ⟨w.heap.size + 1, 1, none⟩ D) :=
    (((((two_below w x _).trans (h1.below.mono (by simp; omega))).trans ((((Below.refl w.heap.size w3).alloc (by omega) _).trans (h2.below.mono (by simp; omega)))) |>.setCell (by show _ ≤ w3.heap.size; omega) _).setCell (by show _ ≤ w3.heap.size; omega) _).setCell (by show _ ≤ w.heap.size + 1; omega) _).setCell (by show _ ≤ w.heap.size + 1; omega) _
  refine ⟨hb, ?_, ?_⟩
  · have h3 := h2.rest
    rw [show held 2 (q.drop k).length = 2 from held_nat 2 _ (by simp; omega), List.drop_drop] at h3
    unfold lineR
    rw [if_pos hC, hs]
    rcases h3 with h3 | ⟨b, o, cap, h4, h5, h6, h7, h8⟩
    · exact .inl h3
    · exact .inr ⟨b, o, cap, ⟨Nat.lt_of_lt_of_le h4.1 hsz, h4.2⟩, h5, h6, h7, h8.over hkeep u1 u2⟩
  · have h3 : QAt r g w5 vo1 (q.take k) := (h1.out.below ((Below.refl _ _).alloc (Nat.le_refl _) (.cells #[.int .i64 S, V] 30))).below h2.below
    unfold lineL
    rw [if_pos hC, hs]
    rcases h3 with h3 | ⟨b, o, cap, h4, h5, h6, h7, h8⟩
    · exact .inl h3
    · exact .inr ⟨b, o, cap, ⟨Nat.lt_of_lt_of_le h4.1 hsz, h4.2⟩, h5, h6, h7, h8.over hkeep u1 u2⟩
set_option maxHeartbeats 4000000 in
theorem refLine_core (r g : Nat) (S : Int) (pv : Option Addr) (N c : Nat) (q : List Int) (most : Int) (w : World) (hN : q.length = N) (hq : QAt r g w (.slice pv N c) q) (hN2 : N ≤ 1048576) (hm2 : most ≤ 9223372036854775807) (HG : Hid (r < w.heap.size ∧ g < w.heap.size)) :
    Calls Try.prog 24 #[.agg #[.int .i64 S, .slice pv N c], .int .i64 most] w fun e w' => ∃ v' vl, e = .returned (.tuple #[.agg #[.int .i64 S, v'], vl, .int .i64 (lineC q most)]) ∧ LineP r g w w' v' vl q most := by
  have HN := hid hN
  have HQ := hid hq
  obtain ⟨c0, c1, d0, d1, fz⟩ := box_cells (w := w) (.int .i64 S) (.slice pv N c) (Below.refl _ _)
  have f0 := fz 0
  have f1 := fz 1
  have HB2 := hid (two_below w (.cells #[.int .i64 S, .slice pv N c] 30) (.cells #[.int .i64 0, .slice none 0 0] 30))
  have HCell : Hid (∀ j, j < N → ∃ b o, pv = some ⟨b, o, none⟩ ∧ ((w.alloc (.cells #[.int .i64 S, .slice pv N c] 30)).alloc (.cells #[.int .i64 0, .slice none 0 0] 30)).cell? ⟨b, o + j, none⟩ = some (.int .u8 (q.getD j 0))) := by
    intro j hj
    obtain ⟨pv', c', h1, h2, h3, h4⟩ := (hq.arg.below HB2.out).form
    simp only [Value.slice.injEq] at h1
    obtain ⟨b, o, h5, h6, h7⟩ := h4 j (by omega)
    exact ⟨b, o, h1.1.trans h5, h7⟩
  clear hN hq fz
  by_cases hm0 : most < 0
  · have HC : Hid (lineC q most = 1) := by show _ = _; unfold lineC; rw [if_pos hm0]
    go_enter Try.func24, Try.ntmps24
    go_wp2
    refine bodyPost_ret (v := .tuple #[.agg #[.int .i64 S, .slice pv N c], .slice none 0 0, .int .i64 1]) (by simp [results, go_sem]) rfl ⟨_, _, ret3 HC.out, lineP_err (two_below _ _ _) HQ.out (by rw [HC.out]; decide)⟩
  · have HC0 : Hid (0 ≤ most) := by show _ ≤ _; omega
    go_enter Try.func24, Try.ntmps24
    go_wp2
    go_loop [7] (fun i => ∃ k : Nat, i = .int .i64 k ∧ RInv q most k) (fun i => N - (intOf i).toNat)
    case atStart => exact ⟨0, rfl, Nat.zero_le _, .inl ⟨by have := HC0.out; omega, rfl⟩⟩
    case round =>
      obtain ⟨k, rfl, hinv⟩ := hrel
      have hkN : k ≤ N := by have := hinv.1; rw [HN.out] at this; exact this
      have HI := hid hinv
      clear hinv
      by_cases hlt : k < N
      · have hlt' : (k : Int) < N := by omega
        obtain ⟨b, o, hpv, hx⟩ := HCell.out k hlt
        have HPV := hid hpv
        obtain ⟨x, HX⟩ : ∃ x, Hid (q.getD k 0 = x) := ⟨_, rfl⟩
        rw [HX.out] at hx
        have HLQ : Hid (k < q.length) := by show _ < _; rw [HN.out]; exact hlt
        subst hpv
        by_cases hkm : most < k
        · have HC : Hid (lineC q most = 2) := by rcases HI.out.2 with h | h; (exact absurd h.1 (by omega)); exact h.2.1
          go_wp2
          refine bodyPost_ret (v := .tuple #[.agg #[.int .i64 S, .slice (some ⟨b, o, none⟩) N c], .slice none 0 0, .int .i64 2]) (by simp [results, go_sem]) rfl ⟨_, _, ret3 HC.out, lineP_err (two_below _ _ _) HQ.out (by rw [HC.out]; decide)⟩
        · have HSC : Hid (scan most 0 q = scan most k (q.drop k)) := by rcases HI.out.2 with h | h; (exact h.2); exact absurd h.1 hkm
          by_cases h10 : x = 10
          · subst h10
            have HC : Hid (lineC q most = 3) := lineC_of HC0.out (HSC.out.trans (scan_form most q k HLQ.out HX.out))
            go_wp2
            refine bodyPost_ret (v := .tuple #[.agg #[.int .i64 S, .slice (some ⟨b, o, none⟩) N c], .slice none 0 0, .int .i64 3]) (by simp [results, go_sem]) rfl ⟨_, _, ret3 HC.out, lineP_err (two_below _ _ _) HQ.out (by rw [HC.out]; decide)⟩
          · have b10 : (x == 10) = false := by simpa using h10
            have H10 := hid h10
            clear h10
            by_cases h13 : x = 13
            · subst h13
              by_cases hl : N = k + 1
              · have HC : Hid (lineC q most = 8) := lineC_of HC0.out (HSC.out.trans (scan_last most q k HLQ.out HX.out (by rw [HN.out]; exact hl)))
                have hl' : ((k : Int) == (N : Int) - 1) = true := by simp; omega
                have HL := hid hl
                clear hl
                go_wp2
                refine bodyPost_ret (v := .tuple #[.agg #[.int .i64 S, .slice (some ⟨b, o, none⟩) N c], .slice none 0 0, .int .i64 8]) (by simp [results, go_sem]) rfl ⟨_, _, ret3 HC.out, lineP_err (two_below _ _ _) HQ.out (by rw [HC.out]; decide)⟩
              · have hl2 : k + 1 < N := by omega
                have hl3 : ((k : Int) == (N : Int) - 1) = false := by simp; omega
                have hl4 : (k : Int) + 1 < N := by omega
                have HL1 : Hid (k + 1 < q.length) := by show _ < _; rw [HN.out]; exact hl2
                obtain ⟨b2, o2, hp2, hy⟩ := HCell.out (k + 1) hl2
                simp only [Option.some.injEq, Addr.mk.injEq, and_true] at hp2
                obtain ⟨rfl, rfl⟩ := hp2
                obtain ⟨y, HY⟩ : ∃ y, Hid (q.getD (k + 1) 0 = y) := ⟨_, rfl⟩
                rw [HY.out] at hy
                by_cases hy10 : y = 10
                · subst hy10
                  have HSL : Hid (scan most 0 q = (0, k)) := HSC.out.trans (scan_line most q k HL1.out HX.out HY.out)
                  have HC : Hid (lineC q most = 0) := lineC_of HC0.out HSL.out
                  go_wp2_with (first
                    | (go_at_call 23; refine (refRead_any r g S 2 _ (HR1.out.rest.below ((Below.refl _ _).alloc (Nat.le_refl _) _)) (by simp; have := HN.out; omega) (by have := HG.out; have := HR1.out.below.size; simp only [World.size_alloc] at this ⊢; omega)).mono ?_; rintro e w5 ⟨v2, vo2, rfl, h5⟩; obtain ⟨p2, n2, cc2, rfl, H2⟩ := h5.rest.arg.slice3; obtain ⟨po2, no2, co2, rfl, HO2⟩ := h5.out.arg.slice3; have HR2 := hid h5; obtain ⟨e0, e1, g0, g1, d0', d1', f0', f1', hne1, hne2⟩ := line_cells HR1.out.below h5.below; clear h5)
                    | (go_at_call 23; refine (refRead_any r g S k _ (HQ.out.below HB2.out) (by rw [HN.out]; exact hN2) (by have := HG.out; simp only [World.size_alloc]; omega)).mono ?_; rintro e w3 ⟨v1, vo1, rfl, h3⟩; rw [held_nat k _ (by have := HN.out; omega)] at h3; obtain ⟨p1, n1, cc1, rfl, H1⟩ := h3.rest.arg.slice3; obtain ⟨po1, no1, co1, rfl, HO1⟩ := h3.out.arg.slice3; have HR1 := hid h3; clear h3))
                  refine bodyPost_ret (v := .tuple #[.agg #[.int .i64 S, .slice p2 n2 cc2], .slice po1 no1 co1, .int .i64 0]) (by simp [results, go_sem, d0', d1']) rfl ⟨_, _, ret3 HC.out, ?_⟩
                  exact lineP_ok HC.out HSL.out HL1.out (fun x h => by cases h) HR1.out HR2.out _ _ _ _
                · have by10 : (y == 10) = false := by simpa using hy10
                  have HC : Hid (lineC q most = 3) := lineC_of HC0.out (HSC.out.trans (scan_bare most q k HL1.out HX.out (by rw [HY.out]; exact hy10)))
                  clear hy10
                  go_wp2
                  refine bodyPost_ret (v := .tuple #[.agg #[.int .i64 S, .slice (some ⟨b, o, none⟩) N c], .slice none 0 0, .int .i64 3]) (by simp [results, go_sem]) rfl ⟨_, _, ret3 HC.out, lineP_err (two_below _ _ _) HQ.out (by rw [HC.out]; decide)⟩
            · have b13 : (x == 13) = false := by simpa using h13
              have H13 := hid h13
              clear h13
              have HNX : Hid (RInv q most (k + 1)) := by
                refine ⟨by rw [HN.out]; omega, ?_⟩
                by_cases hmk : most ≤ k
                · exact .inr ⟨by omega, lineC_of HC0.out (HSC.out.trans (scan_long most q k HLQ.out (by rw [HX.out]; exact H13.out) (by rw [HX.out]; exact H10.out) hmk)), by rw [HN.out]; omega⟩
                · exact .inl ⟨by omega, HSC.out.trans (scan_next most q k HLQ.out (by rw [HX.out]; exact H13.out) (by rw [HX.out]; exact H10.out) hmk)⟩
              go_wp2
              all_goals
                go_round
                case rel => exact ⟨k + 1, by go_num, HNX.out⟩
                case measure => simp [intOf]; omega
      · have hlt' : ¬ (k : Int) < N := by omega
        by_cases hmN : most < N
        · have HC : Hid (lineC q most = 2) := by
            rcases HI.out.2 with h | h
            · exact absurd h.1 (by omega)
            · exact h.2.1
          go_wp2
          refine bodyPost_ret (v := .tuple #[.agg #[.int .i64 S, .slice pv N c], .slice none 0 0, .int .i64 2]) (by simp [results, go_sem]) rfl ⟨_, _, ret3 HC.out, lineP_err (two_below _ _ _) HQ.out (by rw [HC.out]; decide)⟩
        · have HC : Hid (lineC q most = 8) := by
            rcases HI.out.2 with h | h
            · exact lineC_of HC0.out (h.2.trans (scan_end most q k (by rw [HN.out]; omega)))
            · exact absurd h.2.2 (by rw [HN.out]; exact hmN)
          go_wp2
          refine bodyPost_ret (v := .tuple #[.agg #[.int .i64 S, .slice pv N c], .slice none 0 0, .int .i64 8]) (by simp [results, go_sem]) rfl ⟨_, _, ret3 HC.out, lineP_err (two_below _ _ _) HQ.out (by rw [HC.out]; decide)⟩
theorem refLine_any (r g : Nat) (S : Int) {v : Value} {q : List Int} (most : Int) (w : World) (hq : QAt r g w v q) (hN2 : q.length ≤ 1048576) (hm2 : most ≤ 9223372036854775807) (hg : r < w.heap.size ∧ g < w.heap.size) :
    Calls Try.prog 24 #[.agg #[.int .i64 S, v], .int .i64 most] w fun e w' => ∃ v' vl, e = .returned (.tuple #[.agg #[.int .i64 S, v'], vl, .int .i64 (lineC q most)]) ∧ LineP r g w w' v' vl q most := by
  obtain ⟨pv, c, rfl⟩ := hq.arg.slice
  exact refLine_core r g S pv q.length c q most w rfl hq hN2 hm2 hg
end Go.Proofs.Ytfiiiefhchbhlaa
