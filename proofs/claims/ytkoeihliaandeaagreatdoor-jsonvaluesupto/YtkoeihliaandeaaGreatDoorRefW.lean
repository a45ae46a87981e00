/- The document's reading: blanks, words, hexadecimal digits. -/
import Derived.Test.YtkoeihliaandeaaGreatDoorRefL
import Derived.Test.YtkoeihliaandeaaGreatDoorRefF
namespace Go.Proofs.YtkoeihliaandeaaGreatDoor
open Go.RowKit

/-- A reading in its own block, and the block of what is handed out. -/
structure RW2 (w W : World) (s : ByteArray) (p k : Int) : Prop where
  r : W.heap[w.heap.size]? = some (.cells #[.string s, .int .i64 p, .int .i64 k] 49 (0, 0))
  o : W.heap[w.heap.size + 1]? = some (.cells #[.string ⟨#[]⟩, .int .i64 0, .int .i64 0] 49 (0, 0))
  low : Below w.heap.size w W
theorem RW2.below {w W V : World} {s : ByteArray} {p k : Int} (h : RW2 w W s p k) (hb : Below W.heap.size W V) : RW2 w V s p k :=
  ⟨(hb.block _ (lt_of_heap h.r)).trans h.r, (hb.block _ (lt_of_heap h.o)).trans h.o, h.low.trans (hb.mono h.low.size)⟩
theorem RW2.move {w W : World} {s : ByteArray} {p k : Int} (h : RW2 w W s p k) (q z : Int) (hz : z = q) : RW2 w (W.setCell ⟨w.heap.size, 1, none⟩ (.int .i64 z)) s q k := by
  subst hz
  refine ⟨?_, ?_, h.low.setCell (Nat.le_refl _) _⟩
  · simp [World.setCell, Array.getElem?_modify, h.r]
  · rw [Below.heap_setCell _ _ _ _ (Nat.ne_of_gt (Nat.lt_succ_self _))]
    exact h.o
theorem RW2.put {w W : World} {s : ByteArray} {p k : Int} (h : RW2 w W s p k) (s' : ByteArray) (q j : Int) : RW2 w (((W.setCell ⟨w.heap.size, 0, none⟩ (.string s')).setCell ⟨w.heap.size, 1, none⟩ (.int .i64 q)).setCell ⟨w.heap.size, 2, none⟩ (.int .i64 j)) s' q j := by
  refine ⟨three_put (has_three h.r) _ _ _, (three_other (Nat.ne_of_gt (Nat.lt_succ_self _)) _ _ _).trans h.o, ?_⟩
  iterate 3 refine Below.setCell ?_ (show w.heap.size ≤ w.heap.size from Nat.le_refl _) _
  exact h.low
theorem RW2.out {w W : World} {s : ByteArray} {p k : Int} (h : RW2 w W s p k) (a0 a1 a2 : Value) : Below w.heap.size w (((W.setCell ⟨w.heap.size + 1, 0, none⟩ a0).setCell ⟨w.heap.size + 1, 1, none⟩ a1).setCell ⟨w.heap.size + 1, 2, none⟩ a2) := by
  iterate 3 refine Below.setCell ?_ (show w.heap.size ≤ w.heap.size + 1 by omega) _
  exact h.low
theorem RW2.start {w W0 : World} {s : ByteArray} {p k : Int} (h : W0 = (w.alloc (.cells #[.string s, .int .i64 p, .int .i64 k] 49 (0, 0))).alloc (.cells #[.string ⟨#[]⟩, .int .i64 0, .int .i64 0] 49 (0, 0))) : RW2 w W0 s p k := by
  obtain ⟨a, b, c⟩ := two_at h
  exact ⟨a, b, c⟩
theorem drop_nx {s : ByteArray} {P : Nat} (h : nx (s.data.toList.drop P) ≠ 0) : P < s.size ∧ s.data.toList.drop P = nx (s.data.toList.drop P) :: s.data.toList.drop (P + 1) := by
  rcases Nat.lt_or_ge P s.size with hlt | hge
  · obtain ⟨c, t, h1, h2⟩ := drop_cons hlt
    refine ⟨hlt, ?_⟩
    rw [h1, h2]
    rfl
  · rw [List.drop_of_length_le (show s.data.toList.length ≤ P from hge)] at h
    exact absurd rfl h
theorem blanks_nx (l : B) (h : blanksL.contains (nx l) = false) : blanks l = l := by
  cases l with
  | nil => rfl
  | cons c t =>
    show skips blanksL (c :: t) = c :: t
    exact skips_no (by rw [show blanksL.contains c = false from h]; decide)
theorem blank_four {c : UInt8} (h : blanksL.contains c = true) : c.toNat = 32 ∨ c.toNat = 9 ∨ c.toNat = 10 ∨ c.toNat = 13 := by
  have : c = 32 ∨ c = 9 ∨ c = 10 ∨ c = 13 := by simpa [blanksL] using h
  rcases this with rfl | rfl | rfl | rfl <;> simp
theorem blank_none {c : UInt8} (h : blanksL.contains c = false) : c.toNat ≠ 32 ∧ c.toNat ≠ 9 ∧ c.toNat ≠ 10 ∧ c.toNat ≠ 13 := by
  have h4 : ¬ (c = 32 ∨ c = 9 ∨ c = 10 ∨ c = 13) := by simpa [blanksL] using h
  refine ⟨fun e => h4 (.inl (UInt8.toNat_inj.1 e)), fun e => h4 (.inr (.inl (UInt8.toNat_inj.1 e))), fun e => h4 (.inr (.inr (.inl (UInt8.toNat_inj.1 e)))), fun e => h4 (.inr (.inr (.inr (UInt8.toNat_inj.1 e))))⟩
set_option maxRecDepth 20000 in
set_option maxHeartbeats 4000000 in
theorem rblanks_any (s : ByteArray) (p : Nat) (k : Int) (hp : p ≤ s.size) (hs : s.size ≤ 140737488355328) (w : World) : Calls Tryz.prog 32 #[.agg #[.string s, .int .i64 (p : Int), .int .i64 k]] w fun e w' => ∃ P : Nat, p ≤ P ∧ P ≤ s.size ∧ s.data.toList.drop P = blanks (s.data.toList.drop p) ∧ e = .returned (.agg #[.string s, .int .i64 (P : Int), .int .i64 k]) ∧ Below w.heap.size w w' := by
  obtain ⟨Bk, hBk⟩ : ∃ Bk, blanks (s.data.toList.drop p) = Bk := ⟨_, rfl⟩
  rw [hBk]
  have HBk := hid hBk
  obtain ⟨W0, hW0⟩ : ∃ W0, W0 = (w.alloc (.cells #[.string s, .int .i64 (p : Int), .int .i64 k] 49 (0, 0))).alloc (.cells #[.string ⟨#[]⟩, .int .i64 0, .int .i64 0] 49 (0, 0)) := ⟨_, rfl⟩
  have HW0 := hid hW0
  have HR0 := hid (RW2.start hW0)
  clear hW0 hBk
  go_enter Tryz.func32, Tryz.ntmps32
  go_wp2
  go_loopg [] (s.size - p + 1) (fun gk wr => ∃ P : Nat, p ≤ P ∧ P ≤ s.size ∧ gk = s.size - P + 1 ∧ blanks (s.data.toList.drop P) = Bk ∧ RW2 w wr s (P : Int) k)
  case atStart => exact ⟨p, by omega, hp, rfl, HBk.out, by rw [← HW0.out]; exact HR0.out⟩
  case round =>
    obtain ⟨P, h1, h2, rfl, hB, hR⟩ := hrel
    have HB := hid hB
    have HR := hid hR
    obtain ⟨x0, x1, x2, _⟩ := three hR.r
    obtain ⟨X, hX⟩ : ∃ X : Nat, (nx (s.data.toList.drop P)).toNat = X := ⟨_, rfl⟩
    have HX := hid hX
    clear hB hR
    cases hc : blanksL.contains (nx (s.data.toList.drop P)) with
    | true =>
      have h4 := blank_four hc
      obtain ⟨hlt, hd⟩ := drop_nx (s := s) (P := P) (fun e => by rw [e] at h4; simp at h4)
      have HN := hid (show blanks (s.data.toList.drop (P + 1)) = Bk from by
        rw [← HB.out, hd]
        exact (skips_yes hc).symm)
      rw [hX] at h4
      clear hX hc hd
      rcases h4 with rfl | rfl | rfl | rfl
      all_goals
        go_wp2_with (go_at_call 33; (with_reducible refine (rnext_any s P k h2 _).mono ?_); rintro e w1 ⟨rfl, hb⟩; rw [HX.out]; replace HR := hid (HR.out.below hb); clear hb x0 x1 x2; obtain ⟨x0, x1, x2, xz⟩ := three HR.out.r; have xz1 := xz 1; clear xz)
        go_roundg (s.size - (P + 1) + 1)
        case measure => omega
        case rel => exact ⟨P + 1, by omega, by omega, rfl, HN.out, HR.out.move _ _ (by push_cast; rfl)⟩
    | false =>
      obtain ⟨n32, n9, n10, n13⟩ := blank_none hc
      have HN := hid (show s.data.toList.drop P = Bk from by rw [← HB.out]; exact (blanks_nx _ hc).symm)
      rw [hX] at n32 n9 n10 n13
      have m32 : ((X : Int) == 32) = false := by simp only [beq_eq_false_iff_ne, ne_eq]; omega
      have m9 : ((X : Int) == 9) = false := by simp only [beq_eq_false_iff_ne, ne_eq]; omega
      have m10 : ((X : Int) == 10) = false := by simp only [beq_eq_false_iff_ne, ne_eq]; omega
      have m13 : ((X : Int) == 13) = false := by simp only [beq_eq_false_iff_ne, ne_eq]; omega
      clear hX hc n32 n9 n10 n13
      have HZ := hid h2
      go_wp2_with (go_at_call 33; (with_reducible refine (rnext_any s P k HZ.out _).mono ?_); rintro e w1 ⟨rfl, hb⟩; rw [HX.out]; replace HR := hid (HR.out.below hb); clear hb x0 x1 x2; obtain ⟨x0, x1, x2, _⟩ := three HR.out.r; obtain ⟨y0, y1, y2, yz⟩ := three HR.out.o; have yz0 := yz 0; have yz1 := yz 1; have yz2 := yz 2; clear yz)
      (try simp only [Exit.inBlock, Exit.then])
      refine bodyPost_ret (results_rd1 rfl _ _ _ 49 _ (0, 0) rfl (three_put (has_three HR.out.o) _ _ _) rfl) rfl ?_
      exact ⟨P, h1, h2, HN.out, rfl, HR.out.out _ _ _⟩
theorem word_step {c : UInt8} {ws l : B} (h0 : c ≠ 0) (h : nx l = c) : ∃ t, l = c :: t ∧ word (c :: ws) l = word ws t := by
  cases l with
  | nil => exact absurd h.symm h0
  | cons x t =>
    have : x = c := h
    subst this
    exact ⟨t, rfl, by simp [word]⟩
theorem word_stop {c : UInt8} {ws l : B} (h : nx l ≠ c) : word (c :: ws) l = .err 3 l := by
  cases l with
  | nil => rfl
  | cons x t =>
    have : x ≠ c := h
    simp [word, this]
/-- How the reading of a word ends. -/
def ToldRw (s : ByteArray) (r : Res Unit) (w : World) (e : Ending) (w' : World) : Prop := match r with
  | .ok _ u => ∃ P : Nat, P ≤ s.size ∧ s.data.toList.drop P = u ∧ e = .returned (.agg #[.string s, .int .i64 (P : Int), .int .i64 0]) ∧ Below w.heap.size w w'
  | .err k u => ∃ P : Nat, P ≤ s.size ∧ s.data.toList.drop P = u ∧ e = .returned (.agg #[.string s, .int .i64 (P : Int), .int .i64 (k : Int)]) ∧ Below w.heap.size w w'
set_option maxRecDepth 20000 in
set_option maxHeartbeats 4000000 in
theorem rword_any (s : ByteArray) (p : Nat) (ws : B) (hp : p ≤ s.size) (hs : s.size ≤ 140737488355328) (hw : ∀ c ∈ ws, c ≠ 0) (hl : ws.length ≤ 8) (w : World) : Calls Tryz.prog 36 #[.agg #[.string s, .int .i64 (p : Int), .int .i64 0], .string (str ws)] w fun e w' => ToldRw s (word ws (s.data.toList.drop p)) w e w' := by
  obtain ⟨T, hT⟩ : ∃ T, word ws (s.data.toList.drop p) = T := ⟨_, rfl⟩
  rw [hT]
  have HT := hid hT
  obtain ⟨S, hS⟩ : ∃ S, str ws = S := ⟨_, rfl⟩
  have HSd := hid (show S.data.toList = ws from by rw [← hS])
  obtain ⟨n, hn⟩ : ∃ n, S.size = n := ⟨_, rfl⟩
  have hsl : ws.length = n := by rw [← hn, ← hS]; show ws.length = ws.toArray.size; simp
  have HSl := hid hsl
  rw [hS]
  rw [hsl] at hl
  have HWs := hid hw
  obtain ⟨W0, hW0⟩ : ∃ W0, W0 = (w.alloc (.cells #[.string s, .int .i64 (p : Int), .int .i64 0] 49 (0, 0))).alloc (.cells #[.string ⟨#[]⟩, .int .i64 0, .int .i64 0] 49 (0, 0)) := ⟨_, rfl⟩
  have HW0 := hid hW0
  have HR0 := hid (RW2.start hW0)
  clear hW0 hT hS hsl hw
  go_enter Tryz.func36, Tryz.ntmps36
  go_wp2
  go_loopg [5] (n + 1) (fun gk s5 wr => ∃ i : Nat, i ≤ n ∧ p + i ≤ s.size ∧ gk = n - i + 1 ∧ s5 = .int .i64 (i : Int) ∧ word (ws.drop i) (s.data.toList.drop (p + i)) = T ∧ RW2 w wr s ((p + i : Nat) : Int) 0)
  case atStart => exact ⟨0, by omega, by omega, rfl, rfl, HT.out, by rw [← HW0.out]; exact HR0.out⟩
  case round =>
    obtain ⟨i, h1, h2, rfl, rfl, hT, hR⟩ := hrel
    have HT2 := hid hT
    obtain ⟨P, hP⟩ : ∃ P, p + i = P := ⟨_, rfl⟩
    rw [hP] at hR h2 HT2
    have HP := hid hP
    have HR := hid hR
    obtain ⟨x0, x1, x2, xz⟩ := three hR.r
    have xz1 := xz 1
    obtain ⟨X, hX⟩ : ∃ X : Nat, (nx (s.data.toList.drop P)).toNat = X := ⟨_, rfl⟩
    have HX := hid hX
    clear hT hR hP xz
    by_cases hin : i < n
    · have b1 : (i : Int) < (n : Int) := by omega
      have hiw : i < ws.length := by rw [HSl.out]; exact hin
      obtain ⟨c, hc⟩ : ∃ c, ws[i] = c := ⟨_, rfl⟩
      obtain ⟨Y, hY⟩ : ∃ Y : Nat, c.toNat = Y := ⟨_, rfl⟩
      have hby : ∀ h : i < S.size, (S[i]'h).toNat = Y := fun h => by
        have e : S.data.toList[i]? = some c := by rw [HSd.out, List.getElem?_eq_getElem hiw, hc]
        have e2 : S.data[i]? = some (S.data[i]'h) := Array.getElem?_eq_getElem h
        have e3 : S.data.toList[i]? = S.data[i]? := by simp
        have e4 : S.data[i]'h = c := Option.some.inj (e2.symm.trans (e3.symm.trans e))
        rw [← hY, ← e4]
        rfl
      have HDr := hid (show ws.drop i = c :: ws.drop (i + 1) from by rw [drop_get hiw, hc])
      have hc0 : c ≠ 0 := HWs.out c (by rw [← hc]; exact List.getElem_mem hiw)
      by_cases hXY : X = Y
      · have hnx : nx (s.data.toList.drop P) = c := UInt8.toNat_inj.1 (by rw [hX, hY, hXY])
        obtain ⟨hlt, hd⟩ := drop_nx (s := s) (P := P) (by rw [hnx]; exact hc0)
        have HN := hid (show word (ws.drop (i + 1)) (s.data.toList.drop (P + 1)) = T from by
          rw [← HT2.out, HDr.out]
          obtain ⟨t, ht, hwd⟩ := word_step (ws := ws.drop (i + 1)) hc0 hnx
          rw [hwd]
          rw [ht] at hd
          rw [← (List.cons.inj hd).2])
        subst hXY
        have q1 : ((X : Int) != (X : Int)) = false := by simp
        clear hX hY hnx hd hc0 hc hiw
        go_wp2
        refine wp_region_noPanic ?_
        refine any_begin 6 (by kernel_rfl) (by kernel_rfl) ?_
        refine late_begin (fun U => U.heap[w.heap.size]? = some (.cells #[.string s, .int .i64 (P : Int), .int .i64 0] 49 (0, 0))) (fun _ => false) (HR.out.below (below_drew (Below.refl _ _) 1)).r (fun hS => ?_)
        have HBV := hid (show Below wr.heap.size wr wr.drew from below_drew (Below.refl _ _) 1)
        generalize wr.drew = V at hS HBV ⊢
        refine late_take (i := 0) (some 12) rfl rfl (by kernel_rfl) (by kernel_rfl) (by kernel_rfl) (by kernel_rfl) (by kernel_rfl) (fun _ _ _ h => h) (by rfl) (v := ?v0a) ?hy0a hS ?rest0a
        case hy0a => intro w0 hSw; obtain ⟨k0, k1, k2, _⟩ := three hSw; go_simp; try with_reducible rfl
        simp only [Act.put, List.setIfInBounds_toArray, List.set_cons_zero, List.set_cons_succ]
        refine late_take (i := 2) (some 14) rfl rfl (by kernel_rfl) (by kernel_rfl) (by kernel_rfl) (by kernel_rfl) (by kernel_rfl) (fun _ _ _ h => h) (by rfl) (v := ?v2a) ?hy2a hS ?rest2a
        case hy2a => intro w0 hSw; obtain ⟨k0, k1, k2, _⟩ := three hSw; go_simp; try with_reducible rfl
        simp only [Act.put, List.setIfInBounds_toArray, List.set_cons_zero, List.set_cons_succ]
        refine late_take (i := 3) (some 15) rfl rfl (by kernel_rfl) (by kernel_rfl) (by kernel_rfl) (by kernel_rfl) (by kernel_rfl) (fun _ _ _ h => h) (by rfl) (v := ?v3a) ?hy3a hS ?rest3a
        case hy3a => intro w0 hSw; obtain ⟨k0, k1, k2, _⟩ := three hSw; go_simp; try with_reducible rfl
        simp only [Act.put, List.setIfInBounds_toArray, List.set_cons_zero, List.set_cons_succ]
        refine late_take (i := 4) (some 16) rfl rfl (by kernel_rfl) (by kernel_rfl) (by kernel_rfl) (by kernel_rfl) (by kernel_rfl) (fun _ _ _ h => h) (by rfl) (v := ?v4a) ?hy4a hS ?rest4a
        case hy4a => intro w0 hSw; obtain ⟨k0, k1, k2, _⟩ := three hSw; go_simp; try with_reducible rfl
        simp only [Act.put, List.setIfInBounds_toArray, List.set_cons_zero, List.set_cons_succ]
        refine wpAnyD_one (i := 1) (by kernel_rfl) rfl (fun K hK => ?_)
        go_simp
        go_at_call 33
        refine (rnext_any s P 0 h2 V).mono ?_
        rintro e w1 ⟨rfl, hb⟩
        rw [HX.out]
        have HR1 := hid (HR.out.below (HBV.out.trans (hb.mono HBV.out.size)))
        clear hb
        have hS2 := HR1.out.r
        refine hK _ _ ⟨fun _ => hS2, ?_⟩
        clear hK K
        replace hS := hS2
        clear hS2
        obtain ⟨z0, z1, z2, zz⟩ := three hS
        have zz1 := zz 1
        clear zz
        refine late_take (i := 5) (some 17) rfl rfl (by kernel_rfl) (by kernel_rfl) (by kernel_rfl) (by kernel_rfl) (by kernel_rfl) (fun _ _ _ h => h) (by rfl) (v := ?v5a) ?hy5a hS ?rest5a
        case hy5a => intro w0 hSw; obtain ⟨k0, k1, k2, _⟩ := three hSw; go_simp; try with_reducible rfl
        simp only [Act.put, List.setIfInBounds_toArray, List.set_cons_zero, List.set_cons_succ]
        refine late_done (by kernel_rfl) ?_ _
        refine NoPanic.normal ?_
        clear hS
        go_wp2
        go_roundg (n - (i + 1) + 1)
        case measure => omega
        case rel => exact ⟨i + 1, by omega, by have := HP.out; omega, rfl, by push_cast; rfl, by rw [show p + (i + 1) = P + 1 by have := HP.out; omega]; exact HN.out, by rw [show p + (i + 1) = P + 1 by have := HP.out; omega]; exact HR1.out.move _ _ (by push_cast; rfl)⟩
      · have HN := hid (show T = .err 3 (s.data.toList.drop P) from by
          rw [← HT2.out, HDr.out]
          exact word_stop (fun e => hXY (by rw [← hX, ← hY, e])))
        have q1 : ((X : Int) != (Y : Int)) = true := by simp only [bne_iff_ne, ne_eq]; omega
        clear hX hY hc0 hc hiw hXY
        go_wp2
        refine wp_region_noPanic ?_
        refine any_begin 6 (by kernel_rfl) (by kernel_rfl) ?_
        refine late_begin (fun U => U.heap[w.heap.size]? = some (.cells #[.string s, .int .i64 (P : Int), .int .i64 0] 49 (0, 0))) (fun _ => false) (HR.out.below (below_drew (Below.refl _ _) 1)).r (fun hS => ?_)
        have HBV := hid (show Below wr.heap.size wr wr.drew from below_drew (Below.refl _ _) 1)
        generalize wr.drew = V at hS HBV ⊢
        refine late_take (i := 0) (some 12) rfl rfl (by kernel_rfl) (by kernel_rfl) (by kernel_rfl) (by kernel_rfl) (by kernel_rfl) (fun _ _ _ h => h) (by rfl) (v := ?v0b) ?hy0b hS ?rest0b
        case hy0b => intro w0 hSw; obtain ⟨k0, k1, k2, _⟩ := three hSw; go_simp; try with_reducible rfl
        simp only [Act.put, List.setIfInBounds_toArray, List.set_cons_zero, List.set_cons_succ]
        refine late_take (i := 2) (some 14) rfl rfl (by kernel_rfl) (by kernel_rfl) (by kernel_rfl) (by kernel_rfl) (by kernel_rfl) (fun _ _ _ h => h) (by rfl) (v := ?v2b) ?hy2b hS ?rest2b
        case hy2b => intro w0 hSw; obtain ⟨k0, k1, k2, _⟩ := three hSw; go_simp; try with_reducible rfl
        simp only [Act.put, List.setIfInBounds_toArray, List.set_cons_zero, List.set_cons_succ]
        refine late_take (i := 3) (some 15) rfl rfl (by kernel_rfl) (by kernel_rfl) (by kernel_rfl) (by kernel_rfl) (by kernel_rfl) (fun _ _ _ h => h) (by rfl) (v := ?v3b) ?hy3b hS ?rest3b
        case hy3b => intro w0 hSw; obtain ⟨k0, k1, k2, _⟩ := three hSw; go_simp; try with_reducible rfl
        simp only [Act.put, List.setIfInBounds_toArray, List.set_cons_zero, List.set_cons_succ]
        refine late_take (i := 4) (some 16) rfl rfl (by kernel_rfl) (by kernel_rfl) (by kernel_rfl) (by kernel_rfl) (by kernel_rfl) (fun _ _ _ h => h) (by rfl) (v := ?v4b) ?hy4b hS ?rest4b
        case hy4b => intro w0 hSw; obtain ⟨k0, k1, k2, _⟩ := three hSw; go_simp; try with_reducible rfl
        simp only [Act.put, List.setIfInBounds_toArray, List.set_cons_zero, List.set_cons_succ]
        refine wpAnyD_one (i := 1) (by kernel_rfl) rfl (fun K hK => ?_)
        go_simp
        go_at_call 33
        refine (rnext_any s P 0 h2 V).mono ?_
        rintro e w1 ⟨rfl, hb⟩
        rw [HX.out]
        have HR1 := hid (HR.out.below (HBV.out.trans (hb.mono HBV.out.size)))
        clear hb
        have hS2 := HR1.out.r
        refine hK _ _ ⟨fun _ => hS2, ?_⟩
        clear hK K
        replace hS := hS2
        clear hS2
        obtain ⟨z0, z1, z2, zz⟩ := three hS
        have zz1 := zz 1
        clear zz
        refine late_take (i := 5) (some 17) rfl rfl (by kernel_rfl) (by kernel_rfl) (by kernel_rfl) (by kernel_rfl) (by kernel_rfl) (fun _ _ _ h => h) (by rfl) (v := ?v5b) ?hy5b hS ?rest5b
        case hy5b => intro w0 hSw; obtain ⟨k0, k1, k2, _⟩ := three hSw; go_simp; try with_reducible rfl
        simp only [Act.put, List.setIfInBounds_toArray, List.set_cons_zero, List.set_cons_succ]
        refine late_done (by kernel_rfl) ?_ _
        refine NoPanic.normal ?_
        clear hS
        go_wp2_with (go_at_call 20; (with_reducible refine (rfail_any s (P : Int) (P : Int) 3 _).mono ?_); rintro e w2 ⟨rfl, hb⟩; have HR2 := hid (HR1.out.below hb); clear hb; obtain ⟨y0, y1, y2, yz⟩ := three HR2.out.o; have yz0 := yz 0; have yz1 := yz 1; have yz2 := yz 2; clear yz)
        (try simp only [Exit.inBlock, Exit.then])
        refine bodyPost_ret (results_rd1 rfl _ _ _ 49 _ (0, 0) rfl (three_put (has_three HR2.out.o) _ _ _) rfl) rfl ?_
        rw [HN.out]
        exact ⟨P, h2, rfl, rfl, HR2.out.out _ _ _⟩
    · have b1 : ¬ (i : Int) < (n : Int) := by omega
      have HN := hid (show T = .ok () (s.data.toList.drop P) from by
        rw [← HT2.out, List.drop_of_length_le (show ws.length ≤ i by rw [HSl.out]; omega)]
        rfl)
      obtain ⟨y0, y1, y2, yz⟩ := three HR.out.o
      have yz0 := yz 0; have yz1 := yz 1; have yz2 := yz 2
      clear yz hX
      go_wp2
      (try simp only [Exit.inBlock, Exit.then])
      refine bodyPost_ret (results_rd1 rfl _ _ _ 49 _ (0, 0) rfl (three_put (has_three HR.out.o) _ _ _) rfl) rfl ?_
      rw [HN.out]
      exact ⟨P, h2, rfl, rfl, HR.out.out _ _ _⟩
/-- A hexadecimal digit's value as the text keeps it. -/
def hexI (c : UInt8) : Int := match hexv c with
  | none => -1
  | some v => (v : Int)
set_option maxRecDepth 20000 in
set_option maxHeartbeats 1000000 in
theorem hex_any (c : UInt8) (w : World) : Calls Tryz.prog 92 #[.int .u8 (c.toNat : Int)] w fun e w' => e = .returned (.int .i64 (hexI c)) ∧ w' = w := by
  obtain ⟨X, hX⟩ : ∃ X : Nat, c.toNat = X := ⟨_, rfl⟩
  rw [hX]
  have hX6 : X < 256 := by rw [← hX]; exact c.toNat_lt
  by_cases h1 : 48 ≤ X ∧ X ≤ 57
  · have HR := hid (show hexI c = (X : Int) - 48 from by unfold hexI hexv; rw [hX, if_pos h1]; simp only; omega)
    have HDg := hid (show decide (48 ≤ X ∧ X ≤ 57) = true from decide_eq_true h1)
    have wx : IntKind.u8.wrap ((X : Int) - 48) = (X : Int) - 48 := by rw [IntKind.wrap_u8]; omega
    have wy : ((X : Int) - 48) % 256 = (X : Int) - 48 := by omega
    clear h1 hX
    go_enter Tryz.func92, Tryz.ntmps92
    go_wp2_with (go_at_call 59; (with_reducible refine (digit_any X _).mono ?_); rintro e w1 ⟨rfl, rfl⟩; rw [HDg.out])
    go_ret
    rw [HR.out]
    exact ⟨rfl, rfl⟩
  have HDg := hid (show decide (48 ≤ X ∧ X ≤ 57) = false from decide_eq_false h1)
  by_cases h2 : 97 ≤ X ∧ X ≤ 102
  · have HR2 := hid (show hexI c = (X : Int) - 97 + 10 from by unfold hexI hexv; rw [hX, if_neg h1, if_pos h2]; simp only; omega)
    have wx : IntKind.u8.wrap ((X : Int) - 97) = (X : Int) - 97 := by rw [IntKind.wrap_u8]; omega
    have wy : ((X : Int) - 97) % 256 = (X : Int) - 97 := by omega
    have a1 : (97 : Int) ≤ (X : Int) := by omega
    have a2 : (X : Int) ≤ 102 := by omega
    clear h1 h2 hX
    go_enter Tryz.func92, Tryz.ntmps92
    go_wp2_with (go_at_call 59; (with_reducible refine (digit_any X _).mono ?_); rintro e w1 ⟨rfl, rfl⟩; rw [HDg.out])
    go_ret
    rw [HR2.out]
    exact ⟨rfl, rfl⟩
  by_cases h3 : 65 ≤ X ∧ X ≤ 70
  · have HR2 := hid (show hexI c = (X : Int) - 65 + 10 from by unfold hexI hexv; rw [hX, if_neg h1, if_neg h2, if_pos h3]; simp only; omega)
    have wx : IntKind.u8.wrap ((X : Int) - 65) = (X : Int) - 65 := by rw [IntKind.wrap_u8]; omega
    have wy : ((X : Int) - 65) % 256 = (X : Int) - 65 := by omega
    have a1 : (65 : Int) ≤ (X : Int) := by omega
    have a2 : (X : Int) ≤ 70 := by omega
    have a3 : ¬ (97 : Int) ≤ (X : Int) := by omega
    clear h1 h2 h3 hX
    go_enter Tryz.func92, Tryz.ntmps92
    go_wp2_with (go_at_call 59; (with_reducible refine (digit_any X _).mono ?_); rintro e w1 ⟨rfl, rfl⟩; rw [HDg.out])
    go_ret
    rw [HR2.out]
    exact ⟨rfl, rfl⟩
  have HR := hid (show hexI c = -1 from by unfold hexI hexv; rw [hX, if_neg h1, if_neg h2, if_neg h3])
  by_cases g1 : 97 ≤ X
  · have a1 : (97 : Int) ≤ (X : Int) := by omega
    have a2 : ¬ (X : Int) ≤ 102 := by omega
    have a3 : (65 : Int) ≤ (X : Int) := by omega
    have a4 : ¬ (X : Int) ≤ 70 := by omega
    clear h1 h2 h3 hX g1
    go_enter Tryz.func92, Tryz.ntmps92
    go_wp2_with (go_at_call 59; refine (digit_any X _).mono ?_; rintro e w1 ⟨rfl, rfl⟩; rw [HDg.out])
    go_ret
    rw [HR.out]
    exact ⟨rfl, rfl⟩
  by_cases g2 : 65 ≤ X
  · have a1 : ¬ (97 : Int) ≤ (X : Int) := by omega
    have a3 : (65 : Int) ≤ (X : Int) := by omega
    have a4 : ¬ (X : Int) ≤ 70 := by omega
    clear h1 h2 h3 hX g1 g2
    go_enter Tryz.func92, Tryz.ntmps92
    go_wp2_with (go_at_call 59; refine (digit_any X _).mono ?_; rintro e w1 ⟨rfl, rfl⟩; rw [HDg.out])
    go_ret
    rw [HR.out]
    exact ⟨rfl, rfl⟩
  · have a1 : ¬ (97 : Int) ≤ (X : Int) := by omega
    have a3 : ¬ (65 : Int) ≤ (X : Int) := by omega
    clear h1 h2 h3 hX g1 g2
    go_enter Tryz.func92, Tryz.ntmps92
    go_wp2_with (go_at_call 59; refine (digit_any X _).mono ?_; rintro e w1 ⟨rfl, rfl⟩; rw [HDg.out])
    go_ret
    rw [HR.out]
    exact ⟨rfl, rfl⟩
end Go.Proofs.YtkoeihliaandeaaGreatDoor
