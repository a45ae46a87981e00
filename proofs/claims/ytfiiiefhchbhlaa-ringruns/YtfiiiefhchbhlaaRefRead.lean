/- The document's Read of a ring. -/
import Derived.Test.YtfiiiefhchbhlaaRefs
import Derived.Deep.RegionHeld3
namespace Go.Proofs.Ytfiiiefhchbhlaa
open Go.RowKit

/-- A slice of bytes that lies in memory, but not in the blocks r and g. -/
def QAt (r g : Nat) (w : World) (v : Value) (bs : List Int) : Prop :=
  (v = .slice none 0 0 ∧ bs = []) ∨ ∃ b o cap, (b < w.heap.size ∧ b ≠ r ∧ b ≠ g) ∧ v = .slice (some ⟨b, o, none⟩) bs.length cap ∧ bs.length ≤ cap ∧ cap ≤ maxLen ∧ CellsAt w b o bs
theorem QAt.arg {r g : Nat} {w : World} {v : Value} {bs : List Int} (h : QAt r g w v bs) : ArgAt w v bs := by
  rcases h with h | ⟨b, o, cap, h1, h2, h3, h4, h5⟩
  · exact .inl h
  · exact .inr ⟨b, o, cap, h1.1, h2, h3, h4, h5⟩
theorem QAt.turn {r g : Nat} {w w' : World} {v : Value} {bs : List Int} (h : QAt r g w v bs) (ht : Turn r g w w') : QAt r g w' v bs := by
  rcases h with h | ⟨b, o, cap, h1, h2, h3, h4, h5⟩
  · exact .inl h
  · exact .inr ⟨b, o, cap, ⟨Nat.lt_of_lt_of_le h1.1 ht.size, h1.2⟩, h2, h3, h4, h5.of_heap (ht.block b h1.1 h1.2.1 h1.2.2)⟩
theorem QAt.below {r g : Nat} {w w' : World} {v : Value} {bs : List Int} (h : QAt r g w v bs) (hb : Below w.heap.size w w') : QAt r g w' v bs := h.turn (Turn.of_below hb)
/-- What the document's Read leaves. -/
structure ReadP (r g : Nat) (w w' : World) (v' vo : Value) (q : List Int) (k : Nat) : Prop where
  below : Below w.heap.size w w'
  rest : QAt r g w' v' (q.drop k)
  out : QAt r g w' vo (q.take k)
/-- The cells of the two boxes behind the append. -/
theorem box_cells {w w2 : World} (A B : Value) (hb : Below (w.heap.size + 2) ((w.alloc (.cells #[A, B] 30)).alloc (.cells #[.int .i64 0, .slice none 0 0] 30)) w2) :
    w2.cell? ⟨w.heap.size, 0, none⟩ = some A ∧ w2.cell? ⟨w.heap.size, 1, none⟩ = some B ∧ w2.cell? ⟨w.heap.size + 1, 0, none⟩ = some (.int .i64 0) ∧ w2.cell? ⟨w.heap.size + 1, 1, none⟩ = some (.slice none 0 0) ∧ (∀ j, w2.frozen? ⟨w.heap.size + 1, j, none⟩ = false) := by
  have e1 : ((w.alloc (.cells #[A, B] 30)).alloc (.cells #[.int .i64 0, .slice none 0 0] 30)).heap[w.heap.size]? = some (.cells #[A, B] 30) := by rw [heap_old _ _ _ (by simp), heap_new]
  have e2 : ((w.alloc (.cells #[A, B] 30)).alloc (.cells #[.int .i64 0, .slice none 0 0] 30)).heap[w.heap.size + 1]? = some (.cells #[.int .i64 0, .slice none 0 0] 30) := by
    have := heap_new (w.alloc (.cells #[A, B] 30)) (.cells #[.int .i64 0, .slice none 0 0] 30)
    simpa only [World.size_alloc] using this
  have f1 := (hb.block w.heap.size (by omega)).trans e1
  have f2 := (hb.block (w.heap.size + 1) (by omega)).trans e2
  refine ⟨?_, ?_, ?_, ?_, fun j => ?_⟩
  · simp only [World.cell?, f1]; rfl
  · simp only [World.cell?, f1]; rfl
  · simp only [World.cell?, f2]; rfl
  · simp only [World.cell?, f2]; rfl
  · simp [World.frozen?, f2]
theorem two_below (w : World) (x y : Obj) : Below w.heap.size w ((w.alloc x).alloc y) := ((Below.refl _ _).alloc (Nat.le_refl _) _).alloc (by simp) _
theorem readP_mk {r g : Nat} {w w2 : World} {x y : Obj} {b o N k cap m : Nat} {q : List Int} {pa : Option Addr} (hg : r < w.heap.size ∧ g < w.heap.size) (hN : q.length = N) (hk : k ≤ N) (hmm : m = N - k) (hb : b < w.heap.size ∧ b ≠ r ∧ b ≠ g) (hcl : CellsAt w b o q)
    (hm : Mine ((w.alloc x).alloc y) w2 pa cap (q.take k)) (A B : Value) (q' cp : Nat) (hq : 0 < m → q' = o + k) (hcp : cp ≤ maxLen) (hcp2 : m ≤ cp) :
    ReadP r g w ((w2.drew.setCell ⟨w.heap.size + 1, 0, none⟩ A).setCell ⟨w.heap.size + 1, 1, none⟩ B) (.slice (some ⟨b, q', none⟩) m cp) (.slice pa k cap) q k := by
  subst hmm
  have hl : (q.take k).length = k := by simp; omega
  have hl2 : (q.drop k).length = N - k := by simp; omega
  have hbel : Below w.heap.size w ((w2.drew.setCell ⟨w.heap.size + 1, 0, none⟩ A).setCell ⟨w.heap.size + 1, 1, none⟩ B) :=
    ((((two_below w x y).trans (hm.below.mono (by simp; omega))).drew).setCell (by show _ ≤ w.heap.size + 1; omega) _).setCell (by show _ ≤ w.heap.size + 1; omega) _
  refine ⟨hbel, .inr ⟨b, q', cp, ⟨Nat.lt_of_lt_of_le hb.1 hbel.size, hb.2⟩, by rw [hl2], by omega, hcp, ?_⟩, ?_⟩
  · by_cases h0 : 0 < N - k
    · rw [hq h0]
      exact (hcl.of_heap (hbel.block b hb.1)).drop k
    · rw [List.drop_eq_nil_of_le (by omega)]
      intro j v hj; simp at hj
  · have h1 := hm.arg
    rw [hl] at h1
    have hz : w.heap.size + 2 ≤ w2.heap.size := by have := hm.below.size; simp at this; omega
    cases pa with
    | none =>
      obtain ⟨h2, rfl⟩ := hm.nothing rfl
      have hk0 : k = 0 := by rw [h2] at hl; simpa using hl.symm
      subst hk0
      exact .inl ⟨rfl, h2⟩
    | some ad =>
      obtain ⟨b2, cur, rfl, h3, h4, h5, h6⟩ := hm.row ad rfl
      have hb2 : w.heap.size + 2 ≤ b2 := by have := h3; simp at this; omega
      rcases h1 with ⟨hv, _⟩ | ⟨b3, o3, c3, h7, h8, h9, h10, h11⟩
      · simp at hv
      · simp only [Value.slice.injEq, Option.some.injEq] at h8
        obtain ⟨e1, e2, e3⟩ := h8
        cases e1
        refine .inr ⟨b2, 0, cap, ⟨Nat.lt_of_lt_of_le h7 ?_, by omega, by omega⟩, by rw [hl], by rw [hl, ← hl]; exact hm.fits, hm.most, h11.of_heap ?_⟩
        · simp [World.setCell]
        · rw [Below.heap_setCell _ _ _ _ (by show b2 ≠ w.heap.size + 1; omega), Below.heap_setCell _ _ _ _ (by show b2 ≠ w.heap.size + 1; omega)]; rfl
theorem mine_over {r g : Nat} {w1 w2 w3 : World} {pa : Option Addr} {cap : Nat} {xs : List Int} (hg : r < w1.heap.size ∧ g < w1.heap.size) (hm : Mine w1 w2 pa cap xs) (hk : ∀ j, w1.heap.size ≤ j → j < w2.heap.size → w3.heap[j]? = w2.heap[j]?) (hz : w2.heap.size ≤ w3.heap.size) : QAt r g w3 (.slice pa xs.length cap) xs := by
  cases pa with
  | none => obtain ⟨rfl, rfl⟩ := hm.nothing rfl; exact .inl ⟨rfl, rfl⟩
  | some ad =>
    obtain ⟨b2, cur, rfl, h3, h4, h5, h6⟩ := hm.row ad rfl
    rcases hm.arg with ⟨hv, _⟩ | ⟨b3, o3, c3, h7, h8, h9, h10, h11⟩
    · simp at hv
    · simp only [Value.slice.injEq, Option.some.injEq] at h8
      obtain ⟨e1, e2, e3⟩ := h8
      cases e1
      exact .inr ⟨b2, 0, cap, ⟨Nat.lt_of_lt_of_le h7 hz, by omega, by omega⟩, rfl, hm.fits, hm.most, h11.of_heap (hk b2 h3 h7)⟩
theorem readP_nil {r g : Nat} {w w2 : World} {x y : Obj} {cap : Nat} {pa : Option Addr} (hg : r < w.heap.size ∧ g < w.heap.size) (hm : Mine ((w.alloc x).alloc y) w2 pa cap []) (A B : Value) :
    ReadP r g w ((w2.drew.setCell ⟨w.heap.size + 1, 0, none⟩ A).setCell ⟨w.heap.size + 1, 1, none⟩ B) (.slice none 0 0) (.slice pa 0 cap) [] 0 := by
  refine ⟨((((two_below w x y).trans (hm.below.mono (by simp; omega))).drew).setCell (by show _ ≤ w.heap.size + 1; omega) _).setCell (by show _ ≤ w.heap.size + 1; omega) _, .inl ⟨rfl, rfl⟩, ?_⟩
  refine mine_over (by simp; omega) hm (fun j h1 h2 => ?_) (by simp [World.setCell])
  have : w.heap.size + 2 ≤ j := by simp at h1; omega
  rw [Below.heap_setCell _ _ _ _ (by show j ≠ w.heap.size + 1; omega), Below.heap_setCell _ _ _ _ (by show j ≠ w.heap.size + 1; omega)]; rfl
set_option maxHeartbeats 1000000 in
theorem refRead_in (r g : Nat) (S : Int) (b o c N k : Nat) (hk0 : 0 < k) (hk : k ≤ N) (q : List Int) (w : World) (hN : q.length = N) (hNc : N ≤ c) (hcm : c ≤ maxLen) (_hq : N ≤ 1048576) (hb : b < w.heap.size ∧ b ≠ r ∧ b ≠ g) (hcl : CellsAt w b o q) (HG : Hid (r < w.heap.size ∧ g < w.heap.size)) :
    Calls Try.prog 23 #[.agg #[.int .i64 S, .slice (some ⟨b, o, none⟩) N c], .int .i64 k] w fun e w' => ∃ v' vo, e = .returned (.tuple #[.agg #[.int .i64 S, v'], vo]) ∧ ReadP r g w w' v' vo q k := by
  have HN := hid hN
  have HCM := hid hcm
  unfold maxLen at hcm
  have hk3 : (N : Int) ≤ c := by omega
  have hk5 : N ≤ 1048576 := _hq
  have hk1 : (0 : Int) < k := by omega
  have hk2 : (k : Int) ≤ N := by omega
  have hkm : ¬ ((N : Int) < k) := by omega
  have HV : Hid (ArgAt w (.slice (some ⟨b, o, none⟩) N c) q) := .inr ⟨b, o, c, hb.1, by rw [hN], by omega, by unfold maxLen; omega, hcl⟩
  have HT := hid (HV.out.take hN k (by omega))
  have HTl : Hid ((q.take k).length = k) := by show _ = _; rw [List.length_take]; omega
  have HCL := hid hcl
  have HBB := hid hb
  clear hcl hN hb
  go_enter Try.func23, Try.ntmps23
  go_wp2_with (at_builtin; refine wpList_append_bytes rfl _ _ rfl rfl _ rfl (q.take k) (HT.out.below (two_below _ _ _)) (by rw [HTl.out]; omega) ?_; intro pa cap w2 hm; have HM := hid hm; obtain ⟨c0, c1, d0, d1, fz⟩ := box_cells _ _ (by have := hm.below; simpa using this); have f0 := fz 0; have f1 := fz 1; clear hm fz; rw [HTl.out])
  go_region_held3 (fun w3 => w3.cell? ⟨w.heap.size, 0, none⟩ = some (.int .i64 S) ∧ w3.cell? ⟨w.heap.size, 1, none⟩ = some (.slice (some ⟨b, o, none⟩) N c)) (go_keep) (fail)
  all_goals
    go_wp2
    all_goals
      refine bodyPost_ret (v := .tuple #[.agg #[.int .i64 S, _], _]) (by simp [results, go_sem, d0, d1]; exact ⟨rfl, rfl⟩) rfl ⟨_, _, rfl, ?_⟩
      exact readP_mk HG.out HN.out (by omega) (by omega) HBB.out HCL.out HM.out _ _ _ _ (by omega) (by unfold maxLen; omega) (by omega)
set_option maxHeartbeats 1000000 in
theorem refRead_over (r g : Nat) (S : Int) (b o c N : Nat) (n : Int) (hn : (N : Int) < n) (hN0 : 0 < N) (q : List Int) (w : World) (hN : q.length = N) (hNc : N ≤ c) (hcm : c ≤ maxLen) (_hq : N ≤ 1048576) (hb : b < w.heap.size ∧ b ≠ r ∧ b ≠ g) (hcl : CellsAt w b o q) (HG : Hid (r < w.heap.size ∧ g < w.heap.size)) :
    Calls Try.prog 23 #[.agg #[.int .i64 S, .slice (some ⟨b, o, none⟩) N c], .int .i64 n] w fun e w' => ∃ v' vo, e = .returned (.tuple #[.agg #[.int .i64 S, v'], vo]) ∧ ReadP r g w w' v' vo q N := by
  have HN := hid hN
  have HCM := hid hcm
  unfold maxLen at hcm
  have hk3 : (N : Int) ≤ c := by omega
  have hk5 : N ≤ 1048576 := _hq
  have hk1 : (0 : Int) < N := by omega
  have HV : Hid (ArgAt w (.slice (some ⟨b, o, none⟩) N c) q) := .inr ⟨b, o, c, hb.1, by rw [hN], by omega, by unfold maxLen; omega, hcl⟩
  have HT := hid (HV.out.take hN N (by omega))
  have HTl : Hid ((q.take N).length = N) := by show _ = _; rw [List.length_take]; omega
  have HCL := hid hcl
  have HBB := hid hb
  clear hcl hN hb
  go_enter Try.func23, Try.ntmps23
  go_wp2_with (at_builtin; refine wpList_append_bytes rfl _ _ rfl rfl _ rfl (q.take N) (HT.out.below (two_below _ _ _)) (by rw [HTl.out]; omega) ?_; intro pa cap w2 hm; have HM := hid hm; obtain ⟨c0, c1, d0, d1, fz⟩ := box_cells _ _ (by have := hm.below; simpa using this); have f0 := fz 0; have f1 := fz 1; clear hm fz; rw [HTl.out])
  go_region_held3 (fun w3 => w3.cell? ⟨w.heap.size, 0, none⟩ = some (.int .i64 S) ∧ w3.cell? ⟨w.heap.size, 1, none⟩ = some (.slice (some ⟨b, o, none⟩) N c)) (go_keep) (fail)
  all_goals
    go_wp2
    all_goals
      refine bodyPost_ret (v := .tuple #[.agg #[.int .i64 S, _], _]) (by simp [results, go_sem, d0, d1]; exact ⟨rfl, rfl⟩) rfl ⟨_, _, rfl, ?_⟩
      exact readP_mk HG.out HN.out (by omega) (by omega) HBB.out HCL.out HM.out _ _ _ _ (by omega) (by unfold maxLen; omega) (by omega)
set_option maxHeartbeats 1000000 in
theorem refRead_low (r g : Nat) (S : Int) (b o c N : Nat) (n : Int) (hn : n ≤ 0) (q : List Int) (w : World) (hN : q.length = N) (hNc : N ≤ c) (hcm : c ≤ maxLen) (_hq : N ≤ 1048576) (hb : b < w.heap.size ∧ b ≠ r ∧ b ≠ g) (hcl : CellsAt w b o q) (HG : Hid (r < w.heap.size ∧ g < w.heap.size)) :
    Calls Try.prog 23 #[.agg #[.int .i64 S, .slice (some ⟨b, o, none⟩) N c], .int .i64 n] w fun e w' => ∃ v' vo, e = .returned (.tuple #[.agg #[.int .i64 S, v'], vo]) ∧ ReadP r g w w' v' vo q 0 := by
  have HN := hid hN
  have HCM := hid hcm
  unfold maxLen at hcm
  have hk3 : (N : Int) ≤ c := by omega
  have hk5 : N ≤ 1048576 := _hq
  have hk1 : ¬ ((N : Int) < n) := by omega
  have hk2 : ¬ (0 < n) := by omega
  have HV : Hid (ArgAt w (.slice (some ⟨b, o, none⟩) N c) q) := .inr ⟨b, o, c, hb.1, by rw [hN], by omega, by unfold maxLen; omega, hcl⟩
  have HT := hid (HV.out.take hN 0 (by omega))
  have HTl : Hid ((q.take 0).length = 0) := by show _ = _; rw [List.length_take]; omega
  have HCL := hid hcl
  have HBB := hid hb
  clear hcl hN hb
  go_enter Try.func23, Try.ntmps23
  go_wp2_with (at_builtin; refine wpList_append_bytes rfl _ _ rfl rfl _ rfl (q.take 0) (HT.out.below (two_below _ _ _)) (by rw [HTl.out]; omega) ?_; intro pa cap w2 hm; have HM := hid hm; obtain ⟨c0, c1, d0, d1, fz⟩ := box_cells _ _ (by have := hm.below; simpa using this); have f0 := fz 0; have f1 := fz 1; clear hm fz; rw [HTl.out])
  go_region_held3 (fun w3 => w3.cell? ⟨w.heap.size, 0, none⟩ = some (.int .i64 S) ∧ w3.cell? ⟨w.heap.size, 1, none⟩ = some (.slice (some ⟨b, o, none⟩) N c)) (go_keep) (fail)
  all_goals
    go_wp2
    all_goals
      refine bodyPost_ret (v := .tuple #[.agg #[.int .i64 S, _], _]) (by simp [results, go_sem, d0, d1]; exact ⟨rfl, rfl⟩) rfl ⟨_, _, rfl, ?_⟩
      exact readP_mk HG.out HN.out (by omega) (by omega) HBB.out HCL.out HM.out _ _ _ _ (by omega) (by unfold maxLen; omega) (by omega)
set_option maxHeartbeats 1000000 in
theorem refRead_none (r g : Nat) (S : Int) (b o c  : Nat) (n : Int) (hn : 0 < n) (q : List Int) (w : World) (hN : q.length = 0) (hNc : 0 ≤ c) (hcm : c ≤ maxLen) (_hq : 0 ≤ 1048576) (hb : b < w.heap.size ∧ b ≠ r ∧ b ≠ g) (hcl : CellsAt w b o q) (HG : Hid (r < w.heap.size ∧ g < w.heap.size)) :
    Calls Try.prog 23 #[.agg #[.int .i64 S, .slice (some ⟨b, o, none⟩) 0 c], .int .i64 n] w fun e w' => ∃ v' vo, e = .returned (.tuple #[.agg #[.int .i64 S, v'], vo]) ∧ ReadP r g w w' v' vo q 0 := by
  have HN := hid hN
  have HCM := hid hcm
  unfold maxLen at hcm
  have hk3 : (0 : Int) ≤ c := by omega
  have hk5 : 0 ≤ 1048576 := _hq
  have hk1 : ¬ (n ≤ 0) := by omega
  have HV : Hid (ArgAt w (.slice (some ⟨b, o, none⟩) 0 c) q) := .inr ⟨b, o, c, hb.1, by rw [hN], by omega, by unfold maxLen; omega, hcl⟩
  have HT := hid (HV.out.take hN 0 (by omega))
  have HTl : Hid ((q.take 0).length = 0) := by show _ = _; rw [List.length_take]; omega
  have HCL := hid hcl
  have HBB := hid hb
  clear hcl hN hb
  go_enter Try.func23, Try.ntmps23
  go_wp2_with (at_builtin; refine wpList_append_bytes rfl _ _ rfl rfl _ rfl (q.take 0) (HT.out.below (two_below _ _ _)) (by rw [HTl.out]; omega) ?_; intro pa cap w2 hm; have HM := hid hm; obtain ⟨c0, c1, d0, d1, fz⟩ := box_cells _ _ (by have := hm.below; simpa using this); have f0 := fz 0; have f1 := fz 1; clear hm fz; rw [HTl.out])
  go_region_held3 (fun w3 => w3.cell? ⟨w.heap.size, 0, none⟩ = some (.int .i64 S) ∧ w3.cell? ⟨w.heap.size, 1, none⟩ = some (.slice (some ⟨b, o, none⟩) 0 c)) (go_keep) (fail)
  all_goals
    go_wp2
    all_goals
      refine bodyPost_ret (v := .tuple #[.agg #[.int .i64 S, _], _]) (by simp [results, go_sem, d0, d1]; exact ⟨rfl, rfl⟩) rfl ⟨_, _, rfl, ?_⟩
      exact readP_mk HG.out HN.out (by omega) (by omega) HBB.out HCL.out HM.out _ _ _ _ (by omega) (by unfold maxLen; omega) (by omega)
set_option maxHeartbeats 1000000 in
theorem refRead_nil (r g : Nat) (S n : Int) (w : World) (HG : Hid (r < w.heap.size ∧ g < w.heap.size)) :
    Calls Try.prog 23 #[.agg #[.int .i64 S, .slice none 0 0], .int .i64 n] w fun e w' => ∃ v' vo, e = .returned (.tuple #[.agg #[.int .i64 S, v'], vo]) ∧ ReadP r g w w' v' vo [] 0 := by
  rcases (by omega : n ≤ 0 ∨ 0 < n) with hn | hn
  · have hn' : ¬ 0 < n := by omega
    go_enter Try.func23, Try.ntmps23
    go_wp2_with (at_builtin; refine wpList_append_bytes rfl _ _ rfl rfl _ rfl [] (.inl ⟨rfl, rfl⟩) (by simp) ?_; intro pa cap w2 hm; have HM := hid hm; obtain ⟨c0, c1, d0, d1, fz⟩ := box_cells _ _ (by have := hm.below; simpa using this); have f0 := fz 0; have f1 := fz 1; clear hm fz)
    go_region_held3 (fun w3 => w3.cell? ⟨w.heap.size, 0, none⟩ = some (.int .i64 S) ∧ w3.cell? ⟨w.heap.size, 1, none⟩ = some (.slice none 0 0)) (go_keep) (fail)
    go_wp2
    refine bodyPost_ret (v := .tuple #[.agg #[.int .i64 S, _], _]) (by simp [results, go_sem, d0, d1]; exact ⟨rfl, rfl⟩) rfl ⟨_, _, rfl, ?_⟩
    exact readP_nil HG.out HM.out _ _
  · have hn' : ¬ n ≤ 0 := by omega
    go_enter Try.func23, Try.ntmps23
    go_wp2_with (at_builtin; refine wpList_append_bytes rfl _ _ rfl rfl _ rfl [] (.inl ⟨rfl, rfl⟩) (by simp) ?_; intro pa cap w2 hm; have HM := hid hm; obtain ⟨c0, c1, d0, d1, fz⟩ := box_cells _ _ (by have := hm.below; simpa using this); have f0 := fz 0; have f1 := fz 1; clear hm fz)
    go_region_held3 (fun w3 => w3.cell? ⟨w.heap.size, 0, none⟩ = some (.int .i64 S) ∧ w3.cell? ⟨w.heap.size, 1, none⟩ = some (.slice none 0 0)) (go_keep) (fail)
    go_wp2
    refine bodyPost_ret (v := .tuple #[.agg #[.int .i64 S, _], _]) (by simp [results, go_sem, d0, d1]; exact ⟨rfl, rfl⟩) rfl ⟨_, _, rfl, ?_⟩
    exact readP_nil HG.out HM.out _ _
theorem refRead_any (r g : Nat) (S : Int) {v : Value} {q : List Int} (n : Int) (w : World) (h : QAt r g w v q) (hq : q.length ≤ 1048576) (hg : r < w.heap.size ∧ g < w.heap.size) :
    Calls Try.prog 23 #[.agg #[.int .i64 S, v], .int .i64 n] w fun e w' => ∃ v' vo, e = .returned (.tuple #[.agg #[.int .i64 S, v'], vo]) ∧ ReadP r g w w' v' vo q (held n q.length) := by
  rcases h with ⟨rfl, rfl⟩ | ⟨b, o, c, h1, rfl, h3, h4, h5⟩
  · rw [show held n ([] : List Int).length = 0 by unfold held; (repeat' split) <;> simp_all]
    exact refRead_nil r g S n w hg
  · by_cases h0 : n ≤ 0
    · rw [show held n q.length = 0 by unfold held; (repeat' split) <;> omega]
      exact refRead_low r g S b o c q.length n h0 q w rfl h3 h4 hq h1 h5 hg
    · by_cases h6 : q.length = 0
      · rw [show held n q.length = 0 by unfold held; (repeat' split) <;> omega]
        have := refRead_none r g S b o c n (by omega) q w h6 (by omega) h4 (by omega) h1 h5 hg
        rw [h6]; exact this
      · by_cases h7 : (q.length : Int) < n
        · rw [show held n q.length = q.length by unfold held; (repeat' split) <;> omega]
          exact refRead_over r g S b o c q.length n h7 (by omega) q w rfl h3 h4 hq h1 h5 hg
        · obtain ⟨k, rfl⟩ : ∃ k : Nat, n = k := ⟨n.toNat, by omega⟩
          rw [show held k q.length = k from held_nat k _ (by omega)]
          exact refRead_in r g S b o c q.length k (by omega) (by omega) q w rfl h3 h4 hq h1 h5 hg
end Go.Proofs.Ytfiiiefhchbhlaa
