/- How the body of a request and of a response is framed, on both sides. -/
import Derived.Test.YthakldcfpndabaaDoorFTold
namespace Go.Proofs.YthakldcfpndabaaDoor
open Go.RowKit

theorem BoxF.new2 (w : World) (o : Obj) : BoxF w ((w.alloc o).alloc (.cells #[.int .i64 0, .int .i64 0] 34 (0, 0))) (w.heap.size + 1) := by
  refine ⟨below_out (below_new w o) (below_new _ _), ?_⟩
  have h := heap_alloc_new (w.alloc o) (.cells #[.int .i64 0, .int .i64 0] 34 (0, 0))
  rw [show (w.alloc o).heap.size = w.heap.size + 1 from by simp] at h
  exact h
theorem new_first (w : World) (o o' : Obj) : ((w.alloc o).alloc o').heap[w.heap.size]? = some o := by
  have h := heap_alloc_new w o
  exact ((below_new (w.alloc o) o').block _ (lt_of_heap h)).trans h
theorem cells4F {w : World} {g : Nat} {c0 c1 c2 c3 : Value} {T : TypeId} (h : w.heap[g]? = some (.cells #[c0, c1, c2, c3] T (0, 0))) : w.cell? ⟨g, 0, none⟩ = some c0 ∧ w.cell? ⟨g, 1, none⟩ = some c1 ∧ w.cell? ⟨g, 2, none⟩ = some c2 ∧ w.cell? ⟨g, 3, none⟩ = some c3 := by
  refine ⟨?_, ?_, ?_, ?_⟩ <;> simp [World.cell?, h]
def bodyB (s : Int) : Bool := decide ((100 ≤ s ∧ s ≤ 199) ∨ s = 204 ∨ s = 304)
def headB : ByteArray := ⟨#[72, 69, 65, 68]⟩
/-- How the body of a response is framed. -/
def rspF (m : ByteArray) (s k : Int) (fs : List (B × B)) : (Int × Int) × Nat := if m = headB ∨ bodyB s = true then ((0, 0), 0) else frmF k fs 3
set_option maxRecDepth 20000 in
set_option maxHeartbeats 4000000 in
theorem bodyless_any (s : Int) (w : World) : Calls Tryd.prog 56 #[.int .i64 s] w fun e w' => e = .returned (.bool (bodyB s)) ∧ w' = w := by
  obtain ⟨R, hR⟩ : ∃ R, bodyB s = R := ⟨_, rfl⟩
  have HR := hid hR
  rw [hR]
  clear hR
  by_cases a1 : 100 ≤ s
  · by_cases a2 : s ≤ 199
    · have HT := hid (show R = true from by rw [← HR.out]; unfold bodyB; exact decide_eq_true (by omega))
      go_enter Tryd.func56, Tryd.ntmps56
      go_wp2
      go_ret
      exact ⟨(by rw [HT.out]; rfl), rfl⟩
    · by_cases a3 : s = 204
      · subst a3
        have HT := hid (show R = true from by rw [← HR.out]; unfold bodyB; exact decide_eq_true (by omega))
        go_enter Tryd.func56, Tryd.ntmps56
        go_wp2
        go_ret
        exact ⟨(by rw [HT.out]; rfl), rfl⟩
      · by_cases a4 : s = 304
        · subst a4
          have HT := hid (show R = true from by rw [← HR.out]; unfold bodyB; exact decide_eq_true (by omega))
          go_enter Tryd.func56, Tryd.ntmps56
          go_wp2
          go_ret
          exact ⟨(by rw [HT.out]; rfl), rfl⟩
        · have b3 : (s == 204) = false := by simpa using a3
          have b4 : (s == 304) = false := by simpa using a4
          have HT := hid (show R = false from by rw [← HR.out]; unfold bodyB; exact decide_eq_false (by omega))
          go_enter Tryd.func56, Tryd.ntmps56
          go_wp2
          go_ret
          exact ⟨(by rw [HT.out]; rfl), rfl⟩
  · have a3 : ¬ s = 204 := by omega
    have a4 : ¬ s = 304 := by omega
    have b3 : (s == 204) = false := by simpa using a3
    have b4 : (s == 304) = false := by simpa using a4
    have HT := hid (show R = false from by rw [← HR.out]; unfold bodyB; exact decide_eq_false (by omega))
    go_enter Tryd.func56, Tryd.ntmps56
    go_wp2
    go_ret
    exact ⟨(by rw [HT.out]; rfl), rfl⟩
set_option maxRecDepth 20000 in
set_option maxHeartbeats 8000000 in
theorem prequest (M T : ByteArray) (k : Int) (fs : List (B × B)) (p : Option Addr) (n c : Nat) (hn : fs.length = n) (w : World) (hF : FAt w p fs) (hsz : szB fs) (hnn : n ≤ 1048576) (hmx : ∃ m : Int, w.cell? ⟨2, 0, none⟩ = some (.int .i64 m)) :
    Calls Tryd.prog 27 #[.agg #[.string M, .string T, .int .i64 k, .slice p n c]] w fun e w' => e = .returned (.tuple #[frmV (frmF k fs 0).1, errOf (frmF k fs 0).2]) ∧ Below w.heap.size w w' := by
  obtain ⟨mm, hmm⟩ := hmx
  have HT := hid (show ∀ W : World, Below w.heap.size w W → _ from fun W hb => ptold k 0 fs p n c hn W (hF.next hb) hsz hnn ⟨mm, cell_keep hb hmm⟩)
  obtain ⟨⟨⟨K, N⟩, E⟩, hE⟩ : ∃ x, frmF k fs 0 = x := ⟨_, rfl⟩
  rw [hE] at HT ⊢
  dsimp only [frmV] at HT ⊢
  have HX0 := hid (BoxF.new2 w (.cells #[.string M, .string T, .int .i64 k, .slice p n c] 52 (0, 0)))
  obtain ⟨V, hV⟩ : ∃ V : Value, errOf E = V := ⟨_, rfl⟩
  rw [hV] at HT ⊢
  clear hE hF hsz hn hV
  clear hmm
  go_enter Tryd.func27, Tryd.ntmps27
  go_wp2_with (go_at_call 54; (with_reducible refine (HT.out _ HX0.out.low).mono ?_); rintro e w1 ⟨rfl, hb⟩; have HX1 := hid (HX0.out.next hb); obtain ⟨y0, y1, z0, z1⟩ := cells2 HX1.out.blk; clear hb HT)
  (try simp only [Exit.inBlock, Exit.then])
  refine bodyPost_ret (results_frm rfl _ _ _ 34 _ (0, 0) rfl (twoC HX1.out.blk _ _) rfl) rfl ?_
  exact ⟨rfl, below_twoG HX1.out.low (Nat.le_succ _) _ _⟩
set_option maxRecDepth 20000 in
set_option maxHeartbeats 8000000 in
theorem presponse (m : ByteArray) (s : Int) (T : ByteArray) (k : Int) (fs : List (B × B)) (p : Option Addr) (n c : Nat) (hn : fs.length = n) (w : World) (hF : FAt w p fs) (hsz : szB fs) (hnn : n ≤ 1048576) (hmx : ∃ m : Int, w.cell? ⟨2, 0, none⟩ = some (.int .i64 m)) :
    Calls Tryd.prog 29 #[.string m, .agg #[.int .i64 s, .string T, .int .i64 k, .slice p n c]] w fun e w' => e = .returned (.tuple #[frmV (rspF m s k fs).1, errOf (rspF m s k fs).2]) ∧ Below w.heap.size w w' := by
  obtain ⟨mm, hmm⟩ := hmx
  have HT := hid (show ∀ W : World, Below w.heap.size w W → _ from fun W hb => ptold k 3 fs p n c hn W (hF.next hb) hsz hnn ⟨mm, cell_keep hb hmm⟩)
  have HX0 := hid (BoxF.new2 w (.cells #[.int .i64 s, .string T, .int .i64 k, .slice p n c] 54 (0, 0)))
  obtain ⟨⟨⟨K, N⟩, E⟩, hE⟩ : ∃ x, frmF k fs 3 = x := ⟨_, rfl⟩
  rw [hE] at HT
  dsimp only [frmV] at HT
  have hR : rspF m s k fs = if m = headB ∨ bodyB s = true then ((0, 0), 0) else ((K, N), E) := by unfold rspF; rw [hE]
  obtain ⟨R, hRR⟩ : ∃ R, rspF m s k fs = R := ⟨_, rfl⟩
  rw [hRR] at hR ⊢
  have HR := hid hR
  clear hE hF hsz hn hR hRR
  clear hmm
  by_cases hm : m = headB
  · subst hm
    unfold headB at HR ⊢
    have HRR := hid (show R = ((0, 0), 0) from by rw [HR.out]; rw [if_pos (.inl rfl)])
    rw [HRR.out]
    go_enter Tryd.func29, Tryd.ntmps29
    go_wp2
    (try simp only [Exit.inBlock, Exit.then])
    refine bodyPost_ret (results_frm rfl _ _ _ 34 _ (0, 0) rfl HX0.out.blk rfl) rfl ?_
    exact ⟨rfl, HX0.out.low⟩
  have hm1 : (m.toList == (⟨#[72, 69, 65, 68]⟩ : ByteArray).toList) = false := ne_list hm
  have hm2 : (m.toList == [72, 69, 65, 68]) = false := by
    have h := hm1
    rw [ByteArray.toList_eq, ByteArray.toList_eq] at h
    rw [ByteArray.toList_eq]
    exact h
  have HBd := hid (show ∀ W : World, _ from fun W => bodyless_any s W)
  have HMm := hid hm
  clear hm
  cases hB : bodyB s with
  | true =>
    rw [hB] at HBd
    have HRR := hid (show R = ((0, 0), 0) from by rw [HR.out]; rw [if_pos (.inr hB)])
    rw [HRR.out]
    go_enter Tryd.func29, Tryd.ntmps29
    go_wp2_with (first | (go_at_call 56; (with_reducible refine (HBd.out _).mono ?_); rintro e w9 ⟨rfl, hw9⟩; subst w9))
    (try simp only [Exit.inBlock, Exit.then])
    refine bodyPost_ret (results_frm rfl _ _ _ 34 _ (0, 0) rfl HX0.out.blk rfl) rfl ?_
    exact ⟨rfl, HX0.out.low⟩
  | false =>
    rw [hB] at HBd
    have HRR := hid (show R = ((K, N), E) from by rw [HR.out]; rw [if_neg (fun h => h.elim HMm.out (fun h2 => by rw [hB] at h2; cases h2))])
    obtain ⟨V, hV⟩ : ∃ V : Value, errOf E = V := ⟨_, rfl⟩
    rw [HRR.out]
    dsimp only [frmV]
    rw [hV] at HT ⊢
    clear hV
    go_enter Tryd.func29, Tryd.ntmps29
    go_wp2_with (first | (go_at_call 56; (with_reducible refine (HBd.out _).mono ?_); rintro e w9 ⟨rfl, hw9⟩; subst w9) | (go_at_call 54; (with_reducible refine (HT.out _ HX0.out.low).mono ?_); rintro e w1 ⟨rfl, hb⟩; have HX1 := hid (HX0.out.next hb); obtain ⟨y0, y1, z0, z1⟩ := cells2 HX1.out.blk; clear hb HT))
    (try simp only [Exit.inBlock, Exit.then])
    refine bodyPost_ret (results_frm rfl _ _ _ 34 _ (0, 0) rfl (twoC HX1.out.blk _ _) rfl) rfl ?_
    exact ⟨rfl, below_twoG HX1.out.low (Nat.le_succ _) _ _⟩
set_option maxRecDepth 20000 in
set_option maxHeartbeats 8000000 in
theorem drequest (M T : ByteArray) (k : Int) (fs : List (B × B)) (p : Option Addr) (n c : Nat) (hn : fs.length = n) (w : World) (hF : FAt w p fs) (hsz : szB fs) (hnn : n ≤ 1048576) :
    Calls Tryd.prog 28 #[.agg #[.string M, .string T, .int .i64 k, .slice p n c]] w fun e w' => e = .returned (.tuple #[frmV (frmF k fs 0).1, .int .i64 ((frmF k fs 0).2 : Int)]) ∧ Below w.heap.size w w' := by
  have HT := hid (show ∀ W : World, Below w.heap.size w W → _ from fun W hb => dof k 0 fs p n c hn W (hF.next hb) hsz hnn)
  obtain ⟨⟨⟨K, N⟩, E⟩, hE⟩ : ∃ x, frmF k fs 0 = x := ⟨_, rfl⟩
  rw [hE] at HT ⊢
  dsimp only [frmV] at HT ⊢
  have HX0 := hid (BoxF.new2 w (.cells #[.string M, .string T, .int .i64 k, .slice p n c] 52 (0, 0)))
  obtain ⟨V, hV⟩ : ∃ V : Value, .int .i64 (E : Int) = V := ⟨_, rfl⟩
  rw [hV] at HT ⊢
  clear hE hF hsz hn hV
  go_enter Tryd.func28, Tryd.ntmps28
  go_wp2_with (go_at_call 55; (with_reducible refine (HT.out _ HX0.out.low).mono ?_); rintro e w1 ⟨rfl, hb⟩; have HX1 := hid (HX0.out.next hb); obtain ⟨y0, y1, z0, z1⟩ := cells2 HX1.out.blk; clear hb HT)
  (try simp only [Exit.inBlock, Exit.then])
  refine bodyPost_ret (results_frm rfl _ _ _ 34 _ (0, 0) rfl (twoC HX1.out.blk _ _) rfl) rfl ?_
  exact ⟨rfl, below_twoG HX1.out.low (Nat.le_succ _) _ _⟩
set_option maxRecDepth 20000 in
set_option maxHeartbeats 8000000 in
theorem dresponse (m : ByteArray) (s : Int) (T : ByteArray) (k : Int) (fs : List (B × B)) (p : Option Addr) (n c : Nat) (hn : fs.length = n) (w : World) (hF : FAt w p fs) (hsz : szB fs) (hnn : n ≤ 1048576) :
    Calls Tryd.prog 30 #[.string m, .agg #[.int .i64 s, .string T, .int .i64 k, .slice p n c]] w fun e w' => e = .returned (.tuple #[frmV (rspF m s k fs).1, .int .i64 ((rspF m s k fs).2 : Int)]) ∧ Below w.heap.size w w' := by
  have HT := hid (show ∀ W : World, Below w.heap.size w W → _ from fun W hb => dof k 3 fs p n c hn W (hF.next hb) hsz hnn)
  have HX0 := hid (BoxF.new2 w (.cells #[.int .i64 s, .string T, .int .i64 k, .slice p n c] 54 (0, 0)))
  obtain ⟨⟨⟨K, N⟩, E⟩, hE⟩ : ∃ x, frmF k fs 3 = x := ⟨_, rfl⟩
  rw [hE] at HT
  dsimp only [frmV] at HT
  have hR : rspF m s k fs = if m = headB ∨ bodyB s = true then ((0, 0), 0) else ((K, N), E) := by unfold rspF; rw [hE]
  obtain ⟨R, hRR⟩ : ∃ R, rspF m s k fs = R := ⟨_, rfl⟩
  rw [hRR] at hR ⊢
  have HR := hid hR
  clear hE hF hsz hn hR hRR
  by_cases hm : m = headB
  · subst hm
    unfold headB at HR ⊢
    have HRR := hid (show R = ((0, 0), 0) from by rw [HR.out]; rw [if_pos (.inl rfl)])
    rw [HRR.out]
    go_enter Tryd.func30, Tryd.ntmps30
    go_wp2
    (try simp only [Exit.inBlock, Exit.then])
    refine bodyPost_ret (results_frm rfl _ _ _ 34 _ (0, 0) rfl HX0.out.blk rfl) rfl ?_
    exact ⟨rfl, HX0.out.low⟩
  have hm1 : (m.toList == (⟨#[72, 69, 65, 68]⟩ : ByteArray).toList) = false := ne_list hm
  have hm2 : (m.toList == [72, 69, 65, 68]) = false := by
    have h := hm1
    rw [ByteArray.toList_eq, ByteArray.toList_eq] at h
    rw [ByteArray.toList_eq]
    exact h
  have HMm := hid hm
  clear hm
  by_cases a1 : 100 ≤ s
  · by_cases a2 : s ≤ 199
    · have HRR := hid (show R = ((0, 0), 0) from by rw [HR.out]; rw [if_pos (.inr (by unfold bodyB; exact decide_eq_true (by omega)))])
      rw [HRR.out]
      go_enter Tryd.func30, Tryd.ntmps30
      go_wp2
      (try simp only [Exit.inBlock, Exit.then])
      refine bodyPost_ret (results_frm rfl _ _ _ 34 _ (0, 0) rfl HX0.out.blk rfl) rfl ?_
      exact ⟨rfl, HX0.out.low⟩
    · by_cases a3 : s = 204
      · subst a3
        have HRR := hid (show R = ((0, 0), 0) from by rw [HR.out]; rw [if_pos (.inr (by unfold bodyB; exact decide_eq_true (by omega)))])
        rw [HRR.out]
        go_enter Tryd.func30, Tryd.ntmps30
        go_wp2
        (try simp only [Exit.inBlock, Exit.then])
        refine bodyPost_ret (results_frm rfl _ _ _ 34 _ (0, 0) rfl HX0.out.blk rfl) rfl ?_
        exact ⟨rfl, HX0.out.low⟩
      · by_cases a4 : s = 304
        · subst a4
          have HRR := hid (show R = ((0, 0), 0) from by rw [HR.out]; rw [if_pos (.inr (by unfold bodyB; exact decide_eq_true (by omega)))])
          rw [HRR.out]
          go_enter Tryd.func30, Tryd.ntmps30
          go_wp2
          (try simp only [Exit.inBlock, Exit.then])
          refine bodyPost_ret (results_frm rfl _ _ _ 34 _ (0, 0) rfl HX0.out.blk rfl) rfl ?_
          exact ⟨rfl, HX0.out.low⟩
        · have b3 : (s == 204) = false := by simpa using a3
          have b4 : (s == 304) = false := by simpa using a4
          have HRR := hid (show R = ((K, N), E) from by rw [HR.out]; rw [if_neg (fun h => h.elim HMm.out (fun h2 => by unfold bodyB at h2; have := of_decide_eq_true h2; omega))])
          obtain ⟨V, hV⟩ : ∃ V : Value, .int .i64 (E : Int) = V := ⟨_, rfl⟩
          rw [HRR.out]
          dsimp only [frmV]
          rw [hV] at HT ⊢
          clear hV
          go_enter Tryd.func30, Tryd.ntmps30
          go_wp2_with (first | (go_at_call 55; (with_reducible refine (HT.out _ HX0.out.low).mono ?_); rintro e w1 ⟨rfl, hb⟩; have HX1 := hid (HX0.out.next hb); obtain ⟨y0, y1, z0, z1⟩ := cells2 HX1.out.blk; clear hb HT))
          (try simp only [Exit.inBlock, Exit.then])
          refine bodyPost_ret (results_frm rfl _ _ _ 34 _ (0, 0) rfl (twoC HX1.out.blk _ _) rfl) rfl ?_
          exact ⟨rfl, below_twoG HX1.out.low (Nat.le_succ _) _ _⟩
  · have a3 : ¬ s = 204 := by omega
    have a4 : ¬ s = 304 := by omega
    have b3 : (s == 204) = false := by simpa using a3
    have b4 : (s == 304) = false := by simpa using a4
    have HRR := hid (show R = ((K, N), E) from by rw [HR.out]; rw [if_neg (fun h => h.elim HMm.out (fun h2 => by unfold bodyB at h2; have := of_decide_eq_true h2; omega))])
    obtain ⟨V, hV⟩ : ∃ V : Value, .int .i64 (E : Int) = V := ⟨_, rfl⟩
    rw [HRR.out]
    dsimp only [frmV]
    rw [hV] at HT ⊢
    clear hV
    go_enter Tryd.func30, Tryd.ntmps30
    go_wp2_with (first | (go_at_call 55; (with_reducible refine (HT.out _ HX0.out.low).mono ?_); rintro e w1 ⟨rfl, hb⟩; have HX1 := hid (HX0.out.next hb); obtain ⟨y0, y1, z0, z1⟩ := cells2 HX1.out.blk; clear hb HT))
    (try simp only [Exit.inBlock, Exit.then])
    refine bodyPost_ret (results_frm rfl _ _ _ 34 _ (0, 0) rfl (twoC HX1.out.blk _ _) rfl) rfl ?_
    exact ⟨rfl, below_twoG HX1.out.low (Nat.le_succ _) _ _⟩
end Go.Proofs.YthakldcfpndabaaDoor
