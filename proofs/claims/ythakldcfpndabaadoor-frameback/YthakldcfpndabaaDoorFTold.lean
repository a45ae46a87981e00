/- How a message's body is framed, on both sides. -/
import Derived.Test.YthakldcfpndabaaDoorFLenD
import Derived.Test.YthakldcfpndabaaDoorFChk
import Derived.Test.YthakldcfpndabaaDoorFFns
namespace Go.Proofs.YthakldcfpndabaaDoor
open Go.RowKit

theorem frm_size : (Tryd.prog.info? 34).map (·.size) = some 2 := by kernel_rfl
theorem results_frm {fn : Func} {p u : Tmp} (h : fn.results = #[.cell p 34, .tmp u]) (tmps : Array Value) (w : World) (g : Nat) (t : TypeId) (cs : Array Value) (fr : Nat × Nat)
    (hp : tmps.getD p undef = .pointer (some ⟨g, 0, none⟩)) (hg : w.heap[g]? = some (.cells cs t fr)) (hs : cs.size = 2) : (results fn tmps).run Tryd.prog w = .ok (.tuple #[.agg cs, tmps.getD u undef]) w := by
  have hl := run_loadVar_row (P := Tryd.prog) w g t 34 cs fr _ hg Tryd.underlying34 rfl (by rw [frm_size, hs])
  rw [results_cell_tmp h, hp]
  simp [asAddr, Result.andThen, hl]
theorem twoC {w : World} {g : Nat} {T : TypeId} {fr : Nat × Nat} {x0 x1 : Value} (h : w.heap[g]? = some (.cells #[x0, x1] T fr)) (c0 c1 : Value) :
    ((w.setCell ⟨g, 0, none⟩ c0).setCell ⟨g, 1, none⟩ c1).heap[g]? = some (.cells #[c0, c1] T fr) := by
  simp [World.setCell, Array.getElem?_modify, h]
theorem below_twoF {w w1 : World} {g : Nat} (h : Below g w w1) (c0 c1 : Value) : Below g w ((w1.setCell ⟨g, 0, none⟩ c0).setCell ⟨g, 1, none⟩ c1) := by
  iterate 2 refine Below.setCell ?_ (show g ≤ g from Nat.le_refl g) _
  exact h
theorem below_twoG {w w1 : World} {k g : Nat} (h : Below k w w1) (hg : k ≤ g) (c0 c1 : Value) : Below k w ((w1.setCell ⟨g, 0, none⟩ c0).setCell ⟨g, 1, none⟩ c1) := by
  iterate 2 refine Below.setCell ?_ hg _
  exact h
structure Cells2 (w : World) (g : Nat) (c0 c1 : Value) : Prop where
  a0 : w.cell? ⟨g, 0, none⟩ = some c0
  a1 : w.cell? ⟨g, 1, none⟩ = some c1
  z0 : w.frozen? ⟨g, 0, none⟩ = false
  z1 : w.frozen? ⟨g, 1, none⟩ = false
theorem cells2 {w : World} {g : Nat} {c0 c1 : Value} {T : TypeId} (h : w.heap[g]? = some (.cells #[c0, c1] T (0, 0))) : Cells2 w g c0 c1 := by
  refine ⟨?_, ?_, by simp [World.frozen?, h], by simp [World.frozen?, h]⟩ <;> simp [World.cell?, h]
/-- The box of a framing that is handed out, and what lay below. -/
structure BoxF (w W : World) (g : Nat) : Prop where
  low : Below w.heap.size w W
  blk : W.heap[g]? = some (.cells #[.int .i64 0, .int .i64 0] 34 (0, 0))
theorem BoxF.next {w W W' : World} {g : Nat} (h : BoxF w W g) (hb : Below W.heap.size W W') : BoxF w W' g := ⟨below_out h.low hb, (hb.block _ (lt_of_heap h.blk)).trans h.blk⟩
theorem BoxF.new (w : World) : BoxF w (w.alloc (.cells #[.int .i64 0, .int .i64 0] 34 (0, 0))) w.heap.size := ⟨below_new _ _, heap_alloc_new w _⟩
/-- A framing in memory. -/
abbrev frmV (x : Int × Int) : Value := .agg #[.int .i64 x.1, .int .i64 x.2]
theorem lenT_bd (fs : List (B × B)) : (lenT (lenF fs)).2.2 = 0 ∨ (lenT (lenF fs)).2.2 = 3 := by
  rcases lenF fs with _ | _ | n
  · exact .inr rfl
  · exact .inl rfl
  · exact .inl rfl
theorem chkT_bd (fs : List (B × B)) : ((chkF fs).2 = 0) ∨ (chkF fs).2 = 3 := by
  unfold chkF chkT
  split
  · exact .inl rfl
  · split
    · exact .inl rfl
    · exact .inr rfl
set_option maxRecDepth 20000 in
set_option maxHeartbeats 8000000 in
theorem ptold (k o : Int) (fs : List (B × B)) (p : Option Addr) (n c : Nat) (hn : fs.length = n) (w : World) (hF : FAt w p fs) (hsz : szB fs) (hnn : n ≤ 1048576) (hmx : ∃ m : Int, w.cell? ⟨2, 0, none⟩ = some (.int .i64 m)) :
    Calls Tryd.prog 54 #[.int .i64 k, .slice p n c, .int .i64 o] w fun e w' => e = .returned (.tuple #[frmV (frmF k fs o).1, errOf (frmF k fs o).2]) ∧ Below w.heap.size w w' := by
  obtain ⟨mm, hmm⟩ := hmx
  have HL := hid (show ∀ W : World, Below w.heap.size w W → _ from fun W hb => plength fs p n c hn W (hF.next hb) hsz hnn ⟨mm, cell_keep hb hmm⟩)
  have HC := hid (show ∀ W : World, Below w.heap.size w W → _ from fun W hb => pchunked fs p n c hn W (hF.next hb) hsz hnn ⟨mm, cell_keep hb hmm⟩)
  clear hmm
  have h1 := lenT_bd fs
  have h2 := chkT_bd fs
  have hR : frmF k fs o = frmF k fs o := rfl
  conv at hR => rhs; unfold frmF
  obtain ⟨R, hRR⟩ : ∃ R, frmF k fs o = R := ⟨_, rfl⟩
  rw [hRR] at hR ⊢
  obtain ⟨⟨N, H, E1⟩, hL⟩ : ∃ x, lenT (lenF fs) = x := ⟨_, rfl⟩
  obtain ⟨⟨C, E2⟩, hC⟩ : ∃ x, chkF fs = x := ⟨_, rfl⟩
  rw [hL] at HL h1 hR
  rw [hC] at HC h2 hR
  dsimp only at HL HC h1 h2 hR
  have HR := hid hR
  have HX0 := hid (BoxF.new w)
  clear hL hC hRR hF hsz hn hR
  rcases h1 with rfl | rfl
  · rw [show errOf 0 = .nilIface from rfl] at HL
    rcases h2 with rfl | rfl
    · rw [show errOf 0 = .nilIface from rfl] at HC
      cases C with
      | true =>
        cases H with
        | true =>
          have HRR := hid (show R = ((0, 0), 30) from by rw [HR.out]; simp)
          go_enter Tryd.func54, Tryd.ntmps54
          go_wp2_with (first | (go_at_call 18; (with_reducible refine (HL.out _ HX0.out.low).mono ?_); rintro e w1 ⟨rfl, hb⟩; have HX1 := hid (HX0.out.next hb); obtain ⟨y0, y1, z0, z1⟩ := cells2 HX1.out.blk; clear hb HL) | (go_at_call 20; (with_reducible refine (HC.out _ HX1.out.low).mono ?_); rintro e w2 ⟨rfl, hb⟩; have HX2 := hid (HX1.out.next hb); clear y0 y1 z0 z1; obtain ⟨y0, y1, z0, z1⟩ := cells2 HX2.out.blk; clear hb HC))
          (try simp only [Exit.inBlock, Exit.then])
          refine bodyPost_ret (results_frm rfl _ _ _ 34 _ (0, 0) rfl (twoC HX2.out.blk _ _) rfl) rfl ?_
          exact ⟨(by rw [HRR.out]; rfl), below_twoF HX2.out.low _ _⟩
        | false =>
          by_cases hk : k = 0
          · subst hk
            have HRR := hid (show R = ((0, 0), 30) from by rw [HR.out]; simp)
            go_enter Tryd.func54, Tryd.ntmps54
            go_wp2_with (first | (go_at_call 18; (with_reducible refine (HL.out _ HX0.out.low).mono ?_); rintro e w1 ⟨rfl, hb⟩; have HX1 := hid (HX0.out.next hb); obtain ⟨y0, y1, z0, z1⟩ := cells2 HX1.out.blk; clear hb HL) | (go_at_call 20; (with_reducible refine (HC.out _ HX1.out.low).mono ?_); rintro e w2 ⟨rfl, hb⟩; have HX2 := hid (HX1.out.next hb); clear y0 y1 z0 z1; obtain ⟨y0, y1, z0, z1⟩ := cells2 HX2.out.blk; clear hb HC))
            (try simp only [Exit.inBlock, Exit.then])
            refine bodyPost_ret (results_frm rfl _ _ _ 34 _ (0, 0) rfl (twoC HX2.out.blk _ _) rfl) rfl ?_
            exact ⟨(by rw [HRR.out]; rfl), below_twoF HX2.out.low _ _⟩
          · have hk1 : (k == 0) = false := by simpa using hk
            have HRR := hid (show R = ((2, 0), 0) from by rw [HR.out]; simp [hk])
            go_enter Tryd.func54, Tryd.ntmps54
            go_wp2_with (first | (go_at_call 18; (with_reducible refine (HL.out _ HX0.out.low).mono ?_); rintro e w1 ⟨rfl, hb⟩; have HX1 := hid (HX0.out.next hb); obtain ⟨y0, y1, z0, z1⟩ := cells2 HX1.out.blk; clear hb HL) | (go_at_call 20; (with_reducible refine (HC.out _ HX1.out.low).mono ?_); rintro e w2 ⟨rfl, hb⟩; have HX2 := hid (HX1.out.next hb); clear y0 y1 z0 z1; obtain ⟨y0, y1, z0, z1⟩ := cells2 HX2.out.blk; clear hb HC))
            (try simp only [Exit.inBlock, Exit.then])
            refine bodyPost_ret (results_frm rfl _ _ _ 34 _ (0, 0) rfl (twoC HX2.out.blk _ _) rfl) rfl ?_
            exact ⟨(by rw [HRR.out]; rfl), below_twoF HX2.out.low _ _⟩
      | false =>
        cases H with
        | true =>
          have HRR := hid (show R = ((1, N), 0) from by rw [HR.out]; simp)
          go_enter Tryd.func54, Tryd.ntmps54
          go_wp2_with (first | (go_at_call 18; (with_reducible refine (HL.out _ HX0.out.low).mono ?_); rintro e w1 ⟨rfl, hb⟩; have HX1 := hid (HX0.out.next hb); obtain ⟨y0, y1, z0, z1⟩ := cells2 HX1.out.blk; clear hb HL) | (go_at_call 20; (with_reducible refine (HC.out _ HX1.out.low).mono ?_); rintro e w2 ⟨rfl, hb⟩; have HX2 := hid (HX1.out.next hb); clear y0 y1 z0 z1; obtain ⟨y0, y1, z0, z1⟩ := cells2 HX2.out.blk; clear hb HC))
          (try simp only [Exit.inBlock, Exit.then])
          refine bodyPost_ret (results_frm rfl _ _ _ 34 _ (0, 0) rfl (twoC HX2.out.blk _ _) rfl) rfl ?_
          exact ⟨(by rw [HRR.out]; rfl), below_twoF HX2.out.low _ _⟩
        | false =>
          have HRR := hid (show R = ((o, 0), 0) from by rw [HR.out]; simp)
          go_enter Tryd.func54, Tryd.ntmps54
          go_wp2_with (first | (go_at_call 18; (with_reducible refine (HL.out _ HX0.out.low).mono ?_); rintro e w1 ⟨rfl, hb⟩; have HX1 := hid (HX0.out.next hb); obtain ⟨y0, y1, z0, z1⟩ := cells2 HX1.out.blk; clear hb HL) | (go_at_call 20; (with_reducible refine (HC.out _ HX1.out.low).mono ?_); rintro e w2 ⟨rfl, hb⟩; have HX2 := hid (HX1.out.next hb); clear y0 y1 z0 z1; obtain ⟨y0, y1, z0, z1⟩ := cells2 HX2.out.blk; clear hb HC))
          (try simp only [Exit.inBlock, Exit.then])
          refine bodyPost_ret (results_frm rfl _ _ _ 34 _ (0, 0) rfl (twoC HX2.out.blk _ _) rfl) rfl ?_
          exact ⟨(by rw [HRR.out]; rfl), below_twoF HX2.out.low _ _⟩
    · rw [show errOf 3 = .iface 83 (.int .i64 3) from rfl] at HC
      have HRR := hid (show R = ((0, 0), 30) from by rw [HR.out]; simp)
      go_enter Tryd.func54, Tryd.ntmps54
      go_wp2_with (first | (go_at_call 18; (with_reducible refine (HL.out _ HX0.out.low).mono ?_); rintro e w1 ⟨rfl, hb⟩; have HX1 := hid (HX0.out.next hb); obtain ⟨y0, y1, z0, z1⟩ := cells2 HX1.out.blk; clear hb HL) | (go_at_call 20; (with_reducible refine (HC.out _ HX1.out.low).mono ?_); rintro e w2 ⟨rfl, hb⟩; have HX2 := hid (HX1.out.next hb); clear y0 y1 z0 z1; obtain ⟨y0, y1, z0, z1⟩ := cells2 HX2.out.blk; clear hb HC))
      (try simp only [Exit.inBlock, Exit.then])
      refine bodyPost_ret (results_frm rfl _ _ _ 34 _ (0, 0) rfl (twoC HX2.out.blk _ _) rfl) rfl ?_
      exact ⟨(by rw [HRR.out]; rfl), below_twoF HX2.out.low _ _⟩
  · rw [show errOf 3 = .iface 83 (.int .i64 3) from rfl] at HL
    have HRR := hid (show R = ((0, 0), 30) from by rw [HR.out]; simp)
    go_enter Tryd.func54, Tryd.ntmps54
    go_wp2_with (first | (go_at_call 18; (with_reducible refine (HL.out _ HX0.out.low).mono ?_); rintro e w1 ⟨rfl, hb⟩; have HX1 := hid (HX0.out.next hb); obtain ⟨y0, y1, z0, z1⟩ := cells2 HX1.out.blk; clear hb HL))
    (try simp only [Exit.inBlock, Exit.then])
    refine bodyPost_ret (results_frm rfl _ _ _ 34 _ (0, 0) rfl (twoC HX1.out.blk _ _) rfl) rfl ?_
    exact ⟨(by rw [HRR.out]; rfl), below_twoF HX1.out.low _ _⟩
set_option maxRecDepth 20000 in
set_option maxHeartbeats 8000000 in
theorem dof (k o : Int) (fs : List (B × B)) (p : Option Addr) (n c : Nat) (hn : fs.length = n) (w : World) (hF : FAt w p fs) (hsz : szB fs) (hnn : n ≤ 1048576) :
    Calls Tryd.prog 55 #[.int .i64 k, .slice p n c, .int .i64 o] w fun e w' => e = .returned (.tuple #[frmV (frmF k fs o).1, .int .i64 ((frmF k fs o).2 : Int)]) ∧ Below w.heap.size w w' := by
  have HL := hid (show ∀ W : World, Below w.heap.size w W → _ from fun W hb => dlength fs p n c hn W (hF.next hb) hsz hnn)
  have HC := hid (show ∀ W : World, Below w.heap.size w W → _ from fun W hb => dchunked fs p n c hn W (hF.next hb) hsz hnn)
  have HV := hid (show ∀ W : World, Below w.heap.size w W → _ from fun W hb => dvals fs p n c hn teN W (hF.next hb) hsz (by decide) hnn)
  have hcv : (valsB fs teN).length = 0 ∧ chkF fs = (false, 0) ∨ 0 < (valsB fs teN).length ∧ ((chkF fs).2 = 3 ∨ chkF fs = (true, 0)) := by
    unfold chkF chkT
    by_cases h0 : valsB fs teN = []
    · rw [if_pos h0, h0]; exact .inl ⟨rfl, rfl⟩
    · rw [if_neg h0]
      refine .inr ⟨List.length_pos_iff.2 h0, ?_⟩
      split
      · exact .inr rfl
      · exact .inl rfl
  unfold teN at HV hcv
  obtain ⟨V, hV⟩ : ∃ V, valsB fs ⟨#[84, 114, 97, 110, 115, 102, 101, 114, 45, 69, 110, 99, 111, 100, 105, 110, 103]⟩ = V := ⟨_, rfl⟩
  rw [hV] at HV hcv
  obtain ⟨t, ht⟩ : ∃ t, V.length = t := ⟨_, rfl⟩
  have HVt := hid ht
  rw [ht] at hcv
  clear hV ht
  have h1 := lenT_bd fs
  have h2 := chkT_bd fs
  have hR : frmF k fs o = frmF k fs o := rfl
  conv at hR => rhs; unfold frmF
  obtain ⟨R, hRR⟩ : ∃ R, frmF k fs o = R := ⟨_, rfl⟩
  rw [hRR] at hR ⊢
  obtain ⟨⟨N, H, E1⟩, hL⟩ : ∃ x, lenT (lenF fs) = x := ⟨_, rfl⟩
  obtain ⟨⟨C, E2⟩, hC⟩ : ∃ x, chkF fs = x := ⟨_, rfl⟩
  rw [hL] at HL h1 hR
  rw [hC] at HC h2 hR hcv
  dsimp only at HL HC h1 h2 hR hcv
  simp only [Prod.mk.injEq] at hcv
  have HR := hid hR
  have HX0 := hid (BoxF.new w)
  clear hL hC hRR hF hsz hn hR
  rcases hcv with ⟨rfl, rfl, rfl⟩ | ⟨ht, hcv⟩
  · rcases h1 with rfl | rfl
    · cases H with
      | true =>
        have HRR := hid (show R = ((1, N), 0) from by rw [HR.out]; simp)
        go_enter Tryd.func55, Tryd.ntmps55
        go_wp2_with (first | (go_at_call 19; (with_reducible refine (HL.out _ HX0.out.low).mono ?_); rintro e w1 ⟨rfl, hb⟩; have HX1 := hid (HX0.out.next hb); obtain ⟨y0, y1, z0, z1⟩ := cells2 HX1.out.blk; clear hb HL) | (go_at_call 21; (with_reducible refine (HC.out _ HX1.out.low).mono ?_); rintro e w2 ⟨rfl, hb⟩; have HX2 := hid (HX1.out.next hb); clear y0 y1 z0 z1; obtain ⟨y0, y1, z0, z1⟩ := cells2 HX2.out.blk; clear hb HC) | (go_at_call 44; (with_reducible refine (HV.out _ HX2.out.low).mono ?_); rintro e w3 ⟨v, rfl, ho, hb⟩; obtain ⟨q, d, rfl, hq⟩ := row_see ho _ HVt.out; have HX3 := hid (HX2.out.next hb); clear y0 y1 z0 z1; obtain ⟨y0, y1, z0, z1⟩ := cells2 HX3.out.blk; clear hb ho hq HV))
        (try simp only [Exit.inBlock, Exit.then])
        refine bodyPost_ret (results_frm rfl _ _ _ 34 _ (0, 0) rfl (twoC HX3.out.blk _ _) rfl) rfl ?_
        exact ⟨(by rw [HRR.out]; rfl), below_twoF HX3.out.low _ _⟩
      | false =>
        have HRR := hid (show R = ((o, 0), 0) from by rw [HR.out]; simp)
        go_enter Tryd.func55, Tryd.ntmps55
        go_wp2_with (first | (go_at_call 19; (with_reducible refine (HL.out _ HX0.out.low).mono ?_); rintro e w1 ⟨rfl, hb⟩; have HX1 := hid (HX0.out.next hb); obtain ⟨y0, y1, z0, z1⟩ := cells2 HX1.out.blk; clear hb HL) | (go_at_call 21; (with_reducible refine (HC.out _ HX1.out.low).mono ?_); rintro e w2 ⟨rfl, hb⟩; have HX2 := hid (HX1.out.next hb); clear y0 y1 z0 z1; obtain ⟨y0, y1, z0, z1⟩ := cells2 HX2.out.blk; clear hb HC) | (go_at_call 44; (with_reducible refine (HV.out _ HX2.out.low).mono ?_); rintro e w3 ⟨v, rfl, ho, hb⟩; obtain ⟨q, d, rfl, hq⟩ := row_see ho _ HVt.out; have HX3 := hid (HX2.out.next hb); clear y0 y1 z0 z1; obtain ⟨y0, y1, z0, z1⟩ := cells2 HX3.out.blk; clear hb ho hq HV))
        (try simp only [Exit.inBlock, Exit.then])
        refine bodyPost_ret (results_frm rfl _ _ _ 34 _ (0, 0) rfl (twoC HX3.out.blk _ _) rfl) rfl ?_
        exact ⟨(by rw [HRR.out]; rfl), below_twoF HX3.out.low _ _⟩
    · have HRR := hid (show R = ((0, 0), 30) from by rw [HR.out]; simp)
      go_enter Tryd.func55, Tryd.ntmps55
      go_wp2_with (first | (go_at_call 19; (with_reducible refine (HL.out _ HX0.out.low).mono ?_); rintro e w1 ⟨rfl, hb⟩; have HX1 := hid (HX0.out.next hb); obtain ⟨y0, y1, z0, z1⟩ := cells2 HX1.out.blk; clear hb HL) | (go_at_call 21; (with_reducible refine (HC.out _ HX1.out.low).mono ?_); rintro e w2 ⟨rfl, hb⟩; have HX2 := hid (HX1.out.next hb); clear y0 y1 z0 z1; obtain ⟨y0, y1, z0, z1⟩ := cells2 HX2.out.blk; clear hb HC) | (go_at_call 44; (with_reducible refine (HV.out _ HX2.out.low).mono ?_); rintro e w3 ⟨v, rfl, ho, hb⟩; obtain ⟨q, d, rfl, hq⟩ := row_see ho _ HVt.out; have HX3 := hid (HX2.out.next hb); clear y0 y1 z0 z1; obtain ⟨y0, y1, z0, z1⟩ := cells2 HX3.out.blk; clear hb ho hq HV))
      (try simp only [Exit.inBlock, Exit.then])
      refine bodyPost_ret (results_frm rfl _ _ _ 34 _ (0, 0) rfl (twoC HX3.out.blk _ _) rfl) rfl ?_
      exact ⟨(by rw [HRR.out]; rfl), below_twoF HX3.out.low _ _⟩
  · have ht1 : (0 : Int) < (t : Int) := by omega
    have ht2 : decide ((0 : Int) < (t : Int)) = true := by simpa using ht
    rcases h1 with rfl | rfl
    · rcases hcv with rfl | ⟨rfl, rfl⟩
      · have HRR := hid (show R = ((0, 0), 30) from by rw [HR.out]; simp)
        go_enter Tryd.func55, Tryd.ntmps55
        go_wp2_with (first | (go_at_call 19; (with_reducible refine (HL.out _ HX0.out.low).mono ?_); rintro e w1 ⟨rfl, hb⟩; have HX1 := hid (HX0.out.next hb); obtain ⟨y0, y1, z0, z1⟩ := cells2 HX1.out.blk; clear hb HL) | (go_at_call 21; (with_reducible refine (HC.out _ HX1.out.low).mono ?_); rintro e w2 ⟨rfl, hb⟩; have HX2 := hid (HX1.out.next hb); clear y0 y1 z0 z1; obtain ⟨y0, y1, z0, z1⟩ := cells2 HX2.out.blk; clear hb HC) | (go_at_call 44; (with_reducible refine (HV.out _ HX2.out.low).mono ?_); rintro e w3 ⟨v, rfl, ho, hb⟩; obtain ⟨q, d, rfl, hq⟩ := row_see ho _ HVt.out; have HX3 := hid (HX2.out.next hb); clear y0 y1 z0 z1; obtain ⟨y0, y1, z0, z1⟩ := cells2 HX3.out.blk; clear hb ho hq HV))
        (try simp only [Exit.inBlock, Exit.then])
        refine bodyPost_ret (results_frm rfl _ _ _ 34 _ (0, 0) rfl (twoC HX3.out.blk _ _) rfl) rfl ?_
        exact ⟨(by rw [HRR.out]; rfl), below_twoF HX3.out.low _ _⟩
      · cases H with
        | true =>
          have HRR := hid (show R = ((0, 0), 30) from by rw [HR.out]; simp)
          go_enter Tryd.func55, Tryd.ntmps55
          go_wp2_with (first | (go_at_call 19; (with_reducible refine (HL.out _ HX0.out.low).mono ?_); rintro e w1 ⟨rfl, hb⟩; have HX1 := hid (HX0.out.next hb); obtain ⟨y0, y1, z0, z1⟩ := cells2 HX1.out.blk; clear hb HL) | (go_at_call 21; (with_reducible refine (HC.out _ HX1.out.low).mono ?_); rintro e w2 ⟨rfl, hb⟩; have HX2 := hid (HX1.out.next hb); clear y0 y1 z0 z1; obtain ⟨y0, y1, z0, z1⟩ := cells2 HX2.out.blk; clear hb HC) | (go_at_call 44; (with_reducible refine (HV.out _ HX2.out.low).mono ?_); rintro e w3 ⟨v, rfl, ho, hb⟩; obtain ⟨q, d, rfl, hq⟩ := row_see ho _ HVt.out; have HX3 := hid (HX2.out.next hb); clear y0 y1 z0 z1; obtain ⟨y0, y1, z0, z1⟩ := cells2 HX3.out.blk; clear hb ho hq HV))
          (try simp only [Exit.inBlock, Exit.then])
          refine bodyPost_ret (results_frm rfl _ _ _ 34 _ (0, 0) rfl (twoC HX3.out.blk _ _) rfl) rfl ?_
          exact ⟨(by rw [HRR.out]; rfl), below_twoF HX3.out.low _ _⟩
        | false =>
          by_cases hk : k = 0
          · subst hk
            have HRR := hid (show R = ((0, 0), 30) from by rw [HR.out]; simp)
            go_enter Tryd.func55, Tryd.ntmps55
            go_wp2_with (first | (go_at_call 19; (with_reducible refine (HL.out _ HX0.out.low).mono ?_); rintro e w1 ⟨rfl, hb⟩; have HX1 := hid (HX0.out.next hb); obtain ⟨y0, y1, z0, z1⟩ := cells2 HX1.out.blk; clear hb HL) | (go_at_call 21; (with_reducible refine (HC.out _ HX1.out.low).mono ?_); rintro e w2 ⟨rfl, hb⟩; have HX2 := hid (HX1.out.next hb); clear y0 y1 z0 z1; obtain ⟨y0, y1, z0, z1⟩ := cells2 HX2.out.blk; clear hb HC) | (go_at_call 44; (with_reducible refine (HV.out _ HX2.out.low).mono ?_); rintro e w3 ⟨v, rfl, ho, hb⟩; obtain ⟨q, d, rfl, hq⟩ := row_see ho _ HVt.out; have HX3 := hid (HX2.out.next hb); clear y0 y1 z0 z1; obtain ⟨y0, y1, z0, z1⟩ := cells2 HX3.out.blk; clear hb ho hq HV))
            (try simp only [Exit.inBlock, Exit.then])
            refine bodyPost_ret (results_frm rfl _ _ _ 34 _ (0, 0) rfl (twoC HX3.out.blk _ _) rfl) rfl ?_
            exact ⟨(by rw [HRR.out]; rfl), below_twoF HX3.out.low _ _⟩
          · have hk1 : (k == 0) = false := by simpa using hk
            have HRR := hid (show R = ((2, 0), 0) from by rw [HR.out]; simp [hk])
            go_enter Tryd.func55, Tryd.ntmps55
            go_wp2_with (first | (go_at_call 19; (with_reducible refine (HL.out _ HX0.out.low).mono ?_); rintro e w1 ⟨rfl, hb⟩; have HX1 := hid (HX0.out.next hb); obtain ⟨y0, y1, z0, z1⟩ := cells2 HX1.out.blk; clear hb HL) | (go_at_call 21; (with_reducible refine (HC.out _ HX1.out.low).mono ?_); rintro e w2 ⟨rfl, hb⟩; have HX2 := hid (HX1.out.next hb); clear y0 y1 z0 z1; obtain ⟨y0, y1, z0, z1⟩ := cells2 HX2.out.blk; clear hb HC) | (go_at_call 44; (with_reducible refine (HV.out _ HX2.out.low).mono ?_); rintro e w3 ⟨v, rfl, ho, hb⟩; obtain ⟨q, d, rfl, hq⟩ := row_see ho _ HVt.out; have HX3 := hid (HX2.out.next hb); clear y0 y1 z0 z1; obtain ⟨y0, y1, z0, z1⟩ := cells2 HX3.out.blk; clear hb ho hq HV))
            (try simp only [Exit.inBlock, Exit.then])
            refine bodyPost_ret (results_frm rfl _ _ _ 34 _ (0, 0) rfl (twoC HX3.out.blk _ _) rfl) rfl ?_
            exact ⟨(by rw [HRR.out]; rfl), below_twoF HX3.out.low _ _⟩
    · have HRR := hid (show R = ((0, 0), 30) from by rw [HR.out]; simp)
      go_enter Tryd.func55, Tryd.ntmps55
      go_wp2_with (first | (go_at_call 19; (with_reducible refine (HL.out _ HX0.out.low).mono ?_); rintro e w1 ⟨rfl, hb⟩; have HX1 := hid (HX0.out.next hb); obtain ⟨y0, y1, z0, z1⟩ := cells2 HX1.out.blk; clear hb HL) | (go_at_call 21; (with_reducible refine (HC.out _ HX1.out.low).mono ?_); rintro e w2 ⟨rfl, hb⟩; have HX2 := hid (HX1.out.next hb); clear y0 y1 z0 z1; obtain ⟨y0, y1, z0, z1⟩ := cells2 HX2.out.blk; clear hb HC) | (go_at_call 44; (with_reducible refine (HV.out _ HX2.out.low).mono ?_); rintro e w3 ⟨v, rfl, ho, hb⟩; obtain ⟨q, d, rfl, hq⟩ := row_see ho _ HVt.out; have HX3 := hid (HX2.out.next hb); clear y0 y1 z0 z1; obtain ⟨y0, y1, z0, z1⟩ := cells2 HX3.out.blk; clear hb ho hq HV))
      (try simp only [Exit.inBlock, Exit.then])
      refine bodyPost_ret (results_frm rfl _ _ _ 34 _ (0, 0) rfl (twoC HX3.out.blk _ _) rfl) rfl ?_
      exact ⟨(by rw [HRR.out]; rfl), below_twoF HX3.out.low _ _⟩
end Go.Proofs.YthakldcfpndabaaDoor
