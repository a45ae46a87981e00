/- What the document's block makes of a state. -/
import Derived.Test.YtojcaoieodogdaaDoorConsts
import Derived.Test.YtojcaoieodogdaaDoorSame
import Derived.Deep.CutBlock
import Derived.Deep.CutRange
namespace Go.Proofs.YtojcaoieodogdaaDoor
open Go.RowKit

/-- Block b holds the words l from its beginning on. -/
def WCells (w : World) (b : Nat) (l : List Int) : Prop := b < w.heap.size ∧ ∀ i, i < l.length → w.cell? ⟨b, i, none⟩ = some (.int .u32 (l[i]?.getD 0))
theorem WCells.below {w w' : World} {b : Nat} {l : List Int} (h : WCells w b l) (hb : Below w.heap.size w w') : WCells w' b l :=
  ⟨Nat.lt_of_lt_of_le h.1 hb.size, fun i hi => (hb.cell (p := ⟨b, i, none⟩) h.1).trans (h.2 i hi)⟩
theorem WCells.drewN {w : World} {b : Nat} {l : List Int} (h : WCells w b l) (n : Nat) : WCells (w.drewN n) b l := h
theorem WCells.drew {w : World} {b : Nat} {l : List Int} (h : WCells w b l) : WCells w.drew b l := h
theorem MineW.cells {w W : World} {b c : Nat} {l : List Int} (h : MineW w W (some ⟨b, 0, none⟩) c l) : WCells W b l := by
  obtain ⟨b2, cur, h0, h1, h2, _⟩ := h.row _ rfl
  cases h0
  refine ⟨lt_of_heap h2, fun i hi => ?_⟩
  obtain ⟨b3, e3, _, e4⟩ := h.cell hi
  cases e3
  exact e4
theorem MineW.some {w W : World} {pa : Option Addr} {c : Nat} {l : List Int} (h : MineW w W pa c l) (hl : 0 < l.length) : ∃ b, pa = Option.some ⟨b, 0, none⟩ := by
  obtain ⟨b, h1, _⟩ := h.cell hl
  exact ⟨b, h1⟩
/-- Eight words at a block's beginning. -/
def AtO (U : World) (ba : Nat) (s : Oct) : Prop := U.cell? ⟨ba, 0, none⟩ = some (.int .u32 s.a) ∧ U.cell? ⟨ba, 1, none⟩ = some (.int .u32 s.b) ∧ U.cell? ⟨ba, 2, none⟩ = some (.int .u32 s.c) ∧ U.cell? ⟨ba, 3, none⟩ = some (.int .u32 s.d) ∧ U.cell? ⟨ba, 4, none⟩ = some (.int .u32 s.e) ∧ U.cell? ⟨ba, 5, none⟩ = some (.int .u32 s.f) ∧ U.cell? ⟨ba, 6, none⟩ = some (.int .u32 s.g) ∧ U.cell? ⟨ba, 7, none⟩ = some (.int .u32 s.h)
theorem WCells.oct {w : World} {b : Nat} {l : List Int} (h : WCells w b l) (hl : l.length = 8) : AtO w b (octOf l) :=
  ⟨h.2 0 (by omega), h.2 1 (by omega), h.2 2 (by omega), h.2 3 (by omega), h.2 4 (by omega), h.2 5 (by omega), h.2 6 (by omega), h.2 7 (by omega)⟩
theorem AtO.cells {w : World} {b : Nat} {s : Oct} (h : AtO w b s) (hb : b < w.heap.size) : WCells w b s.list := by
  refine ⟨hb, fun i hi => ?_⟩
  have h8 : i < 8 := hi
  obtain ⟨h0, h1, h2, h3, h4, h5, h6, h7⟩ := h
  match i, h8 with
  | 0, _ => exact h0
  | 1, _ => exact h1
  | 2, _ => exact h2
  | 3, _ => exact h3
  | 4, _ => exact h4
  | 5, _ => exact h5
  | 6, _ => exact h6
  | 7, _ => exact h7
theorem WCells.at {w : World} {b : Nat} {s : Oct} (h : WCells w b s.list) : AtO w b s :=
  ⟨h.2 0 (by show 0 < 8; omega), h.2 1 (by show 1 < 8; omega), h.2 2 (by show 2 < 8; omega), h.2 3 (by show 3 < 8; omega), h.2 4 (by show 4 < 8; omega), h.2 5 (by show 5 < 8; omega), h.2 6 (by show 6 < 8; omega), h.2 7 (by show 7 < 8; omega)⟩
theorem MineW.from {w V W : World} {pa : Option Addr} {c : Nat} {l : List Int} (h : MineW V W pa c l) (hb : Below w.heap.size w V) : MineW w W pa c l := by
  refine ⟨hb.trans (h.below.mono hb.size), h.fits, h.most, h.nothing, fun a ha => ?_⟩
  obtain ⟨b, cur, h0, h1, h2⟩ := h.row a ha
  exact ⟨b, cur, h0, Nat.le_trans hb.size h1, h2⟩
theorem new_words (V : World) (l : List Int) : WCells (V.alloc (.cells (ws l) 56)) V.heap.size l :=
  ⟨by simp, fun i hi => ((row_new V (ws l) 56).cell i).trans (ws_get hi)⟩
/-- In the document's block: the state, the constants, the words, and what goes round. -/
structure BlkP (w W : World) (bh bk bw ba : Nat) (st wl s : List Int) : Prop where
  below : Below w.heap.size w W
  st : WCells W bh st
  k : WCells W bk kTab
  row : WCells W bw wl
  a : WCells W ba s
theorem BlkP.next {w W W' : World} {bh bk bw ba : Nat} {st wl s : List Int} (h : BlkP w W bh bk bw ba st wl s) (hb : Below W.heap.size W W') : BlkP w W' bh bk bw ba st wl s :=
  ⟨h.below.trans (hb.mono h.below.size), h.st.below hb, h.k.below hb, h.row.below hb, h.a.below hb⟩
theorem BlkP.drewN {w W : World} {bh bk bw ba : Nat} {st wl s : List Int} (h : BlkP w W bh bk bw ba st wl s) (n : Nat) : BlkP w (W.drewN n) bh bk bw ba st wl s := ⟨below_drewN h.below n, h.st, h.k, h.row, h.a⟩
theorem BlkP.drew {w W : World} {bh bk bw ba : Nat} {st wl s : List Int} (h : BlkP w W bh bk bw ba st wl s) : BlkP w W.drew bh bk bw ba st wl s := ⟨h.below.drew, h.st, h.k, h.row, h.a⟩
/-- What the rounds read. -/
def RdP (U : World) (ba : Nat) (s : Oct) (bk bw t : Nat) (x y : Int) : Prop := AtO U ba s ∧ U.cell? ⟨bk, t, none⟩ = some (.int .u32 x) ∧ U.cell? ⟨bw, t, none⟩ = some (.int .u32 y)
theorem BlkP.rd {w W : World} {bh bk bw ba : Nat} {st wl : List Int} {s : Oct} (h : BlkP w W bh bk bw ba st wl s.list) {t : Nat} (ht : t < 64) (hw : wl.length = 64) {x y : Int} (hx : kTab[t]?.getD 0 = x) (hy : wl[t]?.getD 0 = y) : RdP W ba s bk bw t x y := by
  subst hx hy
  exact ⟨h.a.at, h.k.2 t (by rw [kTab_len]; exact ht), h.row.2 t (by omega)⟩
set_option maxRecDepth 20000 in
set_option maxHeartbeats 4000000 in
theorem refBlock_any (st blk : List Int) (hs : st.length = 8) (hl : blk.length = 64) (hbd : ∀ x ∈ blk, 0 ≤ x ∧ x < 256) (bh bk b o ch ck cap : Nat) (hcap : 64 ≤ cap) (w : World) (h1 : WCells w bh st) (h2 : WCells w bk kTab) (hb : b < w.heap.size) (hc : CellsAt w b o blk) :
    Calls Tryd.prog 39 #[.slice (some ⟨bh, 0, none⟩) 8 ch, .slice (some ⟨bk, 0, none⟩) 64 ck, .slice (some ⟨b, o, none⟩) 64 cap] w fun e w' => ∃ pa c, e = .returned (.slice pa 8 c) ∧ MineW w w' pa c (mixW st blk) := by
  have HI : Hid (WCells w bh st ∧ WCells w bk kTab ∧ b < w.heap.size ∧ CellsAt w b o blk ∧ blk.length = 64 ∧ (∀ x ∈ blk, 0 ≤ x ∧ x < 256) ∧ 64 ≤ cap ∧ st.length = 8) := ⟨h1, h2, hb, hc, hl, hbd, hcap, hs⟩
  clear h1 h2 hb hc hl hbd hcap hs
  go_enter Tryd.func39, Tryd.ntmps39
  go_wp2_with (go_at_call 53; (with_reducible refine (refSched_any blk HI.out.2.2.2.2.1 b o cap HI.out.2.2.2.2.2.2.1 w HI.out.2.2.1 HI.out.2.2.2.1).mono ?_); rintro e w1 ⟨pw, cw, rfl, hm1⟩; rw [sched_same blk HI.out.2.2.2.2.2.1] at hm1; have HM1 := hid hm1; clear hm1)
  obtain ⟨bw, rfl⟩ := HM1.out.some (by rw [sched_len]; omega)
  have HW1 : Hid (WCells w1 bh st ∧ WCells w1 bk kTab ∧ WCells w1 bw (sched blk)) := ⟨HI.out.1.below HM1.out.below, HI.out.2.1.below HM1.out.below, HM1.out.cells⟩
  obtain ⟨s, HS⟩ : ∃ s, Hid (octOf st = s) := ⟨_, hid rfl⟩
  obtain ⟨s0, s1, s2, s3, s4, s5, s6, s7⟩ := s
  have hA : AtO w1 bh ⟨s0, s1, s2, s3, s4, s5, s6, s7⟩ := by rw [← HS.out]; exact HW1.out.1.oct HI.out.2.2.2.2.2.2.2
  have HA : Hid (AtO w1 bh ⟨s0, s1, s2, s3, s4, s5, s6, s7⟩) := hA
  have HZ : Hid (bh < w1.heap.size) := HW1.out.1.1
  clear hA
  refine wp_region_noPanic ?_
  refine any_begin 26 (by kernel_rfl) (by kernel_rfl) ?_
  refine late_begin (fun U => AtO U bh ⟨s0, s1, s2, s3, s4, s5, s6, s7⟩) (fun _ => false) HA.out (fun hS => ?_)
  refine late_take (i := 0) (some 21) rfl rfl (by kernel_rfl) (by kernel_rfl) (by kernel_rfl) (by kernel_rfl) (by kernel_rfl) (fun _ _ _ h => h) (by rfl) (v := ?v0h) ?hy0h hS ?rest0h
  case hy0h => intro w0 hSw; obtain ⟨z0, z1, z2, z3, z4, z5, z6, z7⟩ := hSw; go_simp; try with_reducible rfl
  simp only [Act.put, List.setIfInBounds_toArray, List.set_cons_zero, List.set_cons_succ]
  refine late_take (i := 1) (some 22) rfl rfl (by kernel_rfl) (by kernel_rfl) (by kernel_rfl) (by kernel_rfl) (by kernel_rfl) (fun _ _ _ h => h) (by rfl) (v := ?v1h) ?hy1h hS ?rest1h
  case hy1h => intro w0 hSw; obtain ⟨z0, z1, z2, z3, z4, z5, z6, z7⟩ := hSw; go_simp; try with_reducible rfl
  simp only [Act.put, List.setIfInBounds_toArray, List.set_cons_zero, List.set_cons_succ]
  refine late_take (i := 2) (some 23) rfl rfl (by kernel_rfl) (by kernel_rfl) (by kernel_rfl) (by kernel_rfl) (by kernel_rfl) (fun _ _ _ h => h) (by rfl) (v := ?v2h) ?hy2h hS ?rest2h
  case hy2h => intro w0 hSw; obtain ⟨z0, z1, z2, z3, z4, z5, z6, z7⟩ := hSw; go_simp; try with_reducible rfl
  simp only [Act.put, List.setIfInBounds_toArray, List.set_cons_zero, List.set_cons_succ]
  refine late_take (i := 3) (some 24) rfl rfl (by kernel_rfl) (by kernel_rfl) (by kernel_rfl) (by kernel_rfl) (by kernel_rfl) (fun _ _ _ h => h) (by rfl) (v := ?v3h) ?hy3h hS ?rest3h
  case hy3h => intro w0 hSw; obtain ⟨z0, z1, z2, z3, z4, z5, z6, z7⟩ := hSw; go_simp; try with_reducible rfl
  simp only [Act.put, List.setIfInBounds_toArray, List.set_cons_zero, List.set_cons_succ]
  refine late_take (i := 4) (some 25) rfl rfl (by kernel_rfl) (by kernel_rfl) (by kernel_rfl) (by kernel_rfl) (by kernel_rfl) (fun _ _ _ h => h) (by rfl) (v := ?v4h) ?hy4h hS ?rest4h
  case hy4h => intro w0 hSw; obtain ⟨z0, z1, z2, z3, z4, z5, z6, z7⟩ := hSw; go_simp; try with_reducible rfl
  simp only [Act.put, List.setIfInBounds_toArray, List.set_cons_zero, List.set_cons_succ]
  refine late_take (i := 5) (some 26) rfl rfl (by kernel_rfl) (by kernel_rfl) (by kernel_rfl) (by kernel_rfl) (by kernel_rfl) (fun _ _ _ h => h) (by rfl) (v := ?v5h) ?hy5h hS ?rest5h
  case hy5h => intro w0 hSw; obtain ⟨z0, z1, z2, z3, z4, z5, z6, z7⟩ := hSw; go_simp; try with_reducible rfl
  simp only [Act.put, List.setIfInBounds_toArray, List.set_cons_zero, List.set_cons_succ]
  refine late_take (i := 6) (some 27) rfl rfl (by kernel_rfl) (by kernel_rfl) (by kernel_rfl) (by kernel_rfl) (by kernel_rfl) (fun _ _ _ h => h) (by rfl) (v := ?v6h) ?hy6h hS ?rest6h
  case hy6h => intro w0 hSw; obtain ⟨z0, z1, z2, z3, z4, z5, z6, z7⟩ := hSw; go_simp; try with_reducible rfl
  simp only [Act.put, List.setIfInBounds_toArray, List.set_cons_zero, List.set_cons_succ]
  refine late_take (i := 7) (some 28) rfl rfl (by kernel_rfl) (by kernel_rfl) (by kernel_rfl) (by kernel_rfl) (by kernel_rfl) (fun _ _ _ h => h) (by rfl) (v := ?v7h) ?hy7h hS ?rest7h
  case hy7h => intro w0 hSw; obtain ⟨z0, z1, z2, z3, z4, z5, z6, z7⟩ := hSw; go_simp; try with_reducible rfl
  simp only [Act.put, List.setIfInBounds_toArray, List.set_cons_zero, List.set_cons_succ]
  refine late_take (i := 8) (some 29) rfl rfl (by kernel_rfl) (by kernel_rfl) (by kernel_rfl) (by kernel_rfl) (by kernel_rfl) (fun _ _ _ h => h) (by rfl) (v := ?v8h) ?hy8h hS ?rest8h
  case hy8h => intro w0 hSw; obtain ⟨z0, z1, z2, z3, z4, z5, z6, z7⟩ := hSw; go_simp; try with_reducible rfl
  simp only [Act.put, List.setIfInBounds_toArray, List.set_cons_zero, List.set_cons_succ]
  refine late_take (i := 9) (some 30) rfl rfl (by kernel_rfl) (by kernel_rfl) (by kernel_rfl) (by kernel_rfl) (by kernel_rfl) (fun _ _ _ h => h) (by rfl) (v := ?v9h) ?hy9h hS ?rest9h
  case hy9h => intro w0 hSw; obtain ⟨z0, z1, z2, z3, z4, z5, z6, z7⟩ := hSw; go_simp; try with_reducible rfl
  simp only [Act.put, List.setIfInBounds_toArray, List.set_cons_zero, List.set_cons_succ]
  refine late_take (i := 10) (some 31) rfl rfl (by kernel_rfl) (by kernel_rfl) (by kernel_rfl) (by kernel_rfl) (by kernel_rfl) (fun _ _ _ h => h) (by rfl) (v := ?v10h) ?hy10h hS ?rest10h
  case hy10h => intro w0 hSw; obtain ⟨z0, z1, z2, z3, z4, z5, z6, z7⟩ := hSw; go_simp; try with_reducible rfl
  simp only [Act.put, List.setIfInBounds_toArray, List.set_cons_zero, List.set_cons_succ]
  refine late_take (i := 11) (some 32) rfl rfl (by kernel_rfl) (by kernel_rfl) (by kernel_rfl) (by kernel_rfl) (by kernel_rfl) (fun _ _ _ h => h) (by rfl) (v := ?v11h) ?hy11h hS ?rest11h
  case hy11h => intro w0 hSw; obtain ⟨z0, z1, z2, z3, z4, z5, z6, z7⟩ := hSw; go_simp; try with_reducible rfl
  simp only [Act.put, List.setIfInBounds_toArray, List.set_cons_zero, List.set_cons_succ]
  refine late_take (i := 12) (some 33) rfl rfl (by kernel_rfl) (by kernel_rfl) (by kernel_rfl) (by kernel_rfl) (by kernel_rfl) (fun _ _ _ h => h) (by rfl) (v := ?v12h) ?hy12h hS ?rest12h
  case hy12h => intro w0 hSw; obtain ⟨z0, z1, z2, z3, z4, z5, z6, z7⟩ := hSw; go_simp; try with_reducible rfl
  simp only [Act.put, List.setIfInBounds_toArray, List.set_cons_zero, List.set_cons_succ]
  refine late_take (i := 13) (some 34) rfl rfl (by kernel_rfl) (by kernel_rfl) (by kernel_rfl) (by kernel_rfl) (by kernel_rfl) (fun _ _ _ h => h) (by rfl) (v := ?v13h) ?hy13h hS ?rest13h
  case hy13h => intro w0 hSw; obtain ⟨z0, z1, z2, z3, z4, z5, z6, z7⟩ := hSw; go_simp; try with_reducible rfl
  simp only [Act.put, List.setIfInBounds_toArray, List.set_cons_zero, List.set_cons_succ]
  refine late_take (i := 14) (some 35) rfl rfl (by kernel_rfl) (by kernel_rfl) (by kernel_rfl) (by kernel_rfl) (by kernel_rfl) (fun _ _ _ h => h) (by rfl) (v := ?v14h) ?hy14h hS ?rest14h
  case hy14h => intro w0 hSw; obtain ⟨z0, z1, z2, z3, z4, z5, z6, z7⟩ := hSw; go_simp; try with_reducible rfl
  simp only [Act.put, List.setIfInBounds_toArray, List.set_cons_zero, List.set_cons_succ]
  refine late_take (i := 15) (some 36) rfl rfl (by kernel_rfl) (by kernel_rfl) (by kernel_rfl) (by kernel_rfl) (by kernel_rfl) (fun _ _ _ h => h) (by rfl) (v := ?v15h) ?hy15h hS ?rest15h
  case hy15h => intro w0 hSw; obtain ⟨z0, z1, z2, z3, z4, z5, z6, z7⟩ := hSw; go_simp; try with_reducible rfl
  simp only [Act.put, List.setIfInBounds_toArray, List.set_cons_zero, List.set_cons_succ]
  refine late_take (i := 16) (some 37) rfl rfl (by kernel_rfl) (by kernel_rfl) (by kernel_rfl) (by kernel_rfl) (by kernel_rfl) (fun _ _ _ h => h) (by rfl) (v := ?v16h) ?hy16h hS ?rest16h
  case hy16h => intro w0 hSw; obtain ⟨z0, z1, z2, z3, z4, z5, z6, z7⟩ := hSw; go_simp; try with_reducible rfl
  simp only [Act.put, List.setIfInBounds_toArray, List.set_cons_zero, List.set_cons_succ]
  refine late_take (i := 17) (some 38) rfl rfl (by kernel_rfl) (by kernel_rfl) (by kernel_rfl) (by kernel_rfl) (by kernel_rfl) (fun _ _ _ h => h) (by rfl) (v := ?v17h) ?hy17h hS ?rest17h
  case hy17h => intro w0 hSw; obtain ⟨z0, z1, z2, z3, z4, z5, z6, z7⟩ := hSw; go_simp; try with_reducible rfl
  simp only [Act.put, List.setIfInBounds_toArray, List.set_cons_zero, List.set_cons_succ]
  refine late_take (i := 18) (some 39) rfl rfl (by kernel_rfl) (by kernel_rfl) (by kernel_rfl) (by kernel_rfl) (by kernel_rfl) (fun _ _ _ h => h) (by rfl) (v := ?v18h) ?hy18h hS ?rest18h
  case hy18h => intro w0 hSw; obtain ⟨z0, z1, z2, z3, z4, z5, z6, z7⟩ := hSw; go_simp; try with_reducible rfl
  simp only [Act.put, List.setIfInBounds_toArray, List.set_cons_zero, List.set_cons_succ]
  refine late_take (i := 19) (some 40) rfl rfl (by kernel_rfl) (by kernel_rfl) (by kernel_rfl) (by kernel_rfl) (by kernel_rfl) (fun _ _ _ h => h) (by rfl) (v := ?v19h) ?hy19h hS ?rest19h
  case hy19h => intro w0 hSw; obtain ⟨z0, z1, z2, z3, z4, z5, z6, z7⟩ := hSw; go_simp; try with_reducible rfl
  simp only [Act.put, List.setIfInBounds_toArray, List.set_cons_zero, List.set_cons_succ]
  refine late_take (i := 20) (some 41) rfl rfl (by kernel_rfl) (by kernel_rfl) (by kernel_rfl) (by kernel_rfl) (by kernel_rfl) (fun _ _ _ h => h) (by rfl) (v := ?v20h) ?hy20h hS ?rest20h
  case hy20h => intro w0 hSw; obtain ⟨z0, z1, z2, z3, z4, z5, z6, z7⟩ := hSw; go_simp; try with_reducible rfl
  simp only [Act.put, List.setIfInBounds_toArray, List.set_cons_zero, List.set_cons_succ]
  refine late_take (i := 21) (some 42) rfl rfl (by kernel_rfl) (by kernel_rfl) (by kernel_rfl) (by kernel_rfl) (by kernel_rfl) (fun _ _ _ h => h) (by rfl) (v := ?v21h) ?hy21h hS ?rest21h
  case hy21h => intro w0 hSw; obtain ⟨z0, z1, z2, z3, z4, z5, z6, z7⟩ := hSw; go_simp; try with_reducible rfl
  simp only [Act.put, List.setIfInBounds_toArray, List.set_cons_zero, List.set_cons_succ]
  refine late_take (i := 22) (some 43) rfl rfl (by kernel_rfl) (by kernel_rfl) (by kernel_rfl) (by kernel_rfl) (by kernel_rfl) (fun _ _ _ h => h) (by rfl) (v := ?v22h) ?hy22h hS ?rest22h
  case hy22h => intro w0 hSw; obtain ⟨z0, z1, z2, z3, z4, z5, z6, z7⟩ := hSw; go_simp; try with_reducible rfl
  simp only [Act.put, List.setIfInBounds_toArray, List.set_cons_zero, List.set_cons_succ]
  refine late_take (i := 23) (some 44) rfl rfl (by kernel_rfl) (by kernel_rfl) (by kernel_rfl) (by kernel_rfl) (by kernel_rfl) (fun _ _ _ h => h) (by rfl) (v := ?v23h) ?hy23h hS ?rest23h
  case hy23h => intro w0 hSw; obtain ⟨z0, z1, z2, z3, z4, z5, z6, z7⟩ := hSw; go_simp; try with_reducible rfl
  simp only [Act.put, List.setIfInBounds_toArray, List.set_cons_zero, List.set_cons_succ]
  refine wpAnyD_one (i := 24) (by kernel_rfl) rfl (fun K hK => ?_)
  go_simp
  refine hK _ _ ⟨fun _ => ?_, ?_⟩
  · exact (((AtO.cells HA.out HZ.out).below (below_new w1 _)).at)
  clear hK K
  replace hS : AtO (w1.drew.alloc (.cells (ws [s0, s1, s2, s3, s4, s5, s6, s7]) 56)) bh ⟨s0, s1, s2, s3, s4, s5, s6, s7⟩ := ((AtO.cells HA.out HZ.out).below (below_new w1 _)).at
  refine late_take (i := 25) (some 8) rfl rfl (by kernel_rfl) (by kernel_rfl) (by kernel_rfl) (by kernel_rfl) (by kernel_rfl) (fun _ _ _ h => h) (by rfl) (v := ?v25h) ?hy25h hS ?rest25h
  case hy25h => intro w0 hSw; obtain ⟨z0, z1, z2, z3, z4, z5, z6, z7⟩ := hSw; go_simp; try with_reducible rfl
  simp only [Act.put, List.setIfInBounds_toArray, List.set_cons_zero, List.set_cons_succ]
  refine late_done (by kernel_rfl) ?_ _
  refine NoPanic.normal ?_
  go_wp2
  go_loopw [8, 9] (fun v i W => ∃ (t ba : Nat) (s : Oct), t ≤ 64 ∧ v = .slice (some ⟨ba, 0, none⟩) 8 8 ∧ i = .int .i64 t ∧ Hid (rnds kTab (sched blk) (octOf st) t = s) ∧ Hid (BlkP w W bh bk bw ba st (sched blk) s.list)) (fun _ i _ => 64 - (intOf i).toNat)
  case atStart =>
    refine ⟨0, _, ⟨s0, s1, s2, s3, s4, s5, s6, s7⟩, Nat.zero_le _, rfl, rfl, HS, ?_⟩
    have hb := (Below.refl w1.heap.size w1).drew.alloc (Nat.le_refl _) (.cells (ws [s0, s1, s2, s3, s4, s5, s6, s7]) 56)
    exact ⟨HM1.out.below.trans (hb.mono HM1.out.below.size), HW1.out.1.below hb, HW1.out.2.1.below hb, HW1.out.2.2.below hb, new_words w1.drew [s0, s1, s2, s3, s4, s5, s6, s7]⟩
  case round =>
    clear HM1 HW1 HA HZ HS
    obtain ⟨t, ba, s, ht, rfl, rfl, HR, HP⟩ := hrel
    obtain ⟨a, b', c, d, e, f, g, h⟩ := s
    obtain ⟨V, hV⟩ : ∃ V, V = wr := ⟨_, rfl⟩
    rw [← hV] at HP ⊢
    clear hV
    by_cases hlt : t < 64
    · have hlt' : (t : Int) < 64 := by omega
      obtain ⟨x, HX⟩ : ∃ x, Hid (kTab[t]?.getD 0 = x) := ⟨_, hid rfl⟩
      obtain ⟨y, HY⟩ : ∃ x, Hid ((sched blk)[t]?.getD 0 = x) := ⟨_, hid rfl⟩
      have HD : Hid (RdP V ba ⟨a, b', c, d, e, f, g, h⟩ bk bw t x y) := HP.out.rd hlt (sched_len _) HX.out HY.out
      have e4 : V.cell? ⟨ba, 4, none⟩ = some (.int .u32 e) := HD.out.1.2.2.2.2.1
      go_upto_region 8 with (first
        | (go_at_call 54; (with_reducible refine (rotr_lit e 6 6 rfl (by decide) (by decide) _).mono ?_); rintro e' w' ⟨rfl, hw'⟩; have hw2 := hw'.symm; subst hw2)
        | (go_at_call 54; (with_reducible refine (rotr_lit e 11 11 rfl (by decide) (by decide) _).mono ?_); rintro e' w' ⟨rfl, hw'⟩; have hw2 := hw'.symm; subst hw2)
        | (go_at_call 54; (with_reducible refine (rotr_lit e 25 25 rfl (by decide) (by decide) _).mono ?_); rintro e' w' ⟨rfl, hw'⟩; have hw2 := hw'.symm; subst hw2))
      clear e4
      refine wp_region_noPanic ?_
      refine any_begin 13 (by kernel_rfl) (by kernel_rfl) ?_
      refine late_begin (fun U => RdP U ba ⟨a, b', c, d, e, f, g, h⟩ bk bw t x y) (fun _ => false) HD.out (fun hS => ?_)
      refine late_take (i := 0) (some 61) rfl rfl (by kernel_rfl) (by kernel_rfl) (by kernel_rfl) (by kernel_rfl) (by kernel_rfl) (fun _ _ _ h => h) (by rfl) (v := ?v0r) ?hy0r hS ?rest0r
      case hy0r => intro w0 hSw; obtain ⟨⟨z0, z1, z2, z3, z4, z5, z6, z7⟩, zk, zw⟩ := hSw; go_simp; try with_reducible rfl
      simp only [Act.put, List.setIfInBounds_toArray, List.set_cons_zero, List.set_cons_succ]
      refine late_take (i := 1) (some 62) rfl rfl (by kernel_rfl) (by kernel_rfl) (by kernel_rfl) (by kernel_rfl) (by kernel_rfl) (fun _ _ _ h => h) (by rfl) (v := ?v1r) ?hy1r hS ?rest1r
      case hy1r => intro w0 hSw; obtain ⟨⟨z0, z1, z2, z3, z4, z5, z6, z7⟩, zk, zw⟩ := hSw; go_simp; try with_reducible rfl
      simp only [Act.put, List.setIfInBounds_toArray, List.set_cons_zero, List.set_cons_succ]
      refine late_take (i := 2) (some 63) rfl rfl (by kernel_rfl) (by kernel_rfl) (by kernel_rfl) (by kernel_rfl) (by kernel_rfl) (fun _ _ _ h => h) (by rfl) (v := ?v2r) ?hy2r hS ?rest2r
      case hy2r => intro w0 hSw; obtain ⟨⟨z0, z1, z2, z3, z4, z5, z6, z7⟩, zk, zw⟩ := hSw; go_simp; try with_reducible rfl
      simp only [Act.put, List.setIfInBounds_toArray, List.set_cons_zero, List.set_cons_succ]
      refine late_take (i := 3) (some 64) rfl rfl (by kernel_rfl) (by kernel_rfl) (by kernel_rfl) (by kernel_rfl) (by kernel_rfl) (fun _ _ _ h => h) (by rfl) (v := ?v3r) ?hy3r hS ?rest3r
      case hy3r => intro w0 hSw; obtain ⟨⟨z0, z1, z2, z3, z4, z5, z6, z7⟩, zk, zw⟩ := hSw; go_simp; try with_reducible rfl
      simp only [Act.put, List.setIfInBounds_toArray, List.set_cons_zero, List.set_cons_succ]
      refine late_take (i := 4) (some 65) rfl rfl (by kernel_rfl) (by kernel_rfl) (by kernel_rfl) (by kernel_rfl) (by kernel_rfl) (fun _ _ _ h => h) (by rfl) (v := ?v4r) ?hy4r hS ?rest4r
      case hy4r => intro w0 hSw; obtain ⟨⟨z0, z1, z2, z3, z4, z5, z6, z7⟩, zk, zw⟩ := hSw; go_simp; try with_reducible rfl
      simp only [Act.put, List.setIfInBounds_toArray, List.set_cons_zero, List.set_cons_succ]
      refine late_take (i := 5) (some 66) rfl rfl (by kernel_rfl) (by kernel_rfl) (by kernel_rfl) (by kernel_rfl) (by kernel_rfl) (fun _ _ _ h => h) (by rfl) (v := ?v5r) ?hy5r hS ?rest5r
      case hy5r => intro w0 hSw; obtain ⟨⟨z0, z1, z2, z3, z4, z5, z6, z7⟩, zk, zw⟩ := hSw; go_simp; try with_reducible rfl
      simp only [Act.put, List.setIfInBounds_toArray, List.set_cons_zero, List.set_cons_succ]
      refine late_take (i := 6) (some 67) rfl rfl (by kernel_rfl) (by kernel_rfl) (by kernel_rfl) (by kernel_rfl) (by kernel_rfl) (fun _ _ _ h => h) (by rfl) (v := .int .u32 (not32 e)) ?hy6r hS ?rest6r
      case hy6r => intro w0 hSw; obtain ⟨⟨z0, z1, z2, z3, z4, z5, z6, z7⟩, zk, zw⟩ := hSw; go_simp; rfl
      simp only [Act.put, List.setIfInBounds_toArray, List.set_cons_zero, List.set_cons_succ]
      refine late_take (i := 7) (some 68) rfl rfl (by kernel_rfl) (by kernel_rfl) (by kernel_rfl) (by kernel_rfl) (by kernel_rfl) (fun _ _ _ h => h) (by rfl) (v := ?v7r) ?hy7r hS ?rest7r
      case hy7r => intro w0 hSw; obtain ⟨⟨z0, z1, z2, z3, z4, z5, z6, z7⟩, zk, zw⟩ := hSw; go_simp; try with_reducible rfl
      simp only [Act.put, List.setIfInBounds_toArray, List.set_cons_zero, List.set_cons_succ]
      refine late_take (i := 8) (some 69) rfl rfl (by kernel_rfl) (by kernel_rfl) (by kernel_rfl) (by kernel_rfl) (by kernel_rfl) (fun _ _ _ h => h) (by rfl) (v := ?v8r) ?hy8r hS ?rest8r
      case hy8r => intro w0 hSw; obtain ⟨⟨z0, z1, z2, z3, z4, z5, z6, z7⟩, zk, zw⟩ := hSw; go_simp; try with_reducible rfl
      simp only [Act.put, List.setIfInBounds_toArray, List.set_cons_zero, List.set_cons_succ]
      refine late_take (i := 9) (some 70) rfl rfl (by kernel_rfl) (by kernel_rfl) (by kernel_rfl) (by kernel_rfl) (by kernel_rfl) (fun _ _ _ h => h) (by rfl) (v := ?v9r) ?hy9r hS ?rest9r
      case hy9r => intro w0 hSw; obtain ⟨⟨z0, z1, z2, z3, z4, z5, z6, z7⟩, zk, zw⟩ := hSw; go_simp; try with_reducible rfl
      simp only [Act.put, List.setIfInBounds_toArray, List.set_cons_zero, List.set_cons_succ]
      refine late_take (i := 10) (some 71) rfl rfl (by kernel_rfl) (by kernel_rfl) (by kernel_rfl) (by kernel_rfl) (by kernel_rfl) (fun _ _ _ h => h) (by rfl) (v := .int .u32 (and32 (not32 e) g)) ?hy10r hS ?rest10r
      case hy10r => intro w0 hSw; obtain ⟨⟨z0, z1, z2, z3, z4, z5, z6, z7⟩, zk, zw⟩ := hSw; go_simp; rfl
      simp only [Act.put, List.setIfInBounds_toArray, List.set_cons_zero, List.set_cons_succ]
      refine late_take (i := 11) (some 72) rfl rfl (by kernel_rfl) (by kernel_rfl) (by kernel_rfl) (by kernel_rfl) (by kernel_rfl) (fun _ _ _ h => h) (by rfl) (v := .int .u32 (chW e f g)) ?hy11r hS ?rest11r
      case hy11r => intro w0 hSw; obtain ⟨⟨z0, z1, z2, z3, z4, z5, z6, z7⟩, zk, zw⟩ := hSw; go_simp; rfl
      simp only [Act.put, List.setIfInBounds_toArray, List.set_cons_zero, List.set_cons_succ]
      refine late_take (i := 12) (some 12) rfl rfl (by kernel_rfl) (by kernel_rfl) (by kernel_rfl) (by kernel_rfl) (by kernel_rfl) (fun _ _ _ h => h) (by rfl) (v := ?v12r) ?hy12r hS ?rest12r
      case hy12r => intro w0 hSw; obtain ⟨⟨z0, z1, z2, z3, z4, z5, z6, z7⟩, zk, zw⟩ := hSw; go_simp; try with_reducible rfl
      simp only [Act.put, List.setIfInBounds_toArray, List.set_cons_zero, List.set_cons_succ]
      refine late_done (by kernel_rfl) ?_ _
      refine NoPanic.normal ?_
      go_wp2_with fail
      refine wp_region_noPanic ?_
      refine any_begin 18 (by kernel_rfl) (by kernel_rfl) ?_
      refine late_begin (fun U => RdP U ba ⟨a, b', c, d, e, f, g, h⟩ bk bw t x y) (fun _ => false) HD.out (fun hS => ?_)
      refine late_take (i := 0) (some 73) rfl rfl (by kernel_rfl) (by kernel_rfl) (by kernel_rfl) (by kernel_rfl) (by kernel_rfl) (fun _ _ _ h => h) (by rfl) (v := ?v0s) ?hy0s hS ?rest0s
      case hy0s => intro w0 hSw; obtain ⟨⟨z0, z1, z2, z3, z4, z5, z6, z7⟩, zk, zw⟩ := hSw; go_simp; try with_reducible rfl
      simp only [Act.put, List.setIfInBounds_toArray, List.set_cons_zero, List.set_cons_succ]
      refine late_take (i := 1) (some 74) rfl rfl (by kernel_rfl) (by kernel_rfl) (by kernel_rfl) (by kernel_rfl) (by kernel_rfl) (fun _ _ _ h => h) (by rfl) (v := ?v1s) ?hy1s hS ?rest1s
      case hy1s => intro w0 hSw; obtain ⟨⟨z0, z1, z2, z3, z4, z5, z6, z7⟩, zk, zw⟩ := hSw; go_simp; try with_reducible rfl
      simp only [Act.put, List.setIfInBounds_toArray, List.set_cons_zero, List.set_cons_succ]
      refine late_take (i := 2) (some 75) rfl rfl (by kernel_rfl) (by kernel_rfl) (by kernel_rfl) (by kernel_rfl) (by kernel_rfl) (fun _ _ _ h => h) (by rfl) (v := ?v2s) ?hy2s hS ?rest2s
      case hy2s => intro w0 hSw; obtain ⟨⟨z0, z1, z2, z3, z4, z5, z6, z7⟩, zk, zw⟩ := hSw; go_simp; try with_reducible rfl
      simp only [Act.put, List.setIfInBounds_toArray, List.set_cons_zero, List.set_cons_succ]
      refine late_take (i := 3) (some 76) rfl rfl (by kernel_rfl) (by kernel_rfl) (by kernel_rfl) (by kernel_rfl) (by kernel_rfl) (fun _ _ _ h => h) (by rfl) (v := ?v3s) ?hy3s hS ?rest3s
      case hy3s => intro w0 hSw; obtain ⟨⟨z0, z1, z2, z3, z4, z5, z6, z7⟩, zk, zw⟩ := hSw; go_simp; try with_reducible rfl
      simp only [Act.put, List.setIfInBounds_toArray, List.set_cons_zero, List.set_cons_succ]
      refine late_take (i := 4) (some 77) rfl rfl (by kernel_rfl) (by kernel_rfl) (by kernel_rfl) (by kernel_rfl) (by kernel_rfl) (fun _ _ _ h => h) (by rfl) (v := .int .u32 (add32 h (bs1 e))) ?hy4s hS ?rest4s
      case hy4s => intro w0 hSw; obtain ⟨⟨z0, z1, z2, z3, z4, z5, z6, z7⟩, zk, zw⟩ := hSw; go_simp; rfl
      simp only [Act.put, List.setIfInBounds_toArray, List.set_cons_zero, List.set_cons_succ]
      refine late_take (i := 5) (some 78) rfl rfl (by kernel_rfl) (by kernel_rfl) (by kernel_rfl) (by kernel_rfl) (by kernel_rfl) (fun _ _ _ h => h) (by rfl) (v := ?v5s) ?hy5s hS ?rest5s
      case hy5s => intro w0 hSw; obtain ⟨⟨z0, z1, z2, z3, z4, z5, z6, z7⟩, zk, zw⟩ := hSw; go_simp; try with_reducible rfl
      simp only [Act.put, List.setIfInBounds_toArray, List.set_cons_zero, List.set_cons_succ]
      refine late_take (i := 6) (some 79) rfl rfl (by kernel_rfl) (by kernel_rfl) (by kernel_rfl) (by kernel_rfl) (by kernel_rfl) (fun _ _ _ h => h) (by rfl) (v := .int .u32 (add32 (add32 h (bs1 e)) (chW e f g))) ?hy6s hS ?rest6s
      case hy6s => intro w0 hSw; obtain ⟨⟨z0, z1, z2, z3, z4, z5, z6, z7⟩, zk, zw⟩ := hSw; go_simp; rfl
      simp only [Act.put, List.setIfInBounds_toArray, List.set_cons_zero, List.set_cons_succ]
      refine late_take (i := 7) (some 80) rfl rfl (by kernel_rfl) (by kernel_rfl) (by kernel_rfl) (by kernel_rfl) (by kernel_rfl) (fun _ _ _ h => h) (by rfl) (v := ?v7s) ?hy7s hS ?rest7s
      case hy7s => intro w0 hSw; obtain ⟨⟨z0, z1, z2, z3, z4, z5, z6, z7⟩, zk, zw⟩ := hSw; go_simp; try with_reducible rfl
      simp only [Act.put, List.setIfInBounds_toArray, List.set_cons_zero, List.set_cons_succ]
      refine late_take (i := 8) (some 81) rfl rfl (by kernel_rfl) (by kernel_rfl) (by kernel_rfl) (by kernel_rfl) (by kernel_rfl) (fun _ _ _ h => h) (by rfl) (v := ?v8s) ?hy8s hS ?rest8s
      case hy8s => intro w0 hSw; obtain ⟨⟨z0, z1, z2, z3, z4, z5, z6, z7⟩, zk, zw⟩ := hSw; go_simp; try with_reducible rfl
      simp only [Act.put, List.setIfInBounds_toArray, List.set_cons_zero, List.set_cons_succ]
      refine late_take (i := 9) (some 82) rfl rfl (by kernel_rfl) (by kernel_rfl) (by kernel_rfl) (by kernel_rfl) (by kernel_rfl) (fun _ _ _ h => h) (by rfl) (v := ?v9s) ?hy9s hS ?rest9s
      case hy9s => intro w0 hSw; obtain ⟨⟨z0, z1, z2, z3, z4, z5, z6, z7⟩, zk, zw⟩ := hSw; go_simp; try with_reducible rfl
      simp only [Act.put, List.setIfInBounds_toArray, List.set_cons_zero, List.set_cons_succ]
      refine late_take (i := 10) (some 83) rfl rfl (by kernel_rfl) (by kernel_rfl) (by kernel_rfl) (by kernel_rfl) (by kernel_rfl) (fun _ _ _ h => h) (by rfl) (v := ?v10s) ?hy10s hS ?rest10s
      case hy10s => intro w0 hSw; obtain ⟨⟨z0, z1, z2, z3, z4, z5, z6, z7⟩, zk, zw⟩ := hSw; go_simp; try with_reducible rfl
      simp only [Act.put, List.setIfInBounds_toArray, List.set_cons_zero, List.set_cons_succ]
      refine late_take (i := 11) (some 84) rfl rfl (by kernel_rfl) (by kernel_rfl) (by kernel_rfl) (by kernel_rfl) (by kernel_rfl) (fun _ _ _ h => h) (by rfl) (v := .int .u32 (add32 (add32 (add32 h (bs1 e)) (chW e f g)) x)) ?hy11s hS ?rest11s
      case hy11s => intro w0 hSw; obtain ⟨⟨z0, z1, z2, z3, z4, z5, z6, z7⟩, zk, zw⟩ := hSw; go_simp; rfl
      simp only [Act.put, List.setIfInBounds_toArray, List.set_cons_zero, List.set_cons_succ]
      refine late_take (i := 12) (some 85) rfl rfl (by kernel_rfl) (by kernel_rfl) (by kernel_rfl) (by kernel_rfl) (by kernel_rfl) (fun _ _ _ h => h) (by rfl) (v := ?v12s) ?hy12s hS ?rest12s
      case hy12s => intro w0 hSw; obtain ⟨⟨z0, z1, z2, z3, z4, z5, z6, z7⟩, zk, zw⟩ := hSw; go_simp; try with_reducible rfl
      simp only [Act.put, List.setIfInBounds_toArray, List.set_cons_zero, List.set_cons_succ]
      refine late_take (i := 13) (some 86) rfl rfl (by kernel_rfl) (by kernel_rfl) (by kernel_rfl) (by kernel_rfl) (by kernel_rfl) (fun _ _ _ h => h) (by rfl) (v := ?v13s) ?hy13s hS ?rest13s
      case hy13s => intro w0 hSw; obtain ⟨⟨z0, z1, z2, z3, z4, z5, z6, z7⟩, zk, zw⟩ := hSw; go_simp; try with_reducible rfl
      simp only [Act.put, List.setIfInBounds_toArray, List.set_cons_zero, List.set_cons_succ]
      refine late_take (i := 14) (some 87) rfl rfl (by kernel_rfl) (by kernel_rfl) (by kernel_rfl) (by kernel_rfl) (by kernel_rfl) (fun _ _ _ h => h) (by rfl) (v := ?v14s) ?hy14s hS ?rest14s
      case hy14s => intro w0 hSw; obtain ⟨⟨z0, z1, z2, z3, z4, z5, z6, z7⟩, zk, zw⟩ := hSw; go_simp; try with_reducible rfl
      simp only [Act.put, List.setIfInBounds_toArray, List.set_cons_zero, List.set_cons_succ]
      refine late_take (i := 15) (some 88) rfl rfl (by kernel_rfl) (by kernel_rfl) (by kernel_rfl) (by kernel_rfl) (by kernel_rfl) (fun _ _ _ h => h) (by rfl) (v := ?v15s) ?hy15s hS ?rest15s
      case hy15s => intro w0 hSw; obtain ⟨⟨z0, z1, z2, z3, z4, z5, z6, z7⟩, zk, zw⟩ := hSw; go_simp; try with_reducible rfl
      simp only [Act.put, List.setIfInBounds_toArray, List.set_cons_zero, List.set_cons_succ]
      refine late_take (i := 16) (some 89) rfl rfl (by kernel_rfl) (by kernel_rfl) (by kernel_rfl) (by kernel_rfl) (by kernel_rfl) (fun _ _ _ h => h) (by rfl) (v := .int .u32 (rndT ⟨a, b', c, d, e, f, g, h⟩ x y)) ?hy16s hS ?rest16s
      case hy16s => intro w0 hSw; obtain ⟨⟨z0, z1, z2, z3, z4, z5, z6, z7⟩, zk, zw⟩ := hSw; go_simp; rfl
      simp only [Act.put, List.setIfInBounds_toArray, List.set_cons_zero, List.set_cons_succ]
      refine late_take (i := 17) (some 13) rfl rfl (by kernel_rfl) (by kernel_rfl) (by kernel_rfl) (by kernel_rfl) (by kernel_rfl) (fun _ _ _ h => h) (by rfl) (v := ?v17s) ?hy17s hS ?rest17s
      case hy17s => intro w0 hSw; obtain ⟨⟨z0, z1, z2, z3, z4, z5, z6, z7⟩, zk, zw⟩ := hSw; go_simp; try with_reducible rfl
      simp only [Act.put, List.setIfInBounds_toArray, List.set_cons_zero, List.set_cons_succ]
      refine late_done (by kernel_rfl) ?_ _
      refine NoPanic.normal ?_
      go_wp2_with fail
      refine wp_region_noPanic ?_
      refine any_begin 15 (by kernel_rfl) (by kernel_rfl) ?_
      refine late_begin (fun U => RdP U ba ⟨a, b', c, d, e, f, g, h⟩ bk bw t x y) (fun _ => false) HD.out (fun hS => ?_)
      refine late_take (i := 0) (some 90) rfl rfl (by kernel_rfl) (by kernel_rfl) (by kernel_rfl) (by kernel_rfl) (by kernel_rfl) (fun _ _ _ h => h) (by rfl) (v := ?v0u) ?hy0u hS ?rest0u
      case hy0u => intro w0 hSw; obtain ⟨⟨z0, z1, z2, z3, z4, z5, z6, z7⟩, zk, zw⟩ := hSw; go_simp; try with_reducible rfl
      simp only [Act.put, List.setIfInBounds_toArray, List.set_cons_zero, List.set_cons_succ]
      refine late_take (i := 1) (some 91) rfl rfl (by kernel_rfl) (by kernel_rfl) (by kernel_rfl) (by kernel_rfl) (by kernel_rfl) (fun _ _ _ h => h) (by rfl) (v := ?v1u) ?hy1u hS ?rest1u
      case hy1u => intro w0 hSw; obtain ⟨⟨z0, z1, z2, z3, z4, z5, z6, z7⟩, zk, zw⟩ := hSw; go_simp; try with_reducible rfl
      simp only [Act.put, List.setIfInBounds_toArray, List.set_cons_zero, List.set_cons_succ]
      refine late_take (i := 2) (some 92) rfl rfl (by kernel_rfl) (by kernel_rfl) (by kernel_rfl) (by kernel_rfl) (by kernel_rfl) (fun _ _ _ h => h) (by rfl) (v := ?v2u) ?hy2u hS ?rest2u
      case hy2u => intro w0 hSw; obtain ⟨⟨z0, z1, z2, z3, z4, z5, z6, z7⟩, zk, zw⟩ := hSw; go_simp; try with_reducible rfl
      simp only [Act.put, List.setIfInBounds_toArray, List.set_cons_zero, List.set_cons_succ]
      refine late_take (i := 4) (some 94) rfl rfl (by kernel_rfl) (by kernel_rfl) (by kernel_rfl) (by kernel_rfl) (by kernel_rfl) (fun _ _ _ h => h) (by rfl) (v := ?v4u) ?hy4u hS ?rest4u
      case hy4u => intro w0 hSw; obtain ⟨⟨z0, z1, z2, z3, z4, z5, z6, z7⟩, zk, zw⟩ := hSw; go_simp; try with_reducible rfl
      simp only [Act.put, List.setIfInBounds_toArray, List.set_cons_zero, List.set_cons_succ]
      refine late_take (i := 5) (some 95) rfl rfl (by kernel_rfl) (by kernel_rfl) (by kernel_rfl) (by kernel_rfl) (by kernel_rfl) (fun _ _ _ h => h) (by rfl) (v := ?v5u) ?hy5u hS ?rest5u
      case hy5u => intro w0 hSw; obtain ⟨⟨z0, z1, z2, z3, z4, z5, z6, z7⟩, zk, zw⟩ := hSw; go_simp; try with_reducible rfl
      simp only [Act.put, List.setIfInBounds_toArray, List.set_cons_zero, List.set_cons_succ]
      refine late_take (i := 6) (some 96) rfl rfl (by kernel_rfl) (by kernel_rfl) (by kernel_rfl) (by kernel_rfl) (by kernel_rfl) (fun _ _ _ h => h) (by rfl) (v := ?v6u) ?hy6u hS ?rest6u
      case hy6u => intro w0 hSw; obtain ⟨⟨z0, z1, z2, z3, z4, z5, z6, z7⟩, zk, zw⟩ := hSw; go_simp; try with_reducible rfl
      simp only [Act.put, List.setIfInBounds_toArray, List.set_cons_zero, List.set_cons_succ]
      refine late_take (i := 9) (some 99) rfl rfl (by kernel_rfl) (by kernel_rfl) (by kernel_rfl) (by kernel_rfl) (by kernel_rfl) (fun _ _ _ h => h) (by rfl) (v := ?v9u) ?hy9u hS ?rest9u
      case hy9u => intro w0 hSw; obtain ⟨⟨z0, z1, z2, z3, z4, z5, z6, z7⟩, zk, zw⟩ := hSw; go_simp; try with_reducible rfl
      simp only [Act.put, List.setIfInBounds_toArray, List.set_cons_zero, List.set_cons_succ]
      refine late_take (i := 10) (some 100) rfl rfl (by kernel_rfl) (by kernel_rfl) (by kernel_rfl) (by kernel_rfl) (by kernel_rfl) (fun _ _ _ h => h) (by rfl) (v := ?v10u) ?hy10u hS ?rest10u
      case hy10u => intro w0 hSw; obtain ⟨⟨z0, z1, z2, z3, z4, z5, z6, z7⟩, zk, zw⟩ := hSw; go_simp; try with_reducible rfl
      simp only [Act.put, List.setIfInBounds_toArray, List.set_cons_zero, List.set_cons_succ]
      refine late_take (i := 11) (some 101) rfl rfl (by kernel_rfl) (by kernel_rfl) (by kernel_rfl) (by kernel_rfl) (by kernel_rfl) (fun _ _ _ h => h) (by rfl) (v := ?v11u) ?hy11u hS ?rest11u
      case hy11u => intro w0 hSw; obtain ⟨⟨z0, z1, z2, z3, z4, z5, z6, z7⟩, zk, zw⟩ := hSw; go_simp; try with_reducible rfl
      simp only [Act.put, List.setIfInBounds_toArray, List.set_cons_zero, List.set_cons_succ]
      refine wpAnyD_one (i := 3) (by kernel_rfl) rfl (fun K hK => ?_)
      go_simp
      go_at_call 54
      refine (rotr_lit a 2 2 rfl (by decide) (by decide) _).mono ?_
      rintro e' w' ⟨rfl, rfl⟩
      refine hK _ _ ⟨fun _ => hS, ?_⟩
      clear hK K
      refine wpAnyD_one (i := 7) (by kernel_rfl) rfl (fun K hK => ?_)
      go_simp
      go_at_call 54
      refine (rotr_lit a 13 13 rfl (by decide) (by decide) _).mono ?_
      rintro e' w' ⟨rfl, rfl⟩
      refine hK _ _ ⟨fun _ => hS, ?_⟩
      clear hK K
      refine late_take (i := 8) (some 98) rfl rfl (by kernel_rfl) (by kernel_rfl) (by kernel_rfl) (by kernel_rfl) (by kernel_rfl) (fun _ _ _ h => h) (by rfl) (v := .int .u32 (xor32 (turn a 2) (turn a 13))) ?hy8u hS ?rest8u
      case hy8u => intro w0 hSw; obtain ⟨⟨z0, z1, z2, z3, z4, z5, z6, z7⟩, zk, zw⟩ := hSw; go_simp; rfl
      simp only [Act.put, List.setIfInBounds_toArray, List.set_cons_zero, List.set_cons_succ]
      refine wpAnyD_one (i := 12) (by kernel_rfl) rfl (fun K hK => ?_)
      go_simp
      go_at_call 54
      refine (rotr_lit a 22 22 rfl (by decide) (by decide) _).mono ?_
      rintro e' w' ⟨rfl, rfl⟩
      refine hK _ _ ⟨fun _ => hS, ?_⟩
      clear hK K
      refine late_take (i := 13) (some 103) rfl rfl (by kernel_rfl) (by kernel_rfl) (by kernel_rfl) (by kernel_rfl) (by kernel_rfl) (fun _ _ _ h => h) (by rfl) (v := .int .u32 (bs0 a)) ?hy13u hS ?rest13u
      case hy13u => intro w0 hSw; obtain ⟨⟨z0, z1, z2, z3, z4, z5, z6, z7⟩, zk, zw⟩ := hSw; go_simp; rfl
      simp only [Act.put, List.setIfInBounds_toArray, List.set_cons_zero, List.set_cons_succ]
      refine late_take (i := 14) (some 14) rfl rfl (by kernel_rfl) (by kernel_rfl) (by kernel_rfl) (by kernel_rfl) (by kernel_rfl) (fun _ _ _ h => h) (by rfl) (v := ?v14u) ?hy14u hS ?rest14u
      case hy14u => intro w0 hSw; obtain ⟨⟨z0, z1, z2, z3, z4, z5, z6, z7⟩, zk, zw⟩ := hSw; go_simp; try with_reducible rfl
      simp only [Act.put, List.setIfInBounds_toArray, List.set_cons_zero, List.set_cons_succ]
      refine late_done (by kernel_rfl) ?_ _
      refine NoPanic.normal ?_
      go_wp2_with fail
      refine wp_region_noPanic ?_
      refine any_begin 24 (by kernel_rfl) (by kernel_rfl) ?_
      refine late_begin (fun U => RdP U ba ⟨a, b', c, d, e, f, g, h⟩ bk bw t x y) (fun _ => false) HD.out (fun hS => ?_)
      refine late_take (i := 0) (some 104) rfl rfl (by kernel_rfl) (by kernel_rfl) (by kernel_rfl) (by kernel_rfl) (by kernel_rfl) (fun _ _ _ h => h) (by rfl) (v := ?v0m) ?hy0m hS ?rest0m
      case hy0m => intro w0 hSw; obtain ⟨⟨z0, z1, z2, z3, z4, z5, z6, z7⟩, zk, zw⟩ := hSw; go_simp; try with_reducible rfl
      simp only [Act.put, List.setIfInBounds_toArray, List.set_cons_zero, List.set_cons_succ]
      refine late_take (i := 1) (some 105) rfl rfl (by kernel_rfl) (by kernel_rfl) (by kernel_rfl) (by kernel_rfl) (by kernel_rfl) (fun _ _ _ h => h) (by rfl) (v := ?v1m) ?hy1m hS ?rest1m
      case hy1m => intro w0 hSw; obtain ⟨⟨z0, z1, z2, z3, z4, z5, z6, z7⟩, zk, zw⟩ := hSw; go_simp; try with_reducible rfl
      simp only [Act.put, List.setIfInBounds_toArray, List.set_cons_zero, List.set_cons_succ]
      refine late_take (i := 2) (some 106) rfl rfl (by kernel_rfl) (by kernel_rfl) (by kernel_rfl) (by kernel_rfl) (by kernel_rfl) (fun _ _ _ h => h) (by rfl) (v := ?v2m) ?hy2m hS ?rest2m
      case hy2m => intro w0 hSw; obtain ⟨⟨z0, z1, z2, z3, z4, z5, z6, z7⟩, zk, zw⟩ := hSw; go_simp; try with_reducible rfl
      simp only [Act.put, List.setIfInBounds_toArray, List.set_cons_zero, List.set_cons_succ]
      refine late_take (i := 3) (some 107) rfl rfl (by kernel_rfl) (by kernel_rfl) (by kernel_rfl) (by kernel_rfl) (by kernel_rfl) (fun _ _ _ h => h) (by rfl) (v := ?v3m) ?hy3m hS ?rest3m
      case hy3m => intro w0 hSw; obtain ⟨⟨z0, z1, z2, z3, z4, z5, z6, z7⟩, zk, zw⟩ := hSw; go_simp; try with_reducible rfl
      simp only [Act.put, List.setIfInBounds_toArray, List.set_cons_zero, List.set_cons_succ]
      refine late_take (i := 4) (some 108) rfl rfl (by kernel_rfl) (by kernel_rfl) (by kernel_rfl) (by kernel_rfl) (by kernel_rfl) (fun _ _ _ h => h) (by rfl) (v := ?v4m) ?hy4m hS ?rest4m
      case hy4m => intro w0 hSw; obtain ⟨⟨z0, z1, z2, z3, z4, z5, z6, z7⟩, zk, zw⟩ := hSw; go_simp; try with_reducible rfl
      simp only [Act.put, List.setIfInBounds_toArray, List.set_cons_zero, List.set_cons_succ]
      refine late_take (i := 5) (some 109) rfl rfl (by kernel_rfl) (by kernel_rfl) (by kernel_rfl) (by kernel_rfl) (by kernel_rfl) (fun _ _ _ h => h) (by rfl) (v := ?v5m) ?hy5m hS ?rest5m
      case hy5m => intro w0 hSw; obtain ⟨⟨z0, z1, z2, z3, z4, z5, z6, z7⟩, zk, zw⟩ := hSw; go_simp; try with_reducible rfl
      simp only [Act.put, List.setIfInBounds_toArray, List.set_cons_zero, List.set_cons_succ]
      refine late_take (i := 6) (some 110) rfl rfl (by kernel_rfl) (by kernel_rfl) (by kernel_rfl) (by kernel_rfl) (by kernel_rfl) (fun _ _ _ h => h) (by rfl) (v := .int .u32 (and32 a b')) ?hy6m hS ?rest6m
      case hy6m => intro w0 hSw; obtain ⟨⟨z0, z1, z2, z3, z4, z5, z6, z7⟩, zk, zw⟩ := hSw; go_simp; rfl
      simp only [Act.put, List.setIfInBounds_toArray, List.set_cons_zero, List.set_cons_succ]
      refine late_take (i := 7) (some 111) rfl rfl (by kernel_rfl) (by kernel_rfl) (by kernel_rfl) (by kernel_rfl) (by kernel_rfl) (fun _ _ _ h => h) (by rfl) (v := ?v7m) ?hy7m hS ?rest7m
      case hy7m => intro w0 hSw; obtain ⟨⟨z0, z1, z2, z3, z4, z5, z6, z7⟩, zk, zw⟩ := hSw; go_simp; try with_reducible rfl
      simp only [Act.put, List.setIfInBounds_toArray, List.set_cons_zero, List.set_cons_succ]
      refine late_take (i := 8) (some 112) rfl rfl (by kernel_rfl) (by kernel_rfl) (by kernel_rfl) (by kernel_rfl) (by kernel_rfl) (fun _ _ _ h => h) (by rfl) (v := ?v8m) ?hy8m hS ?rest8m
      case hy8m => intro w0 hSw; obtain ⟨⟨z0, z1, z2, z3, z4, z5, z6, z7⟩, zk, zw⟩ := hSw; go_simp; try with_reducible rfl
      simp only [Act.put, List.setIfInBounds_toArray, List.set_cons_zero, List.set_cons_succ]
      refine late_take (i := 9) (some 113) rfl rfl (by kernel_rfl) (by kernel_rfl) (by kernel_rfl) (by kernel_rfl) (by kernel_rfl) (fun _ _ _ h => h) (by rfl) (v := ?v9m) ?hy9m hS ?rest9m
      case hy9m => intro w0 hSw; obtain ⟨⟨z0, z1, z2, z3, z4, z5, z6, z7⟩, zk, zw⟩ := hSw; go_simp; try with_reducible rfl
      simp only [Act.put, List.setIfInBounds_toArray, List.set_cons_zero, List.set_cons_succ]
      refine late_take (i := 10) (some 114) rfl rfl (by kernel_rfl) (by kernel_rfl) (by kernel_rfl) (by kernel_rfl) (by kernel_rfl) (fun _ _ _ h => h) (by rfl) (v := ?v10m) ?hy10m hS ?rest10m
      case hy10m => intro w0 hSw; obtain ⟨⟨z0, z1, z2, z3, z4, z5, z6, z7⟩, zk, zw⟩ := hSw; go_simp; try with_reducible rfl
      simp only [Act.put, List.setIfInBounds_toArray, List.set_cons_zero, List.set_cons_succ]
      refine late_take (i := 11) (some 115) rfl rfl (by kernel_rfl) (by kernel_rfl) (by kernel_rfl) (by kernel_rfl) (by kernel_rfl) (fun _ _ _ h => h) (by rfl) (v := ?v11m) ?hy11m hS ?rest11m
      case hy11m => intro w0 hSw; obtain ⟨⟨z0, z1, z2, z3, z4, z5, z6, z7⟩, zk, zw⟩ := hSw; go_simp; try with_reducible rfl
      simp only [Act.put, List.setIfInBounds_toArray, List.set_cons_zero, List.set_cons_succ]
      refine late_take (i := 12) (some 116) rfl rfl (by kernel_rfl) (by kernel_rfl) (by kernel_rfl) (by kernel_rfl) (by kernel_rfl) (fun _ _ _ h => h) (by rfl) (v := ?v12m) ?hy12m hS ?rest12m
      case hy12m => intro w0 hSw; obtain ⟨⟨z0, z1, z2, z3, z4, z5, z6, z7⟩, zk, zw⟩ := hSw; go_simp; try with_reducible rfl
      simp only [Act.put, List.setIfInBounds_toArray, List.set_cons_zero, List.set_cons_succ]
      refine late_take (i := 13) (some 117) rfl rfl (by kernel_rfl) (by kernel_rfl) (by kernel_rfl) (by kernel_rfl) (by kernel_rfl) (fun _ _ _ h => h) (by rfl) (v := .int .u32 (and32 a c)) ?hy13m hS ?rest13m
      case hy13m => intro w0 hSw; obtain ⟨⟨z0, z1, z2, z3, z4, z5, z6, z7⟩, zk, zw⟩ := hSw; go_simp; rfl
      simp only [Act.put, List.setIfInBounds_toArray, List.set_cons_zero, List.set_cons_succ]
      refine late_take (i := 14) (some 118) rfl rfl (by kernel_rfl) (by kernel_rfl) (by kernel_rfl) (by kernel_rfl) (by kernel_rfl) (fun _ _ _ h => h) (by rfl) (v := .int .u32 (xor32 (and32 a b') (and32 a c))) ?hy14m hS ?rest14m
      case hy14m => intro w0 hSw; obtain ⟨⟨z0, z1, z2, z3, z4, z5, z6, z7⟩, zk, zw⟩ := hSw; go_simp; rfl
      simp only [Act.put, List.setIfInBounds_toArray, List.set_cons_zero, List.set_cons_succ]
      refine late_take (i := 15) (some 119) rfl rfl (by kernel_rfl) (by kernel_rfl) (by kernel_rfl) (by kernel_rfl) (by kernel_rfl) (fun _ _ _ h => h) (by rfl) (v := ?v15m) ?hy15m hS ?rest15m
      case hy15m => intro w0 hSw; obtain ⟨⟨z0, z1, z2, z3, z4, z5, z6, z7⟩, zk, zw⟩ := hSw; go_simp; try with_reducible rfl
      simp only [Act.put, List.setIfInBounds_toArray, List.set_cons_zero, List.set_cons_succ]
      refine late_take (i := 16) (some 120) rfl rfl (by kernel_rfl) (by kernel_rfl) (by kernel_rfl) (by kernel_rfl) (by kernel_rfl) (fun _ _ _ h => h) (by rfl) (v := ?v16m) ?hy16m hS ?rest16m
      case hy16m => intro w0 hSw; obtain ⟨⟨z0, z1, z2, z3, z4, z5, z6, z7⟩, zk, zw⟩ := hSw; go_simp; try with_reducible rfl
      simp only [Act.put, List.setIfInBounds_toArray, List.set_cons_zero, List.set_cons_succ]
      refine late_take (i := 17) (some 121) rfl rfl (by kernel_rfl) (by kernel_rfl) (by kernel_rfl) (by kernel_rfl) (by kernel_rfl) (fun _ _ _ h => h) (by rfl) (v := ?v17m) ?hy17m hS ?rest17m
      case hy17m => intro w0 hSw; obtain ⟨⟨z0, z1, z2, z3, z4, z5, z6, z7⟩, zk, zw⟩ := hSw; go_simp; try with_reducible rfl
      simp only [Act.put, List.setIfInBounds_toArray, List.set_cons_zero, List.set_cons_succ]
      refine late_take (i := 18) (some 122) rfl rfl (by kernel_rfl) (by kernel_rfl) (by kernel_rfl) (by kernel_rfl) (by kernel_rfl) (fun _ _ _ h => h) (by rfl) (v := ?v18m) ?hy18m hS ?rest18m
      case hy18m => intro w0 hSw; obtain ⟨⟨z0, z1, z2, z3, z4, z5, z6, z7⟩, zk, zw⟩ := hSw; go_simp; try with_reducible rfl
      simp only [Act.put, List.setIfInBounds_toArray, List.set_cons_zero, List.set_cons_succ]
      refine late_take (i := 19) (some 123) rfl rfl (by kernel_rfl) (by kernel_rfl) (by kernel_rfl) (by kernel_rfl) (by kernel_rfl) (fun _ _ _ h => h) (by rfl) (v := ?v19m) ?hy19m hS ?rest19m
      case hy19m => intro w0 hSw; obtain ⟨⟨z0, z1, z2, z3, z4, z5, z6, z7⟩, zk, zw⟩ := hSw; go_simp; try with_reducible rfl
      simp only [Act.put, List.setIfInBounds_toArray, List.set_cons_zero, List.set_cons_succ]
      refine late_take (i := 20) (some 124) rfl rfl (by kernel_rfl) (by kernel_rfl) (by kernel_rfl) (by kernel_rfl) (by kernel_rfl) (fun _ _ _ h => h) (by rfl) (v := ?v20m) ?hy20m hS ?rest20m
      case hy20m => intro w0 hSw; obtain ⟨⟨z0, z1, z2, z3, z4, z5, z6, z7⟩, zk, zw⟩ := hSw; go_simp; try with_reducible rfl
      simp only [Act.put, List.setIfInBounds_toArray, List.set_cons_zero, List.set_cons_succ]
      refine late_take (i := 21) (some 125) rfl rfl (by kernel_rfl) (by kernel_rfl) (by kernel_rfl) (by kernel_rfl) (by kernel_rfl) (fun _ _ _ h => h) (by rfl) (v := .int .u32 (and32 b' c)) ?hy21m hS ?rest21m
      case hy21m => intro w0 hSw; obtain ⟨⟨z0, z1, z2, z3, z4, z5, z6, z7⟩, zk, zw⟩ := hSw; go_simp; rfl
      simp only [Act.put, List.setIfInBounds_toArray, List.set_cons_zero, List.set_cons_succ]
      refine late_take (i := 22) (some 126) rfl rfl (by kernel_rfl) (by kernel_rfl) (by kernel_rfl) (by kernel_rfl) (by kernel_rfl) (fun _ _ _ h => h) (by rfl) (v := .int .u32 (majW a b' c)) ?hy22m hS ?rest22m
      case hy22m => intro w0 hSw; obtain ⟨⟨z0, z1, z2, z3, z4, z5, z6, z7⟩, zk, zw⟩ := hSw; go_simp; rfl
      simp only [Act.put, List.setIfInBounds_toArray, List.set_cons_zero, List.set_cons_succ]
      refine late_take (i := 23) (some 15) rfl rfl (by kernel_rfl) (by kernel_rfl) (by kernel_rfl) (by kernel_rfl) (by kernel_rfl) (fun _ _ _ h => h) (by rfl) (v := ?v23m) ?hy23m hS ?rest23m
      case hy23m => intro w0 hSw; obtain ⟨⟨z0, z1, z2, z3, z4, z5, z6, z7⟩, zk, zw⟩ := hSw; go_simp; try with_reducible rfl
      simp only [Act.put, List.setIfInBounds_toArray, List.set_cons_zero, List.set_cons_succ]
      refine late_done (by kernel_rfl) ?_ _
      refine NoPanic.normal ?_
      go_wp2_with fail
      refine wp_region_noPanic ?_
      refine any_begin 28 (by kernel_rfl) (by kernel_rfl) ?_
      refine late_begin (fun U => RdP U ba ⟨a, b', c, d, e, f, g, h⟩ bk bw t x y) (fun _ => false) HD.out (fun hS => ?_)
      refine late_take (i := 0) (some 130) rfl rfl (by kernel_rfl) (by kernel_rfl) (by kernel_rfl) (by kernel_rfl) (by kernel_rfl) (fun _ _ _ h => h) (by rfl) (v := ?v0n) ?hy0n hS ?rest0n
      case hy0n => intro w0 hSw; obtain ⟨⟨z0, z1, z2, z3, z4, z5, z6, z7⟩, zk, zw⟩ := hSw; go_simp; try with_reducible rfl
      simp only [Act.put, List.setIfInBounds_toArray, List.set_cons_zero, List.set_cons_succ]
      refine late_take (i := 1) (some 131) rfl rfl (by kernel_rfl) (by kernel_rfl) (by kernel_rfl) (by kernel_rfl) (by kernel_rfl) (fun _ _ _ h => h) (by rfl) (v := ?v1n) ?hy1n hS ?rest1n
      case hy1n => intro w0 hSw; obtain ⟨⟨z0, z1, z2, z3, z4, z5, z6, z7⟩, zk, zw⟩ := hSw; go_simp; try with_reducible rfl
      simp only [Act.put, List.setIfInBounds_toArray, List.set_cons_zero, List.set_cons_succ]
      refine late_take (i := 2) (some 132) rfl rfl (by kernel_rfl) (by kernel_rfl) (by kernel_rfl) (by kernel_rfl) (by kernel_rfl) (fun _ _ _ h => h) (by rfl) (v := .int .u32 (add32 (rndT ⟨a, b', c, d, e, f, g, h⟩ x y) (add32 (bs0 a) (majW a b' c)))) ?hy2n hS ?rest2n
      case hy2n => intro w0 hSw; obtain ⟨⟨z0, z1, z2, z3, z4, z5, z6, z7⟩, zk, zw⟩ := hSw; go_simp; rfl
      simp only [Act.put, List.setIfInBounds_toArray, List.set_cons_zero, List.set_cons_succ]
      refine late_take (i := 3) (some 133) rfl rfl (by kernel_rfl) (by kernel_rfl) (by kernel_rfl) (by kernel_rfl) (by kernel_rfl) (fun _ _ _ h => h) (by rfl) (v := ?v3n) ?hy3n hS ?rest3n
      case hy3n => intro w0 hSw; obtain ⟨⟨z0, z1, z2, z3, z4, z5, z6, z7⟩, zk, zw⟩ := hSw; go_simp; try with_reducible rfl
      simp only [Act.put, List.setIfInBounds_toArray, List.set_cons_zero, List.set_cons_succ]
      refine late_take (i := 4) (some 134) rfl rfl (by kernel_rfl) (by kernel_rfl) (by kernel_rfl) (by kernel_rfl) (by kernel_rfl) (fun _ _ _ h => h) (by rfl) (v := ?v4n) ?hy4n hS ?rest4n
      case hy4n => intro w0 hSw; obtain ⟨⟨z0, z1, z2, z3, z4, z5, z6, z7⟩, zk, zw⟩ := hSw; go_simp; try with_reducible rfl
      simp only [Act.put, List.setIfInBounds_toArray, List.set_cons_zero, List.set_cons_succ]
      refine late_take (i := 5) (some 135) rfl rfl (by kernel_rfl) (by kernel_rfl) (by kernel_rfl) (by kernel_rfl) (by kernel_rfl) (fun _ _ _ h => h) (by rfl) (v := ?v5n) ?hy5n hS ?rest5n
      case hy5n => intro w0 hSw; obtain ⟨⟨z0, z1, z2, z3, z4, z5, z6, z7⟩, zk, zw⟩ := hSw; go_simp; try with_reducible rfl
      simp only [Act.put, List.setIfInBounds_toArray, List.set_cons_zero, List.set_cons_succ]
      refine late_take (i := 6) (some 136) rfl rfl (by kernel_rfl) (by kernel_rfl) (by kernel_rfl) (by kernel_rfl) (by kernel_rfl) (fun _ _ _ h => h) (by rfl) (v := ?v6n) ?hy6n hS ?rest6n
      case hy6n => intro w0 hSw; obtain ⟨⟨z0, z1, z2, z3, z4, z5, z6, z7⟩, zk, zw⟩ := hSw; go_simp; try with_reducible rfl
      simp only [Act.put, List.setIfInBounds_toArray, List.set_cons_zero, List.set_cons_succ]
      refine late_take (i := 7) (some 137) rfl rfl (by kernel_rfl) (by kernel_rfl) (by kernel_rfl) (by kernel_rfl) (by kernel_rfl) (fun _ _ _ h => h) (by rfl) (v := ?v7n) ?hy7n hS ?rest7n
      case hy7n => intro w0 hSw; obtain ⟨⟨z0, z1, z2, z3, z4, z5, z6, z7⟩, zk, zw⟩ := hSw; go_simp; try with_reducible rfl
      simp only [Act.put, List.setIfInBounds_toArray, List.set_cons_zero, List.set_cons_succ]
      refine late_take (i := 8) (some 138) rfl rfl (by kernel_rfl) (by kernel_rfl) (by kernel_rfl) (by kernel_rfl) (by kernel_rfl) (fun _ _ _ h => h) (by rfl) (v := ?v8n) ?hy8n hS ?rest8n
      case hy8n => intro w0 hSw; obtain ⟨⟨z0, z1, z2, z3, z4, z5, z6, z7⟩, zk, zw⟩ := hSw; go_simp; try with_reducible rfl
      simp only [Act.put, List.setIfInBounds_toArray, List.set_cons_zero, List.set_cons_succ]
      refine late_take (i := 9) (some 139) rfl rfl (by kernel_rfl) (by kernel_rfl) (by kernel_rfl) (by kernel_rfl) (by kernel_rfl) (fun _ _ _ h => h) (by rfl) (v := ?v9n) ?hy9n hS ?rest9n
      case hy9n => intro w0 hSw; obtain ⟨⟨z0, z1, z2, z3, z4, z5, z6, z7⟩, zk, zw⟩ := hSw; go_simp; try with_reducible rfl
      simp only [Act.put, List.setIfInBounds_toArray, List.set_cons_zero, List.set_cons_succ]
      refine late_take (i := 10) (some 140) rfl rfl (by kernel_rfl) (by kernel_rfl) (by kernel_rfl) (by kernel_rfl) (by kernel_rfl) (fun _ _ _ h => h) (by rfl) (v := ?v10n) ?hy10n hS ?rest10n
      case hy10n => intro w0 hSw; obtain ⟨⟨z0, z1, z2, z3, z4, z5, z6, z7⟩, zk, zw⟩ := hSw; go_simp; try with_reducible rfl
      simp only [Act.put, List.setIfInBounds_toArray, List.set_cons_zero, List.set_cons_succ]
      refine late_take (i := 11) (some 141) rfl rfl (by kernel_rfl) (by kernel_rfl) (by kernel_rfl) (by kernel_rfl) (by kernel_rfl) (fun _ _ _ h => h) (by rfl) (v := ?v11n) ?hy11n hS ?rest11n
      case hy11n => intro w0 hSw; obtain ⟨⟨z0, z1, z2, z3, z4, z5, z6, z7⟩, zk, zw⟩ := hSw; go_simp; try with_reducible rfl
      simp only [Act.put, List.setIfInBounds_toArray, List.set_cons_zero, List.set_cons_succ]
      refine late_take (i := 12) (some 142) rfl rfl (by kernel_rfl) (by kernel_rfl) (by kernel_rfl) (by kernel_rfl) (by kernel_rfl) (fun _ _ _ h => h) (by rfl) (v := ?v12n) ?hy12n hS ?rest12n
      case hy12n => intro w0 hSw; obtain ⟨⟨z0, z1, z2, z3, z4, z5, z6, z7⟩, zk, zw⟩ := hSw; go_simp; try with_reducible rfl
      simp only [Act.put, List.setIfInBounds_toArray, List.set_cons_zero, List.set_cons_succ]
      refine late_take (i := 13) (some 143) rfl rfl (by kernel_rfl) (by kernel_rfl) (by kernel_rfl) (by kernel_rfl) (by kernel_rfl) (fun _ _ _ h => h) (by rfl) (v := ?v13n) ?hy13n hS ?rest13n
      case hy13n => intro w0 hSw; obtain ⟨⟨z0, z1, z2, z3, z4, z5, z6, z7⟩, zk, zw⟩ := hSw; go_simp; try with_reducible rfl
      simp only [Act.put, List.setIfInBounds_toArray, List.set_cons_zero, List.set_cons_succ]
      refine late_take (i := 14) (some 144) rfl rfl (by kernel_rfl) (by kernel_rfl) (by kernel_rfl) (by kernel_rfl) (by kernel_rfl) (fun _ _ _ h => h) (by rfl) (v := ?v14n) ?hy14n hS ?rest14n
      case hy14n => intro w0 hSw; obtain ⟨⟨z0, z1, z2, z3, z4, z5, z6, z7⟩, zk, zw⟩ := hSw; go_simp; try with_reducible rfl
      simp only [Act.put, List.setIfInBounds_toArray, List.set_cons_zero, List.set_cons_succ]
      refine late_take (i := 15) (some 145) rfl rfl (by kernel_rfl) (by kernel_rfl) (by kernel_rfl) (by kernel_rfl) (by kernel_rfl) (fun _ _ _ h => h) (by rfl) (v := ?v15n) ?hy15n hS ?rest15n
      case hy15n => intro w0 hSw; obtain ⟨⟨z0, z1, z2, z3, z4, z5, z6, z7⟩, zk, zw⟩ := hSw; go_simp; try with_reducible rfl
      simp only [Act.put, List.setIfInBounds_toArray, List.set_cons_zero, List.set_cons_succ]
      refine late_take (i := 16) (some 146) rfl rfl (by kernel_rfl) (by kernel_rfl) (by kernel_rfl) (by kernel_rfl) (by kernel_rfl) (fun _ _ _ h => h) (by rfl) (v := .int .u32 (add32 d (rndT ⟨a, b', c, d, e, f, g, h⟩ x y))) ?hy16n hS ?rest16n
      case hy16n => intro w0 hSw; obtain ⟨⟨z0, z1, z2, z3, z4, z5, z6, z7⟩, zk, zw⟩ := hSw; go_simp; rfl
      simp only [Act.put, List.setIfInBounds_toArray, List.set_cons_zero, List.set_cons_succ]
      refine late_take (i := 17) (some 147) rfl rfl (by kernel_rfl) (by kernel_rfl) (by kernel_rfl) (by kernel_rfl) (by kernel_rfl) (fun _ _ _ h => h) (by rfl) (v := ?v17n) ?hy17n hS ?rest17n
      case hy17n => intro w0 hSw; obtain ⟨⟨z0, z1, z2, z3, z4, z5, z6, z7⟩, zk, zw⟩ := hSw; go_simp; try with_reducible rfl
      simp only [Act.put, List.setIfInBounds_toArray, List.set_cons_zero, List.set_cons_succ]
      refine late_take (i := 18) (some 148) rfl rfl (by kernel_rfl) (by kernel_rfl) (by kernel_rfl) (by kernel_rfl) (by kernel_rfl) (fun _ _ _ h => h) (by rfl) (v := ?v18n) ?hy18n hS ?rest18n
      case hy18n => intro w0 hSw; obtain ⟨⟨z0, z1, z2, z3, z4, z5, z6, z7⟩, zk, zw⟩ := hSw; go_simp; try with_reducible rfl
      simp only [Act.put, List.setIfInBounds_toArray, List.set_cons_zero, List.set_cons_succ]
      refine late_take (i := 19) (some 149) rfl rfl (by kernel_rfl) (by kernel_rfl) (by kernel_rfl) (by kernel_rfl) (by kernel_rfl) (fun _ _ _ h => h) (by rfl) (v := ?v19n) ?hy19n hS ?rest19n
      case hy19n => intro w0 hSw; obtain ⟨⟨z0, z1, z2, z3, z4, z5, z6, z7⟩, zk, zw⟩ := hSw; go_simp; try with_reducible rfl
      simp only [Act.put, List.setIfInBounds_toArray, List.set_cons_zero, List.set_cons_succ]
      refine late_take (i := 20) (some 150) rfl rfl (by kernel_rfl) (by kernel_rfl) (by kernel_rfl) (by kernel_rfl) (by kernel_rfl) (fun _ _ _ h => h) (by rfl) (v := ?v20n) ?hy20n hS ?rest20n
      case hy20n => intro w0 hSw; obtain ⟨⟨z0, z1, z2, z3, z4, z5, z6, z7⟩, zk, zw⟩ := hSw; go_simp; try with_reducible rfl
      simp only [Act.put, List.setIfInBounds_toArray, List.set_cons_zero, List.set_cons_succ]
      refine late_take (i := 21) (some 151) rfl rfl (by kernel_rfl) (by kernel_rfl) (by kernel_rfl) (by kernel_rfl) (by kernel_rfl) (fun _ _ _ h => h) (by rfl) (v := ?v21n) ?hy21n hS ?rest21n
      case hy21n => intro w0 hSw; obtain ⟨⟨z0, z1, z2, z3, z4, z5, z6, z7⟩, zk, zw⟩ := hSw; go_simp; try with_reducible rfl
      simp only [Act.put, List.setIfInBounds_toArray, List.set_cons_zero, List.set_cons_succ]
      refine late_take (i := 22) (some 152) rfl rfl (by kernel_rfl) (by kernel_rfl) (by kernel_rfl) (by kernel_rfl) (by kernel_rfl) (fun _ _ _ h => h) (by rfl) (v := ?v22n) ?hy22n hS ?rest22n
      case hy22n => intro w0 hSw; obtain ⟨⟨z0, z1, z2, z3, z4, z5, z6, z7⟩, zk, zw⟩ := hSw; go_simp; try with_reducible rfl
      simp only [Act.put, List.setIfInBounds_toArray, List.set_cons_zero, List.set_cons_succ]
      refine late_take (i := 23) (some 153) rfl rfl (by kernel_rfl) (by kernel_rfl) (by kernel_rfl) (by kernel_rfl) (by kernel_rfl) (fun _ _ _ h => h) (by rfl) (v := ?v23n) ?hy23n hS ?rest23n
      case hy23n => intro w0 hSw; obtain ⟨⟨z0, z1, z2, z3, z4, z5, z6, z7⟩, zk, zw⟩ := hSw; go_simp; try with_reducible rfl
      simp only [Act.put, List.setIfInBounds_toArray, List.set_cons_zero, List.set_cons_succ]
      refine late_take (i := 24) (some 154) rfl rfl (by kernel_rfl) (by kernel_rfl) (by kernel_rfl) (by kernel_rfl) (by kernel_rfl) (fun _ _ _ h => h) (by rfl) (v := ?v24n) ?hy24n hS ?rest24n
      case hy24n => intro w0 hSw; obtain ⟨⟨z0, z1, z2, z3, z4, z5, z6, z7⟩, zk, zw⟩ := hSw; go_simp; try with_reducible rfl
      simp only [Act.put, List.setIfInBounds_toArray, List.set_cons_zero, List.set_cons_succ]
      refine late_take (i := 25) (some 155) rfl rfl (by kernel_rfl) (by kernel_rfl) (by kernel_rfl) (by kernel_rfl) (by kernel_rfl) (fun _ _ _ h => h) (by rfl) (v := ?v25n) ?hy25n hS ?rest25n
      case hy25n => intro w0 hSw; obtain ⟨⟨z0, z1, z2, z3, z4, z5, z6, z7⟩, zk, zw⟩ := hSw; go_simp; try with_reducible rfl
      simp only [Act.put, List.setIfInBounds_toArray, List.set_cons_zero, List.set_cons_succ]
      refine wpAnyD_one (i := 26) (by kernel_rfl) rfl (fun K hK => ?_)
      go_simp
      have HQ : ∀ ob, RdP (V.drew.drew.drew.drew.drew.alloc ob) ba ⟨a, b', c, d, e, f, g, h⟩ bk bw t x y := fun ob => (HP.out.drew.drew.drew.drew.drew.next (below_new _ _)).rd hlt (sched_len _) HX.out HY.out
      refine hK _ _ ⟨fun _ => HQ _, ?_⟩
      clear hK K
      replace hS := HQ (.cells (ws (rnd ⟨a, b', c, d, e, f, g, h⟩ x y).list) 56)
      refine late_take (i := 27) (some 8) rfl rfl (by kernel_rfl) (by kernel_rfl) (by kernel_rfl) (by kernel_rfl) (by kernel_rfl) (fun _ _ _ h => h) (by rfl) (v := ?v27n) ?hy27n hS ?rest27n
      case hy27n => intro w0 hSw; obtain ⟨⟨z0, z1, z2, z3, z4, z5, z6, z7⟩, zk, zw⟩ := hSw; go_simp; try with_reducible rfl
      simp only [Act.put, List.setIfInBounds_toArray, List.set_cons_zero, List.set_cons_succ]
      refine late_done (by kernel_rfl) ?_ _
      refine NoPanic.normal ?_
      go_wp2
      go_roundw
      case rel =>
        refine ⟨t + 1, _, rnd ⟨a, b', c, d, e, f, g, h⟩ x y, by omega, rfl, by go_num, ?_, ?_⟩
        · show rnd (rnds kTab (sched blk) (octOf st) t) (kTab[t]?.getD 0) ((sched blk)[t]?.getD 0) = _
          rw [HR.out, HX.out, HY.out]
        · have hb := HP.out.drew.drew.drew.drew.drew.next (below_new _ (.cells (ws (rnd ⟨a, b', c, d, e, f, g, h⟩ x y).list) 56))
          exact ⟨hb.below, hb.st, hb.k, hb.row, new_words V.drew.drew.drew.drew.drew (rnd ⟨a, b', c, d, e, f, g, h⟩ x y).list⟩
      case measure => simp [intOf]; omega
    · have hlt' : ¬ (t : Int) < 64 := by omega
      obtain rfl : t = 64 := by omega
      clear hlt hlt' ht
      obtain ⟨q, HQ⟩ : ∃ q, Hid (Oct.list ⟨a, b', c, d, e, f, g, h⟩ = q) := ⟨_, hid rfl⟩
      have HE : Hid (mixW st blk = List.zipWith add32 st q) := by
        show _ = _
        unfold mixW
        rw [HR.out, ← HQ.out]
      have HL : Hid (q.length = 8 ∧ (mixW st blk).length = 8) := ⟨by rw [← HQ.out]; rfl, mixW_len _ _ HI.out.2.2.2.2.2.2.2⟩
      have HB : Hid (BlkP w V bh bk bw ba st (sched blk) q) := by rw [← HQ.out]; exact HP
      clear HP HR HQ
      go_wp2
      go_loopw [17, 18] (fun v i W => ∃ (k c : Nat) (pa : Option Addr), k ≤ 8 ∧ v = .slice pa k c ∧ i = .int .i64 k ∧ Hid (MineW V W pa c ((mixW st blk).take k))) (fun _ i _ => 8 - (intOf i).toNat)
      case atStart => exact ⟨0, 0, none, Nat.zero_le _, rfl, rfl, mineW_nil V⟩
      case round =>
        obtain ⟨k, cc, pa, hk, rfl, rfl, HM⟩ := hrel
        obtain ⟨U, hU⟩ : ∃ U, U = wr := ⟨_, rfl⟩
        rw [← hU] at HM ⊢
        clear hU
        by_cases hlt : k < 8
        · have hlt' : (k : Int) < 8 := by omega
          obtain ⟨x, HX⟩ : ∃ x, Hid (st[k]?.getD 0 = x) := ⟨_, hid rfl⟩
          obtain ⟨y, HY⟩ : ∃ x, Hid (q[k]?.getD 0 = x) := ⟨_, hid rfl⟩
          have HN : Hid ((mixW st blk)[k]?.getD 0 = add32 x y) := by
            show _ = _
            have h8 := HL.out.1
            have h9 := HI.out.2.2.2.2.2.2.2
            rw [HE.out, ← HX.out, ← HY.out]
            simp [List.getElem?_zipWith, show k < st.length by omega, show k < q.length by omega]
          have HC : Hid (∀ W, Below V.heap.size V W → W.cell? ⟨bh, k, none⟩ = some (.int .u32 x) ∧ W.cell? ⟨ba, k, none⟩ = some (.int .u32 y)) := fun W hb => by
            have hn := HB.out.next hb
            have h8 := HL.out.1
            have h9 := HI.out.2.2.2.2.2.2.2
            rw [← HX.out, ← HY.out]
            exact ⟨hn.st.2 k (by omega), hn.a.2 k (by omega)⟩
          have HLT : Hid (((mixW st blk).take k).length = k) := by show _ = _; rw [List.length_take, HL.out.2]; omega
          have hk1 : k ≤ 1000 := by omega
          go_wp2_with fail
          refine wp_region_noPanic ?_
          refine any_begin 13 (by kernel_rfl) (by kernel_rfl) ?_
          refine late_begin (fun W => W.cell? ⟨bh, k, none⟩ = some (.int .u32 x) ∧ W.cell? ⟨ba, k, none⟩ = some (.int .u32 y)) (fun _ => false) (HC.out _ HM.out.drew.below) (fun hS => ?_)
          refine late_take (i := 0) (some 161) rfl rfl (by kernel_rfl) (by kernel_rfl) (by kernel_rfl) (by kernel_rfl) (by kernel_rfl) (fun _ _ _ h => h) (by rfl) (v := ?v0p) ?hy0p hS ?rest0p
          case hy0p => intro w0 hSw; obtain ⟨z0, z1⟩ := hSw; go_simp; try with_reducible rfl
          simp only [Act.put, List.setIfInBounds_toArray, List.set_cons_zero, List.set_cons_succ]
          refine late_take (i := 1) (some 162) rfl rfl (by kernel_rfl) (by kernel_rfl) (by kernel_rfl) (by kernel_rfl) (by kernel_rfl) (fun _ _ _ h => h) (by rfl) (v := ?v1p) ?hy1p hS ?rest1p
          case hy1p => intro w0 hSw; obtain ⟨z0, z1⟩ := hSw; go_simp; try with_reducible rfl
          simp only [Act.put, List.setIfInBounds_toArray, List.set_cons_zero, List.set_cons_succ]
          refine late_take (i := 2) (some 163) rfl rfl (by kernel_rfl) (by kernel_rfl) (by kernel_rfl) (by kernel_rfl) (by kernel_rfl) (fun _ _ _ h => h) (by rfl) (v := ?v2p) ?hy2p hS ?rest2p
          case hy2p => intro w0 hSw; obtain ⟨z0, z1⟩ := hSw; go_simp; try with_reducible rfl
          simp only [Act.put, List.setIfInBounds_toArray, List.set_cons_zero, List.set_cons_succ]
          refine late_take (i := 3) (some 164) rfl rfl (by kernel_rfl) (by kernel_rfl) (by kernel_rfl) (by kernel_rfl) (by kernel_rfl) (fun _ _ _ h => h) (by rfl) (v := ?v3p) ?hy3p hS ?rest3p
          case hy3p => intro w0 hSw; obtain ⟨z0, z1⟩ := hSw; go_simp; try with_reducible rfl
          simp only [Act.put, List.setIfInBounds_toArray, List.set_cons_zero, List.set_cons_succ]
          refine late_take (i := 4) (some 165) rfl rfl (by kernel_rfl) (by kernel_rfl) (by kernel_rfl) (by kernel_rfl) (by kernel_rfl) (fun _ _ _ h => h) (by rfl) (v := ?v4p) ?hy4p hS ?rest4p
          case hy4p => intro w0 hSw; obtain ⟨z0, z1⟩ := hSw; go_simp; try with_reducible rfl
          simp only [Act.put, List.setIfInBounds_toArray, List.set_cons_zero, List.set_cons_succ]
          refine late_take (i := 5) (some 166) rfl rfl (by kernel_rfl) (by kernel_rfl) (by kernel_rfl) (by kernel_rfl) (by kernel_rfl) (fun _ _ _ h => h) (by rfl) (v := ?v5p) ?hy5p hS ?rest5p
          case hy5p => intro w0 hSw; obtain ⟨z0, z1⟩ := hSw; go_simp; try with_reducible rfl
          simp only [Act.put, List.setIfInBounds_toArray, List.set_cons_zero, List.set_cons_succ]
          refine late_take (i := 6) (some 167) rfl rfl (by kernel_rfl) (by kernel_rfl) (by kernel_rfl) (by kernel_rfl) (by kernel_rfl) (fun _ _ _ h => h) (by rfl) (v := ?v6p) ?hy6p hS ?rest6p
          case hy6p => intro w0 hSw; obtain ⟨z0, z1⟩ := hSw; go_simp; try with_reducible rfl
          simp only [Act.put, List.setIfInBounds_toArray, List.set_cons_zero, List.set_cons_succ]
          refine late_take (i := 7) (some 168) rfl rfl (by kernel_rfl) (by kernel_rfl) (by kernel_rfl) (by kernel_rfl) (by kernel_rfl) (fun _ _ _ h => h) (by rfl) (v := ?v7p) ?hy7p hS ?rest7p
          case hy7p => intro w0 hSw; obtain ⟨z0, z1⟩ := hSw; go_simp; try with_reducible rfl
          simp only [Act.put, List.setIfInBounds_toArray, List.set_cons_zero, List.set_cons_succ]
          refine late_take (i := 8) (some 169) rfl rfl (by kernel_rfl) (by kernel_rfl) (by kernel_rfl) (by kernel_rfl) (by kernel_rfl) (fun _ _ _ h => h) (by rfl) (v := ?v8p) ?hy8p hS ?rest8p
          case hy8p => intro w0 hSw; obtain ⟨z0, z1⟩ := hSw; go_simp; try with_reducible rfl
          simp only [Act.put, List.setIfInBounds_toArray, List.set_cons_zero, List.set_cons_succ]
          refine late_take (i := 9) (some 170) rfl rfl (by kernel_rfl) (by kernel_rfl) (by kernel_rfl) (by kernel_rfl) (by kernel_rfl) (fun _ _ _ h => h) (by rfl) (v := .int .u32 (add32 x y)) ?hy9p hS ?rest9p
          case hy9p => intro w0 hSw; obtain ⟨z0, z1⟩ := hSw; go_simp; rfl
          simp only [Act.put, List.setIfInBounds_toArray, List.set_cons_zero, List.set_cons_succ]
          refine wpAnyD_one (i := 10) (by kernel_rfl) rfl (fun K hK => ?_)
          go_simp
          refine hK _ _ ⟨fun _ => HC.out _ (HM.out.drew.next (below_new _ _)).below, ?_⟩
          clear hK K
          refine wpAnyD_one (i := 11) (by kernel_rfl) rfl (fun K hK => ?_)
          refine step_append_word (w0 := V) rfl _ _ rfl pa k cc rfl ((mixW st blk).take k) HLT.out (HM.out.drew.next (below_new _ _)) U.drew.heap.size rfl (add32 x y) ((row_new _ _ _).cell 0) hk1 ?_
          intro pa2 c2 W2 hm2
          have HM2 := hid hm2
          clear hm2
          refine hK _ _ ⟨fun _ => HC.out _ HM2.out.below, ?_⟩
          clear hK K
          replace hS := HC.out _ HM2.out.below
          refine late_take (i := 12) (some 17) rfl rfl (by kernel_rfl) (by kernel_rfl) (by kernel_rfl) (by kernel_rfl) (by kernel_rfl) (fun _ _ _ h => h) (by rfl) (v := ?v12p) ?hy12p hS ?rest12p
          case hy12p => intro w0 hSw; obtain ⟨z0, z1⟩ := hSw; go_simp; try with_reducible rfl
          simp only [Act.put, List.setIfInBounds_toArray]
          refine late_done (by kernel_rfl) ?_ _
          refine NoPanic.normal ?_
          go_wp2
          refine ⟨?_, ?measureb⟩
          refine ⟨_, _, _, _, _, _, _, _, _, _, _, _, _, _, _, _, _, _, ?relb, rfl⟩
          case relb =>
            refine ⟨k + 1, c2, pa2, by omega, rfl, by go_num, ?_⟩
            rw [← take_next (mixW st blk) k (by rw [HL.out.2]; exact hlt), HN.out]
            exact HM2
          case measureb => simp [intOf]; omega
        · have hlt' : ¬ (k : Int) < 8 := by omega
          obtain rfl : k = 8 := by omega
          go_wp2
          go_ret
          refine ⟨pa, cc, rfl, ?_⟩
          have hm := HM.out
          rw [List.take_of_length_le (by rw [HL.out.2]; omega)] at hm
          exact hm.from HB.out.below
end Go.Proofs.YtojcaoieodogdaaDoor
