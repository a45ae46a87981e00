/- The document's words of a block. -/
import Derived.Test.YtojcaoieodogdaaDoorWMine
import Derived.Deep.RegionHeld3
namespace Go.Proofs.YtojcaoieodogdaaDoor
open Go.RowKit

def rword (blk : List Int) (j : Nat) : Int :=
  bits .or .u32 (bits .or .u32 (bits .or .u32 (IntKind.u32.wrap (IntKind.u32.wrap (blk[4 * j + 0]?.getD 0) * 16777216)) (IntKind.u32.wrap (IntKind.u32.wrap (blk[4 * j + 1]?.getD 0) * 65536))) (IntKind.u32.wrap (IntKind.u32.wrap (blk[4 * j + 2]?.getD 0) * 256))) (IntKind.u32.wrap (blk[4 * j + 3]?.getD 0))
def rfill (blk : List Int) (k : Nat) : List Int := (List.range k).map (rword blk)
def rstep (l : List Int) (t : Nat) : List Int := l ++ [add32 (add32 (add32 (ls1 (l[t - 2]?.getD 0)) (l[t - 7]?.getD 0)) (ls0 (l[t - 15]?.getD 0))) (l[t - 16]?.getD 0)]
def rgrow (l : List Int) : Nat → List Int
  | 0 => l
  | k + 1 => rstep (rgrow l k) (16 + k)
def rsched (blk : List Int) : List Int := rgrow (rfill blk 16) 48
theorem rfill_len (blk : List Int) (k : Nat) : (rfill blk k).length = k := by simp [rfill]
theorem rfill_succ (blk : List Int) (k : Nat) : rfill blk (k + 1) = rfill blk k ++ [rword blk k] := by simp [rfill, List.range_succ]
theorem rgrow_len (l : List Int) : ∀ k, (rgrow l k).length = l.length + k
  | 0 => rfl
  | k + 1 => by simp [rgrow, rstep, rgrow_len l k]; omega
theorem CellsAt.get {w : World} {b o : Nat} {xs : List Int} (h : CellsAt w b o xs) {k : Nat} (hk : k < xs.length) : w.cell? ⟨b, o + k, none⟩ = some (.int .u8 (xs[k]?.getD 0)) := h k _ (by simp [hk])
theorem new_cell (V : World) (x : Value) (t : TypeId) : (V.alloc (.cells #[x] t)).drew.cell? ⟨V.heap.size, 0, none⟩ = some x := (row_new V #[x] t).cell 0
theorem MineW.at {w w' : World} {b : Nat} {cap : Nat} {l : List Int} (h : MineW w w' (some ⟨b, 0, none⟩) cap l) {k : Nat} (hk : k < l.length) : w'.cell? ⟨b, k, none⟩ = some (.int .u32 (l[k]?.getD 0)) := by
  obtain ⟨b2, h2, _, h3⟩ := h.cell hk
  cases h2
  exact h3
theorem sum3 (a b c d : Int) : IntKind.u32.wrap (IntKind.u32.wrap (IntKind.u32.wrap (a + b) + c) + d) = add32 (add32 (add32 a b) c) d := by
  rw [IntKind.wrap_u32', IntKind.wrap_u32', IntKind.wrap_u32']
  rfl
set_option maxRecDepth 20000 in
set_option maxHeartbeats 4000000 in
theorem refSched_any (blk : List Int) (hl : blk.length = 64) (b o cap : Nat) (_hcap : 64 ≤ cap) (w : World) (hb : b < w.heap.size) (hc : CellsAt w b o blk) :
    Calls Tryd.prog 53 #[.slice (some ⟨b, o, none⟩) 64 cap] w fun e w' => ∃ pa c, e = .returned (.slice pa 64 c) ∧ MineW w w' pa c (rsched blk) := by
  have HB : Hid (b < w.heap.size ∧ CellsAt w b o blk ∧ blk.length = 64) := ⟨hb, hc, hl⟩
  clear hb hc hl
  go_enter Tryd.func53, Tryd.ntmps53
  go_wp2
  go_loopw [3, 4] (fun s i W => ∃ (k c : Nat) (pa : Option Addr), k ≤ 16 ∧ s = .slice pa k c ∧ i = .int .i64 k ∧ Hid (MineW w W pa c (rfill blk k))) (fun _ i _ => 16 - (intOf i).toNat)
  case atStart => exact ⟨0, 0, none, Nat.zero_le _, rfl, rfl, mineW_nil w⟩
  case round =>
    obtain ⟨k, c, pa, hk, rfl, rfl, HM⟩ := hrel
    obtain ⟨V, hV⟩ : ∃ V, V = wr := ⟨_, rfl⟩
    rw [← hV] at HM ⊢
    clear hV
    by_cases hlt : k < 16
    · have hlt' : (k : Int) < 16 := by omega
      have hcl : CellsAt V b o blk := HB.out.2.1.of_heap (HM.out.below.block b HB.out.1)
      obtain ⟨p0, HP0⟩ : ∃ p, Hid (4 * k + 0 = p) := ⟨_, hid rfl⟩
      have q0 : (p0 : Int) < 64 := by have := HP0.out; omega
      have c0 := hcl.get (k := p0) (by have := HB.out.2.2; omega)
      obtain ⟨x0, HX0⟩ : ∃ x, Hid (blk[p0]?.getD 0 = x) := ⟨_, hid rfl⟩
      rw [HX0.out] at c0
      obtain ⟨p1, HP1⟩ : ∃ p, Hid (4 * k + 1 = p) := ⟨_, hid rfl⟩
      have q1 : (p1 : Int) < 64 := by have := HP1.out; omega
      have c1 := hcl.get (k := p1) (by have := HB.out.2.2; omega)
      obtain ⟨x1, HX1⟩ : ∃ x, Hid (blk[p1]?.getD 0 = x) := ⟨_, hid rfl⟩
      rw [HX1.out] at c1
      obtain ⟨p2, HP2⟩ : ∃ p, Hid (4 * k + 2 = p) := ⟨_, hid rfl⟩
      have q2 : (p2 : Int) < 64 := by have := HP2.out; omega
      have c2 := hcl.get (k := p2) (by have := HB.out.2.2; omega)
      obtain ⟨x2, HX2⟩ : ∃ x, Hid (blk[p2]?.getD 0 = x) := ⟨_, hid rfl⟩
      rw [HX2.out] at c2
      obtain ⟨p3, HP3⟩ : ∃ p, Hid (4 * k + 3 = p) := ⟨_, hid rfl⟩
      have q3 : (p3 : Int) < 64 := by have := HP3.out; omega
      have c3 := hcl.get (k := p3) (by have := HB.out.2.2; omega)
      obtain ⟨x3, HX3⟩ : ∃ x, Hid (blk[p3]?.getD 0 = x) := ⟨_, hid rfl⟩
      rw [HX3.out] at c3
      have v0 : IntKind.i64.wrap (4 * (k : Int)) = (p0 : Int) := by rw [← HP0.out, IntKind.wrap_i64]; omega
      have v1 : IntKind.i64.wrap ((p0 : Int) + 1) = (p1 : Int) := by rw [← HP1.out, ← HP0.out, IntKind.wrap_i64]; omega
      have v2 : IntKind.i64.wrap ((p0 : Int) + 2) = (p2 : Int) := by rw [← HP2.out, ← HP0.out, IntKind.wrap_i64]; omega
      have v3 : IntKind.i64.wrap ((p0 : Int) + 3) = (p3 : Int) := by rw [← HP3.out, ← HP0.out, IntKind.wrap_i64]; omega
      have KB : ∀ U, Below w.heap.size w U → U.cell? ⟨b, o + p0, none⟩ = some (.int .u8 x0) ∧ U.cell? ⟨b, o + p1, none⟩ = some (.int .u8 x1) ∧ U.cell? ⟨b, o + p2, none⟩ = some (.int .u8 x2) ∧ U.cell? ⟨b, o + p3, none⟩ = some (.int .u8 x3) := by
        intro U hU
        have hu : CellsAt U b o blk := HB.out.2.1.of_heap (hU.block b HB.out.1)
        have hl := HB.out.2.2
        exact ⟨by rw [← HX0.out]; exact hu.get (by omega), by rw [← HX1.out]; exact hu.get (by omega), by rw [← HX2.out]; exact hu.get (by omega), by rw [← HX3.out]; exact hu.get (by omega)⟩
      have KA : ∀ ob, (V.alloc ob).drew.cell? ⟨b, o + p0, none⟩ = some (.int .u8 x0) ∧ (V.alloc ob).drew.cell? ⟨b, o + p1, none⟩ = some (.int .u8 x1) ∧ (V.alloc ob).drew.cell? ⟨b, o + p2, none⟩ = some (.int .u8 x2) ∧ (V.alloc ob).drew.cell? ⟨b, o + p3, none⟩ = some (.int .u8 x3) := fun ob => KB _ (HM.out.below.trans ((below_new V ob).drew.mono HM.out.below.size))
      have hk1 : k ≤ 1000 := by omega
      clear hcl
      go_wp2
      go_region_held3 (fun U => U.cell? ⟨b, o + p0, none⟩ = some (.int .u8 x0) ∧ U.cell? ⟨b, o + p1, none⟩ = some (.int .u8 x1) ∧ U.cell? ⟨b, o + p2, none⟩ = some (.int .u8 x2) ∧ U.cell? ⟨b, o + p3, none⟩ = some (.int .u8 x3)) (first | exact ⟨by assumption, by assumption, by assumption, by assumption⟩ | exact KA _)
        ((refine step_append_word rfl _ _ rfl pa k c rfl (rfill blk k) (rfill_len _ _) (HM.out.next (below_new V _)).drew V.heap.size rfl _ (new_cell V _ _) hk1 ?_; intro pa2 c2 W2 hm2; have HM2 := hid hm2; obtain ⟨d0, d1, d2, d3⟩ := KB _ hm2.below; clear hm2))
      go_wp2
      go_roundw
      case rel =>
        refine ⟨k + 1, c2, pa2, by omega, rfl, by go_num, ?_⟩
        rw [rfill_succ]
        unfold rword
        rw [HP0.out, HP1.out, HP2.out, HP3.out, HX0.out, HX1.out, HX2.out, HX3.out]
        exact HM2
      case measure => simp [intOf]; omega
    · have hlt' : ¬ (k : Int) < 16 := by omega
      obtain rfl : k = 16 := by omega
      clear hlt hlt' hk
      go_wp2
      go_loopw [3, 5] (fun s i W => ∃ (t k c : Nat) (pa : Option Addr), t = 16 + k ∧ k ≤ 48 ∧ s = .slice pa t c ∧ i = .int .i64 t ∧ Hid (MineW w W pa c (rgrow (rfill blk 16) k))) (fun _ i _ => 64 - (intOf i).toNat)
      case atStart => exact ⟨16, 0, c, pa, rfl, Nat.zero_le _, rfl, rfl, HM⟩
      case round =>
        clear HM
        obtain ⟨t, k, c, pa, ht, hk, rfl, rfl, HM⟩ := hrel
        obtain ⟨U, hU⟩ : ∃ U, U = wr := ⟨_, rfl⟩
        rw [← hU] at HM ⊢
        clear hU
        by_cases hlt : t < 64
        · have hlt' : (t : Int) < 64 := by omega
          have hge : (16 : Int) ≤ t := by omega
          have hl : (rgrow (rfill blk 16) k).length = t := by rw [rgrow_len, rfill_len]; omega
          obtain ⟨bb, rfl, hlo, _⟩ := HM.out.cell (k := 0) (by omega)
          obtain ⟨p2, HP2⟩ : ∃ p, Hid (t - 2 = p) := ⟨_, hid rfl⟩
          have q2 : (p2 : Int) < t := by have := HP2.out; omega
          have v2 : IntKind.i64.wrap ((t : Int) - 2) = (p2 : Int) := by rw [← HP2.out, IntKind.wrap_i64]; omega
          have z2 : (t : Int) - 2 = (p2 : Int) := by have := HP2.out; omega
          have c2 := HM.out.at (k := p2) (by have := HP2.out; omega)
          obtain ⟨x2, HX2⟩ : ∃ x, Hid ((rgrow (rfill blk 16) k)[p2]?.getD 0 = x) := ⟨_, hid rfl⟩
          rw [HX2.out] at c2
          obtain ⟨p7, HP7⟩ : ∃ p, Hid (t - 7 = p) := ⟨_, hid rfl⟩
          have q7 : (p7 : Int) < t := by have := HP7.out; omega
          have v7 : IntKind.i64.wrap ((t : Int) - 7) = (p7 : Int) := by rw [← HP7.out, IntKind.wrap_i64]; omega
          have z7 : (t : Int) - 7 = (p7 : Int) := by have := HP7.out; omega
          have c7 := HM.out.at (k := p7) (by have := HP7.out; omega)
          obtain ⟨x7, HX7⟩ : ∃ x, Hid ((rgrow (rfill blk 16) k)[p7]?.getD 0 = x) := ⟨_, hid rfl⟩
          rw [HX7.out] at c7
          obtain ⟨p15, HP15⟩ : ∃ p, Hid (t - 15 = p) := ⟨_, hid rfl⟩
          have q15 : (p15 : Int) < t := by have := HP15.out; omega
          have v15 : IntKind.i64.wrap ((t : Int) - 15) = (p15 : Int) := by rw [← HP15.out, IntKind.wrap_i64]; omega
          have z15 : (t : Int) - 15 = (p15 : Int) := by have := HP15.out; omega
          have c15 := HM.out.at (k := p15) (by have := HP15.out; omega)
          obtain ⟨x15, HX15⟩ : ∃ x, Hid ((rgrow (rfill blk 16) k)[p15]?.getD 0 = x) := ⟨_, hid rfl⟩
          rw [HX15.out] at c15
          obtain ⟨p16, HP16⟩ : ∃ p, Hid (t - 16 = p) := ⟨_, hid rfl⟩
          have q16 : (p16 : Int) < t := by have := HP16.out; omega
          have v16 : IntKind.i64.wrap ((t : Int) - 16) = (p16 : Int) := by rw [← HP16.out, IntKind.wrap_i64]; omega
          have z16 : (t : Int) - 16 = (p16 : Int) := by have := HP16.out; omega
          have c16 := HM.out.at (k := p16) (by have := HP16.out; omega)
          obtain ⟨x16, HX16⟩ : ∃ x, Hid ((rgrow (rfill blk 16) k)[p16]?.getD 0 = x) := ⟨_, hid rfl⟩
          rw [HX16.out] at c16
          have HT := hid ht
          have HL := hid hl
          have hk1 : t ≤ 1000 := by omega
          clear ht hl
          go_wp2
          go_quiet (fail)
          have HMq : ∀ n, MineW w (U.drewN n) (some ⟨bb, 0, none⟩) c (rgrow (rfill blk 16) k) := HM.out.drewN
          go_wp2_with (first
            | (go_at_call 54; (with_reducible refine (rotr_lit x2 17 17 rfl (by decide) (by decide) _).mono ?_); rintro e w' ⟨rfl, rfl⟩)
            | (go_at_call 54; (with_reducible refine (rotr_lit x2 19 19 rfl (by decide) (by decide) _).mono ?_); rintro e w' ⟨rfl, rfl⟩)
            | (go_at_call 54; (with_reducible refine (rotr_lit x15 7 7 rfl (by decide) (by decide) _).mono ?_); rintro e w' ⟨rfl, rfl⟩)
            | (go_at_call 54; (with_reducible refine (rotr_lit x15 18 18 rfl (by decide) (by decide) _).mono ?_); rintro e w' ⟨rfl, rfl⟩))
          clear z2 z7 z15 z16
          refine wp_region_noPanic ?_
          refine any_begin 19 (by kernel_rfl) (by kernel_rfl) ?_
          refine any_take (i := 0) (some 80) rfl rfl (by kernel_rfl) (by kernel_rfl) (by kernel_rfl) (fun _ _ _ h => h) (by rfl) (v := ?v0) ?hy0 ?rest0
          case hy0 => intro w0; go_simp; try with_reducible rfl
          simp only [Act.put, List.setIfInBounds_toArray, List.set_cons_zero, List.set_cons_succ]
          refine any_take (i := 1) (some 81) rfl rfl (by kernel_rfl) (by kernel_rfl) (by kernel_rfl) (fun _ _ _ h => h) (by rfl) (v := ?v1) ?hy1 ?rest1
          case hy1 => intro w0; go_simp; try with_reducible rfl
          simp only [Act.put, List.setIfInBounds_toArray, List.set_cons_zero, List.set_cons_succ]
          refine any_take (i := 2) (some 82) rfl rfl (by kernel_rfl) (by kernel_rfl) (by kernel_rfl) (fun _ _ _ h => h) (by rfl) (v := ?v2) ?hy2 ?rest2
          case hy2 => intro w0; go_simp; try with_reducible rfl
          simp only [Act.put, List.setIfInBounds_toArray, List.set_cons_zero, List.set_cons_succ]
          refine any_take (i := 3) (some 83) rfl rfl (by kernel_rfl) (by kernel_rfl) (by kernel_rfl) (fun _ _ _ h => h) (by rfl) (v := ?v3) ?hy3 ?rest3
          case hy3 => intro w0; go_simp; try with_reducible rfl
          simp only [Act.put, List.setIfInBounds_toArray, List.set_cons_zero, List.set_cons_succ]
          refine any_take (i := 4) (some 84) rfl rfl (by kernel_rfl) (by kernel_rfl) (by kernel_rfl) (fun _ _ _ h => h) (by rfl) (v := ?v4) ?hy4 ?rest4
          case hy4 => intro w0; go_simp; try with_reducible rfl
          simp only [Act.put, List.setIfInBounds_toArray, List.set_cons_zero, List.set_cons_succ]
          refine any_take (i := 5) (some 85) rfl rfl (by kernel_rfl) (by kernel_rfl) (by kernel_rfl) (fun _ _ _ h => h) (by rfl) (v := ?v5) ?hy5 ?rest5
          case hy5 => intro w0; go_simp; try with_reducible rfl
          simp only [Act.put, List.setIfInBounds_toArray, List.set_cons_zero, List.set_cons_succ]
          refine any_take (i := 8) (some 88) rfl rfl (by kernel_rfl) (by kernel_rfl) (by kernel_rfl) (fun _ _ _ h => h) (by rfl) (v := ?v8) ?hy8 ?rest8
          case hy8 => intro w0; go_simp; try with_reducible rfl
          simp only [Act.put, List.setIfInBounds_toArray, List.set_cons_zero, List.set_cons_succ]
          refine any_take (i := 10) (some 90) rfl rfl (by kernel_rfl) (by kernel_rfl) (by kernel_rfl) (fun _ _ _ h => h) (by rfl) (v := ?v10) ?hy10 ?rest10
          case hy10 => intro w0; go_simp; try with_reducible rfl
          simp only [Act.put, List.setIfInBounds_toArray, List.set_cons_zero, List.set_cons_succ]
          refine any_take (i := 11) (some 91) rfl rfl (by kernel_rfl) (by kernel_rfl) (by kernel_rfl) (fun _ _ _ h => h) (by rfl) (v := ?v11) ?hy11 ?rest11
          case hy11 => intro w0; go_simp; try with_reducible rfl
          simp only [Act.put, List.setIfInBounds_toArray, List.set_cons_zero, List.set_cons_succ]
          refine any_take (i := 12) (some 92) rfl rfl (by kernel_rfl) (by kernel_rfl) (by kernel_rfl) (fun _ _ _ h => h) (by rfl) (v := ?v12) ?hy12 ?rest12
          case hy12 => intro w0; go_simp; try with_reducible rfl
          simp only [Act.put, List.setIfInBounds_toArray, List.set_cons_zero, List.set_cons_succ]
          refine any_take (i := 13) (some 93) rfl rfl (by kernel_rfl) (by kernel_rfl) (by kernel_rfl) (fun _ _ _ h => h) (by rfl) (v := ?v13) ?hy13 ?rest13
          case hy13 => intro w0; go_simp; try with_reducible rfl
          simp only [Act.put, List.setIfInBounds_toArray, List.set_cons_zero, List.set_cons_succ]
          refine any_two (i := 6) (j := 14) (by kernel_rfl) rfl rfl (fun K hK => ?_) (fun K hK => ?_)
          · go_simp
            refine hK _ _ ?_
            clear hK K
            refine any_take (i := 7) (some 87) rfl rfl (by kernel_rfl) (by kernel_rfl) (by kernel_rfl) (fun _ _ _ h => h) (by rfl) (v := ?v7a) ?hy7a ?rest7a
            case hy7a => intro w0; go_simp; try with_reducible rfl
            simp only [Act.put, List.setIfInBounds_toArray, List.set_cons_zero, List.set_cons_succ]
            refine any_take (i := 9) (some 89) rfl rfl (by kernel_rfl) (by kernel_rfl) (by kernel_rfl) (fun _ _ _ h => h) (by rfl) (v := ?v9a) ?hy9a ?rest9a
            case hy9a => intro w0; go_simp; try with_reducible rfl
            simp only [Act.put, List.setIfInBounds_toArray, List.set_cons_zero, List.set_cons_succ]
            refine any_one (i := 14) (by kernel_rfl) rfl (fun K hK => ?_)
            go_simp
            refine hK _ _ ?_
            clear hK K
            refine any_take (i := 15) (some 95) rfl rfl (by kernel_rfl) (by kernel_rfl) (by kernel_rfl) (fun _ _ _ h => h) (by rfl) (v := ?v15a) ?hy15a ?rest15a
            case hy15a => intro w0; go_simp; try with_reducible rfl
            simp only [Act.put, List.setIfInBounds_toArray, List.set_cons_zero, List.set_cons_succ]
            refine any_tail 16 (by kernel_rfl) (fun _ _ _ _ _ h => h) (by kernel_rfl) (by kernel_rfl) ?_
            simp only [List.drop_succ_cons, List.drop_zero]
            go_wp2_with (refine wpList_append_word rfl _ _ rfl (some ⟨bb, 0, none⟩) t c rfl (rgrow (rfill blk 16) k) HL.out ((HMq nq).drew.next (below_new _ _)) (U.drewN nq).drew.heap.size rfl _ ((row_new _ _ _).cell 0) hk1 ?_; intro pa2 c2 W2 hm2; have HM2 := hid hm2; clear hm2)
            refine NoPanic.normal ?_
            go_wp2
            refine ⟨?_, ?measurea⟩
            refine ⟨_, _, _, _, _, _, _, _, _, _, _, _, _, _, _, _, _, _, _, _, _, _, _, _, _, _, _, _, _, _, _, _, _, _, _, _, _, _, _, _, _, _, _, _, _, _, _, _, _, _, _, _, _, _, ?rela, rfl⟩
            case rela =>
              refine ⟨t + 1, k + 1, c2, pa2, by have := HT.out; omega, by have := HT.out; omega, rfl, by go_num, ?_⟩
              have e : rgrow (rfill blk 16) (k + 1) = rgrow (rfill blk 16) k ++ [add32 (add32 (add32 (ls1 x2) x7) (ls0 x15)) x16] := by
                rw [← HX2.out, ← HX7.out, ← HX15.out, ← HX16.out, ← HP2.out, ← HP7.out, ← HP15.out, ← HP16.out, HT.out]; rfl
              rw [e]
              exact HM2
            case measurea => simp [intOf]; omega
          · go_simp
            refine hK _ _ ?_
            clear hK K
            refine any_one (i := 6) (by kernel_rfl) rfl (fun K hK => ?_)
            go_simp
            refine hK _ _ ?_
            clear hK K
            refine any_take (i := 7) (some 87) rfl rfl (by kernel_rfl) (by kernel_rfl) (by kernel_rfl) (fun _ _ _ h => h) (by rfl) (v := ?v7b) ?hy7b ?rest7b
            case hy7b => intro w0; go_simp; try with_reducible rfl
            simp only [Act.put, List.setIfInBounds_toArray, List.set_cons_zero, List.set_cons_succ]
            refine any_take (i := 9) (some 89) rfl rfl (by kernel_rfl) (by kernel_rfl) (by kernel_rfl) (fun _ _ _ h => h) (by rfl) (v := ?v9b) ?hy9b ?rest9b
            case hy9b => intro w0; go_simp; try with_reducible rfl
            simp only [Act.put, List.setIfInBounds_toArray, List.set_cons_zero, List.set_cons_succ]
            refine any_take (i := 15) (some 95) rfl rfl (by kernel_rfl) (by kernel_rfl) (by kernel_rfl) (fun _ _ _ h => h) (by rfl) (v := ?v15b) ?hy15b ?rest15b
            case hy15b => intro w0; go_simp; try with_reducible rfl
            simp only [Act.put, List.setIfInBounds_toArray, List.set_cons_zero, List.set_cons_succ]
            refine any_tail 16 (by kernel_rfl) (fun _ _ _ _ _ h => h) (by kernel_rfl) (by kernel_rfl) ?_
            simp only [List.drop_succ_cons, List.drop_zero]
            go_wp2_with (refine wpList_append_word rfl _ _ rfl (some ⟨bb, 0, none⟩) t c rfl (rgrow (rfill blk 16) k) HL.out ((HMq nq).drew.next (below_new _ _)) (U.drewN nq).drew.heap.size rfl _ ((row_new _ _ _).cell 0) hk1 ?_; intro pa2 c2 W2 hm2; have HM2 := hid hm2; clear hm2)
            refine NoPanic.normal ?_
            go_wp2
            refine ⟨?_, ?measureb⟩
            refine ⟨_, _, _, _, _, _, _, _, _, _, _, _, _, _, _, _, _, _, _, _, _, _, _, _, _, _, _, _, _, _, _, _, _, _, _, _, _, _, _, _, _, _, _, _, _, _, _, _, _, _, _, _, _, _, ?relb, rfl⟩
            case relb =>
              refine ⟨t + 1, k + 1, c2, pa2, by have := HT.out; omega, by have := HT.out; omega, rfl, by go_num, ?_⟩
              have e : rgrow (rfill blk 16) (k + 1) = rgrow (rfill blk 16) k ++ [add32 (add32 (add32 (ls1 x2) x7) (ls0 x15)) x16] := by
                rw [← HX2.out, ← HX7.out, ← HX15.out, ← HX16.out, ← HP2.out, ← HP7.out, ← HP15.out, ← HP16.out, HT.out]; rfl
              rw [e]
              exact HM2
            case measureb => simp [intOf]; omega
        · have hlt' : ¬ (t : Int) < 64 := by omega
          obtain rfl : k = 48 := by omega
          obtain rfl : t = 64 := by omega
          go_wp2
          go_ret
          exact ⟨pa, c, rfl, HM.out⟩
end Go.Proofs.YtojcaoieodogdaaDoor
