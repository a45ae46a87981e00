/- BodyLimits: in each framing a body of just so many bytes as may come is read, and one byte more is too much. -/
import Derived.Test.YtllbdpiihiohoaaDoorLBk
import Derived.Test.YtllbdpiihiohoaaDoorBApp
import Derived.BigQuiet
namespace Go.Proofs.YtllbdpiihiohoaaDoor
open Go.RowKit

theorem exec_slB {a : Act} {o : Oper} (x : Operand) (lo hi : Option Operand) (ho : o.op = .slice 24 x lo hi none) (xv v : Value) (lv hv : Option Value) (hx : a.eval x = xv) (hl : lo.map a.eval = lv) (hh : hi.map a.eval = hv)
    (hr : ∀ W, (Instr.sliceAt 24 xv lv hv none).run Tryd.prog W = .ok v W) (w : World) : (execOp a.eval o).run Tryd.prog w = .ok (.value v) w := by
  unfold execOp
  simp only [ho, Option.map_none, hx, hl, hh, Sem.run_bind, hr, Result.andThen_ok]
  rfl
/-- What the loop finds in memory. -/
structure LimS (w W : World) (n m gF : Nat) (b C : B) (qs qc : Option Addr) (ds dc : Nat) : Prop where
  low : Below w.heap.size w W
  same : Own W w.heap.size (.slice qs n ds) b
  chunks : Own W w.heap.size (.slice qc m dc) C
  frames : W.heap[gF]? = some (.cells #[.int .i64 1, .int .i64 (n : Int), .int .i64 2, .int .i64 0, .int .i64 3, .int .i64 0] 23 (0, 0))
theorem LimS.next {w W W' : World} {n m gF : Nat} {b C : B} {qs qc : Option Addr} {ds dc : Nat} (h : LimS w W n m gF b C qs qc ds dc) (hb : Below W.heap.size W W') : LimS w W' n m gF b C qs qc ds dc :=
  ⟨below_out h.low hb, h.same.keep hb, h.chunks.keep hb, blk_next h.frames hb⟩
set_option maxRecDepth 20000 in
set_option maxHeartbeats 8000000 in
theorem blim_out (p : Option Addr) (n c : Nat) (cut : Int) (w : World) (hE : EnvP w) (hn : decide ((n : Int) < 1) = true ∨ (decide ((n : Int) < 1) = false ∧ decide ((5000 : Int) < (n : Int)) = true)) :
    Calls Tryd.prog 5 #[.slice p n c, .int .i64 cut] w fun e w' => e = .returned (.bool true) ∧ Below w.heap.size w w' := by
  have HSu := hid (sure_any w hE)
  clear hE
  go_enter Tryd.func5, Tryd.ntmps5
  rcases hn with h1 | ⟨h1, h2⟩
  · go_wp2_with (go_at_call 8; (with_reducible refine HSu.out.mono ?_); rintro e w1 ⟨rfl, hb⟩; have HB := hid hb; clear hb)
    go_ret
    exact ⟨rfl, HB.out⟩
  · go_wp2_with (go_at_call 8; (with_reducible refine HSu.out.mono ?_); rintro e w1 ⟨rfl, hb⟩; have HB := hid hb; clear hb)
    go_ret
    exact ⟨rfl, HB.out⟩
set_option maxRecDepth 20000 in
set_option maxHeartbeats 16000000 in
theorem blim_in (b : B) (p : Option Addr) (n c : Nat) (cut : Int) (i : Nat) (hSl : SlOk p n c b) (hnn : n ≤ 5000) (w : World) (ha : ArgAt w p b) (hE : EnvP w) (hEe : EnvE w) (hn0 : 0 < n) (hi : (IntKind.u64.wrap cut).tmod (n : Int) = (i : Int)) (hil : i ≤ n) :
    Calls Tryd.prog 5 #[.slice p n c, .int .i64 cut] w fun e w' => e = .returned (.bool true) ∧ Below w.heap.size w w' := by
  have hd1 : decide ((n : Int) < 1) = false := decide_eq_false (by omega)
  have hd2 : decide ((5000 : Int) < (n : Int)) = false := decide_eq_false (by omega)
  have HI : Value.int .i64 (wrap64 ((IntKind.u64.wrap cut).tmod (n : Int))) = .int .i64 (i : Int) := by rw [hi, wrap_small (i := i) (x := n) hil (by omega)]
  have hnI : (0 : Int) < (n : Int) := by omega
  have hdz : ¬ IntKind.u64.wrap (n : Int) = 0 := by rw [wrapU (by omega)]; omega
  have hdz2 : (IntKind.u64.wrap (n : Int) == 0) = false := by simpa using hdz
  have hn := hSl.len
  obtain ⟨qa, da, hqa, Pa⟩ := part_h hSl i hil
  obtain ⟨qb, db, hqb, Pb⟩ := part_l hSl i hil
  obtain ⟨b1, hb1⟩ : ∃ b1, (b.drop 0).take i = b1 := ⟨_, rfl⟩
  obtain ⟨b2, hb2⟩ : ∃ b2, (b.drop i).take (n - i) = b2 := ⟨_, rfl⟩
  have hcat : b1 ++ b2 = b := by
    rw [← hb1, ← hb2]
    rw [List.drop_zero, List.take_of_length_le (l := b.drop i) (by rw [List.length_drop]; omega), List.take_append_drop]
  have hl1 : b1.length = i := by rw [← hb1, List.length_take, List.drop_zero]; omega
  have hl2 : b2.length = n - i := by rw [← hb2, List.length_take, List.length_drop]; omega
  have hl3 : (b1 ++ b2).length = n := by rw [hcat]; exact hn
  obtain ⟨e1, he1⟩ : ∃ e1, (encK b1).length = e1 := ⟨_, rfl⟩
  obtain ⟨e2, he2⟩ : ∃ e2, (encK b2).length = e2 := ⟨_, rfl⟩
  have hm1 : e1 ≤ 10000 := by have := encK_max b1 (by omega); omega
  have hm2 : e2 ≤ 10000 := by have := encK_max b2 (by omega); omega
  obtain ⟨m, hm⟩ : ∃ m, e1 + e2 + 5 = m := ⟨_, rfl⟩
  have hml : m ≤ 20005 := by omega
  have HEa := hid (fun (W : World) (hb : Below w.heap.size w W) => (show Calls Tryd.prog 15 #[.slice qa i da] W (fun e w' => ∃ q d, e = .returned (.slice q e1 d) ∧ ArgAt w' q (encK b1) ∧ (q = none → d = 0) ∧ Below W.heap.size W w') from by have h9 := encd_any b1 qa i da hl1 (by omega) W (by have h8 := Pa.arg W (ha.next hb); rw [hb1] at h8; exact h8); rw [he1] at h9; exact h9))
  have HEb := hid (fun (W : World) (hb : Below w.heap.size w W) => (show Calls Tryd.prog 15 #[.slice qb (n - i) db] W (fun e w' => ∃ q d, e = .returned (.slice q e2 d) ∧ ArgAt w' q (encK b2) ∧ (q = none → d = 0) ∧ Below W.heap.size W w') from by have h9 := encd_any b2 qb (n - i) db hl2 (by omega) W (by have h8 := Pb.arg W (ha.next hb); rw [hb2] at h8; exact h8); rw [he2] at h9; exact h9))
  have u0 := back_1 hn (by omega) []
  have v0 := back_2 hl3 (by omega) []
  rw [List.append_nil] at u0 v0
  obtain ⟨u1, u2, u3⟩ := u0
  obtain ⟨v1, v2, v3⟩ := v0
  obtain ⟨x1, x2, x3⟩ := back_3 hn (by omega)
  have y1 := much_1 (n := n) (by omega) hn0 b
  have y2 := much_2 hl3 (by omega) hn0 lastC
  have y3 := much_3 hn (by omega) hn0
  rw [hcat] at v2
  have hE3 : (encK b1 ++ encK b2).length = e1 + e2 := by rw [List.length_append, he1, he2]
  obtain ⟨C, hC⟩ : ∃ C, (encK b1 ++ encK b2) ++ lastC = C := ⟨_, rfl⟩
  rw [hC] at v1 v2 v3 y2
  have HWa := hid (fun (gF : Nat) (qs qc : Option Addr) (ds dc : Nat) (W : World) (h : LimS w W n m gF b C qs qc ds dc) => whole_yes 1 (n : Int) (n : Int) (by omega) b qs n ds hn h.same.cap (own_nil h.same) (by omega) W h.same.arg (hE.next h.low) u1 u2 hn u3)
  have HEa1 := hid (fun (gF : Nat) (qs qc : Option Addr) (ds dc : Nat) (W : World) (h : LimS w W n m gF b C qs qc ds dc) => whole_err 1 (n : Int) ((n : Int) - 1) (by omega) b qs n ds hn h.same.cap (own_nil h.same) (by omega) W h.same.arg (hE.next h.low) y1 (by decide))
  obtain ⟨T2, hT2⟩ : ∃ T2, tookX (newX 2 0 (n : Int)) C = T2 := ⟨_, rfl⟩
  have HWb := hid (fun (gF : Nat) (qs qc : Option Addr) (ds dc : Nat) (W : World) (h : LimS w W n m gF b C qs qc ds dc) => whole_yes 2 0 (n : Int) (by omega) C qc m dc (slice_part h.chunks) h.chunks.cap (own_nil h.chunks) (by omega) W h.chunks.arg (hE.next h.low) v1 v2 hn hT2)
  have HEb1 := hid (fun (gF : Nat) (qs qc : Option Addr) (ds dc : Nat) (W : World) (h : LimS w W n m gF b C qs qc ds dc) => whole_err 2 0 ((n : Int) - 1) (by omega) C qc m dc (slice_part h.chunks) h.chunks.cap (own_nil h.chunks) (by omega) W h.chunks.arg (hE.next h.low) y2 (by decide))
  have HWc := hid (fun (gF : Nat) (qs qc : Option Addr) (ds dc : Nat) (W : World) (h : LimS w W n m gF b C qs qc ds dc) => whole_yes 3 0 (n : Int) (by omega) b qs n ds hn h.same.cap (own_nil h.same) (by omega) W h.same.arg (hE.next h.low) x1 x2 hn x3)
  have HEc1 := hid (fun (gF : Nat) (qs qc : Option Addr) (ds dc : Nat) (W : World) (h : LimS w W n m gF b C qs qc ds dc) => whole_err 3 0 ((n : Int) - 1) (by omega) b qs n ds hn h.same.cap (own_nil h.same) (by omega) W h.same.arg (hE.next h.low) y3 (by decide))
  have HCa := hid (fun (W : World) (hb : Below w.heap.size w W) => convA (d := c) (ha.next hb) hn)
  have HSu0 := hid (fun (W : World) (hb : Below w.heap.size w W) => sure_any W (hE.next hb))
  have HNm := hid (fun (W : World) (hb : Below w.heap.size w W) => (show Calls Tryd.prog 7 #[.iface 47 (.int .i64 33)] W (fun e w' => e = .returned (.int .i64 33) ∧ Below W.heap.size W w') from num_err 33 W (hEe.next hb)))
  push_cast at HEa1 HEb1 HEc1
  obtain ⟨T, hT⟩ : ∃ T, str b = T := ⟨_, rfl⟩
  rw [hT] at HCa
  have HT := hid hT
  have HSl := hid hSl
  have HA := hid ha
  have HQa := hid hqa
  have HQb := hid hqb
  have HEl1 := hid he1
  have HEl2 := hid he2
  have HEl3 := hid hE3
  have Hm := hid hm
  have HCC := hid hC
  clear hSl ha hE hEe hqa Pa hqb Pb hb1 hb2 hcat hl1 hl2 hl3 he1 he2 u1 u2 u3 v1 v2 v3 x1 x2 x3 y1 y2 y3 hE3 hT hm hn hn0 hi hC hT2
  go_enter Tryd.func5, Tryd.ntmps5
  go_wp2_with (at_builtin; refine wpList_copy rfl (.tmp 33) (.tmp 34) rfl (by go_simp) b p n c (by go_simp) HSl.out.len HA.out HSl.out.nil (by omega) ?_; intro q1 d1 w1 ho hb _ _; have HO1 := hid ho; have HB1 := hid hb; clear ho hb)
  refine wp_region_noPanic ?_
  refine any_begin 13 (by kernel_rfl) (by kernel_rfl) ?_
  refine any_take (i := 0) (some 36) rfl rfl (by kernel_rfl) (by kernel_rfl) (by kernel_rfl) (fun _ _ _ h => h) (by rfl) (v := ?v0u) ?hy0u ?rest0u
  case hy0u => intro w0; go_simp; try with_reducible rfl
  simp only [Act.put, List.setIfInBounds_toArray, List.set_cons_zero, List.set_cons_succ]
  refine any_take (i := 1) (some 37) rfl rfl (by kernel_rfl) (by kernel_rfl) (by kernel_rfl) (fun _ _ _ h => h) (by rfl) (v := ?v1u) ?hy1u ?rest1u
  case hy1u => intro w0; go_simp; try with_reducible rfl
  simp only [Act.put, List.setIfInBounds_toArray, List.set_cons_zero, List.set_cons_succ]
  refine any_take (i := 2) (some 38) rfl rfl (by kernel_rfl) (by kernel_rfl) (by kernel_rfl) (fun _ _ _ h => h) (by rfl) (v := ?v2u) ?hy2u ?rest2u
  case hy2u => intro w0; go_simp; try with_reducible rfl
  simp only [Act.put, List.setIfInBounds_toArray, List.set_cons_zero, List.set_cons_succ]
  refine any_take (i := 3) (some 39) rfl rfl (by kernel_rfl) (by kernel_rfl) (by kernel_rfl) (fun _ _ _ h => h) (by rfl) (v := .slice qa i da) ?hy3u ?rest3u
  case hy3u => intro w0; exact exec_slB (.tmp 37) none (some (.tmp 38)) rfl (.slice p n c) (.slice qa i da) none (some (.int .i64 (i : Int))) rfl rfl (by go_simp) HQa.out w0
  simp only [Act.put, List.setIfInBounds_toArray, List.set_cons_zero, List.set_cons_succ]
  refine any_take (i := 6) (some 42) rfl rfl (by kernel_rfl) (by kernel_rfl) (by kernel_rfl) (fun _ _ _ h => h) (by rfl) (v := ?v6u) ?hy6u ?rest6u
  case hy6u => intro w0; go_simp; try with_reducible rfl
  simp only [Act.put, List.setIfInBounds_toArray, List.set_cons_zero, List.set_cons_succ]
  refine any_take (i := 7) (some 43) rfl rfl (by kernel_rfl) (by kernel_rfl) (by kernel_rfl) (fun _ _ _ h => h) (by rfl) (v := ?v7u) ?hy7u ?rest7u
  case hy7u => intro w0; go_simp; try with_reducible rfl
  simp only [Act.put, List.setIfInBounds_toArray, List.set_cons_zero, List.set_cons_succ]
  refine any_take (i := 8) (some 44) rfl rfl (by kernel_rfl) (by kernel_rfl) (by kernel_rfl) (fun _ _ _ h => h) (by rfl) (v := .slice qb (n - i) db) ?hy8u ?rest8u
  case hy8u => intro w0; exact exec_slB (.tmp 42) (some (.tmp 43)) none rfl (.slice p n c) (.slice qb (n - i) db) (some (.int .i64 (i : Int))) none rfl (by go_simp) rfl HQb.out w0
  simp only [Act.put, List.setIfInBounds_toArray, List.set_cons_zero, List.set_cons_succ]
  refine any_one (i := 4) (by kernel_rfl) rfl (fun K hK => ?_)
  go_simp
  go_at_call 15
  refine (HEa.out _ HB1.out.drew).mono ?_
  rintro e w4 ⟨q4, d4, rfl, ha4, hn4, hb⟩
  have HA4 := hid ha4
  have HN4 := hid hn4
  have HB4 := hid (below_out HB1.out.drew hb)
  have HO4 := hid ((HO1.out.keep (Below.refl _ _).drew).keep hb)
  refine hK _ _ ?_
  clear hK K hb ha4 hn4
  refine any_one (i := 5) (by kernel_rfl) rfl (fun K hK => ?_)
  rw [if_pos (by rfl)]
  refine wp_append_any (.tmp 36) (.tmp 40) rfl w4.heap.size (.slice none 0 0) 0 [] (encK b1) (by go_simp) (Own.nil _ _) rfl q4 e1 d4 (by go_simp) HEl1.out HA4.out HN4.out (by omega) (Nat.le_refl _) ?_
  intro q5 d5 w5 ho hg _
  rw [Nat.zero_add] at ho ⊢
  rw [List.nil_append] at ho
  have HC := hid ho
  have HR := hid (show Below w4.heap.size w4 w5 from below_grown hg)
  show K (Act.put _ (some 41) _) _
  refine hK _ _ ?_
  clear hK K ho hg
  simp only [Act.put, List.setIfInBounds_toArray, List.set_cons_zero, List.set_cons_succ]
  refine any_one (i := 9) (by kernel_rfl) rfl (fun K hK => ?_)
  go_simp
  go_at_call 15
  refine (HEb.out _ (HB4.out.trans (HR.out.mono HB4.out.size))).mono ?_
  rintro e w6 ⟨q6, d6, rfl, ha6, hn6, hb⟩
  have HA6 := hid ha6
  have HN6 := hid hn6
  replace HR := hid (below_out HR.out hb)
  replace HC := hid (HC.out.keep hb)
  refine hK _ _ ?_
  clear hK K hb ha6 hn6
  refine any_one (i := 10) (by kernel_rfl) rfl (fun K hK => ?_)
  rw [if_pos (by rfl)]
  refine wp_append_any (.tmp 41) (.tmp 45) rfl w4.heap.size (.slice q5 e1 d5) e1 (encK b1) (encK b2) (by go_simp) HC.out HEl1.out q6 e2 d6 (by go_simp) HEl2.out HA6.out HN6.out (by omega) HR.out.size ?_
  intro q7 d7 w7 ho hg _
  replace HR := hid (HR.out.trans (Own.below HC.out HR.out.size hg))
  have HC7 := hid ho
  show K (Act.put _ (some 46) _) _
  refine hK _ _ ?_
  clear hK K ho hg
  simp only [Act.put, List.setIfInBounds_toArray, List.set_cons_zero, List.set_cons_succ]
  refine any_one (i := 11) (by kernel_rfl) rfl (fun K hK => ?_)
  rw [if_pos (by rfl)]
  refine wp_app_S (.tmp 46) (.const (.string ⟨#[48, 13, 10, 13, 10]⟩)) rfl w4.heap.size (.slice q7 (e1 + e2) d7) (e1 + e2) 5 m (encK b1 ++ encK b2) lastC (by go_simp) HC7.out HEl3.out rfl Hm.out rfl (by omega) HR.out.size ?_
  intro q8 d8 w8 ho hg
  replace HR := hid (HR.out.trans (Own.below HC7.out HR.out.size hg))
  have HC8 := hid (own_base ho HB4.out.size)
  have HB8 := hid (HB4.out.trans (HR.out.mono HB4.out.size))
  have HO8 := hid (HO4.out.keep HR.out)
  show K (Act.put _ (some 47) _) _
  refine hK _ _ ?_
  clear hK K ho hg
  simp only [Act.put, List.setIfInBounds_toArray, List.set_cons_zero, List.set_cons_succ]
  refine any_take (i := 12) (some 6) rfl rfl (by kernel_rfl) (by kernel_rfl) (by kernel_rfl) (fun _ _ _ h => h) (by rfl) (v := ?v12u) ?hy12u ?rest12u
  case hy12u => intro w0; go_simp; try with_reducible rfl
  simp only [Act.put, List.setIfInBounds_toArray, List.set_cons_zero, List.set_cons_succ]
  refine any_done (by kernel_rfl) ?_ _
  refine NoPanic.normal ?_
  have HLs := hid (show LimS w (w8.alloc (.cells #[.int .i64 1, .int .i64 (n : Int), .int .i64 2, .int .i64 0, .int .i64 3, .int .i64 0] 23 (0, 0))) n m w8.heap.size b C q1 q8 d1 d8 from ⟨below_out HB8.out (below_new _ _), HO8.out.keep (below_new _ _), (by rw [← HCC.out]; exact HC8.out.keep (below_new _ _)), heap_alloc_new _ _⟩)
  go_wp2
  go_loopg [9] 4 (fun gk s9 wr => ∃ i : Nat, s9 = .int .i64 (i : Int) ∧ i ≤ 3 ∧ gk = 3 - i + 1 ∧ LimS w wr n m w8.heap.size b C q1 q8 d1 d8)
  case atStart => exact ⟨0, rfl, by omega, rfl, HLs.out⟩
  case round =>
    obtain ⟨j, rfl, hj, rfl, hL⟩ := hrel
    rename World => wr
    have HL := hid hL
    obtain ⟨y0, y1, y2, y3, y4, y5, _⟩ := cells6 hL.frames
    clear hL
    have h4 : j = 0 ∨ j = 1 ∨ j = 2 ∨ j = 3 := by omega
    rcases h4 with hi0 | hi1 | hi2 | hi3
    · subst hi0
      go_wp2_with (first | (go_at_call 14; (with_reducible refine (HWa.out _ _ _ _ _ wr HL.out).mono ?_); rintro e u1 ⟨q1, d1, rfl, ho, hb⟩; have HX := hid ho; have HL1 := hid (HL.out.next hb); obtain ⟨z0, z1, z2, z3, z4, z5, _⟩ := cells6 HL1.out.frames; clear ho hb HWa) | (go_at_call 14; (with_reducible refine (HEa1.out _ _ _ _ _ u1 HL1.out).mono ?_); rintro e u2 ⟨rfl, hb⟩; have c1 := conv_own (HX.out.keep hb); rw [HT.out] at c1; have HL2 := hid (HL1.out.next hb); have c2 := HCa.out u2 HL2.out.low; have HNu := hid (HNm.out u2 HL2.out.low); clear hb HEa1) | (go_at_call 7; (with_reducible refine HNu.out.mono ?_); rintro e u3 ⟨rfl, hb⟩; have HL3 := hid (HL2.out.next hb); clear hb HNu))
      go_roundg 3
      case measure => omega
      case rel => exact ⟨1, by go_num, by omega, by omega, HL3.out⟩
    · subst hi1
      go_wp2_with (first | (go_at_call 14; (with_reducible refine (HWb.out _ _ _ _ _ wr HL.out).mono ?_); rintro e u1 ⟨q1, d1, rfl, ho, hb⟩; have HX := hid ho; have HL1 := hid (HL.out.next hb); obtain ⟨z0, z1, z2, z3, z4, z5, _⟩ := cells6 HL1.out.frames; clear ho hb HWb) | (go_at_call 14; (with_reducible refine (HEb1.out _ _ _ _ _ u1 HL1.out).mono ?_); rintro e u2 ⟨rfl, hb⟩; have c1 := conv_own (HX.out.keep hb); rw [HT.out] at c1; have HL2 := hid (HL1.out.next hb); have c2 := HCa.out u2 HL2.out.low; have HNu := hid (HNm.out u2 HL2.out.low); clear hb HEb1) | (go_at_call 7; (with_reducible refine HNu.out.mono ?_); rintro e u3 ⟨rfl, hb⟩; have HL3 := hid (HL2.out.next hb); clear hb HNu))
      go_roundg 2
      case measure => omega
      case rel => exact ⟨2, by go_num, by omega, by omega, HL3.out⟩
    · subst hi2
      go_wp2_with (first | (go_at_call 14; (with_reducible refine (HWc.out _ _ _ _ _ wr HL.out).mono ?_); rintro e u1 ⟨q1, d1, rfl, ho, hb⟩; have HX := hid ho; have HL1 := hid (HL.out.next hb); obtain ⟨z0, z1, z2, z3, z4, z5, _⟩ := cells6 HL1.out.frames; clear ho hb HWc) | (go_at_call 14; (with_reducible refine (HEc1.out _ _ _ _ _ u1 HL1.out).mono ?_); rintro e u2 ⟨rfl, hb⟩; have c1 := conv_own (HX.out.keep hb); rw [HT.out] at c1; have HL2 := hid (HL1.out.next hb); have c2 := HCa.out u2 HL2.out.low; have HNu := hid (HNm.out u2 HL2.out.low); clear hb HEc1) | (go_at_call 7; (with_reducible refine HNu.out.mono ?_); rintro e u3 ⟨rfl, hb⟩; have HL3 := hid (HL2.out.next hb); clear hb HNu))
      go_roundg 1
      case measure => omega
      case rel => exact ⟨3, by go_num, by omega, by omega, HL3.out⟩
    · subst hi3
      have HSu := hid (HSu0.out wr HL.out.low)
      go_wp2_with (go_at_call 8; (with_reducible refine HSu.out.mono ?_); rintro e u1 ⟨rfl, hb⟩; have HB9 := hid (below_out HL.out.low hb); clear hb)
      go_ret
      exact ⟨rfl, HB9.out⟩
theorem blim_any (b : B) (p : Option Addr) (n c : Nat) (cut : Int) (hSl : SlOk p n c b) (w : World) (ha : ArgAt w p b) (hE : EnvP w) (hEe : EnvE w) :
    Calls Tryd.prog 5 #[.slice p n c, .int .i64 cut] w fun e w' => e = .returned (.bool true) ∧ Below w.heap.size w w' := by
  by_cases h0 : n = 0
  · exact blim_out p n c cut w hE (.inl (decide_eq_true (by omega)))
  · by_cases h5 : 5000 < n
    · exact blim_out p n c cut w hE (.inr ⟨decide_eq_false (by omega), decide_eq_true (by omega)⟩)
    · obtain ⟨i, hi, hlt⟩ := cut_at cut (x := n) (by omega)
      exact blim_in b p n c cut i hSl (by omega) w ha hE hEe (by omega) hi (by omega)
end Go.Proofs.YtllbdpiihiohoaaDoor
