/- The program's shortest text of a target's parts, and Text. -/
import Derived.Test.YtbdbmlklijmefaaDoorRParse2
namespace Go.Proofs.YtbdbmlklijmefaaDoor
open Go.RowKit

theorem wp_append_own_string {P : Program} {w : World} {o : Oper} {a : Act} {K : Act → World → Prop} {Q : Exit → Act → World → Prop} (sl x : Operand) (t u : TypeId)
    (ho : o.op = .call { callee := .builtin .append, args := #[sl, x], argTypes := #[t, u] })
    (base : Nat) (e : TypeId) (i : TypeInfo) (ht : P.underlying t = some (.slice e)) (hu : P.underlying u = some .string) (hi : P.info? e = some i) (hz : i.zero = some (.int .u8 0))
    (hsize : i.size = 1) (hby : i.bytes = 1)
    (v : Value) (n : Nat) (xs : List Value) (hs : a.eval sl = v) (hown : w.ownsRow base e 1 v n xs) (s : ByteArray) (hx : a.eval x = .string s)
    (h63 : n + s.size ≤ maxLen) (hbytes : n + s.size ≤ 140737488355328) (hbase : base ≤ w.heap.size)
    (h : ∀ v' w', w'.ownsRow base e 1 v' (n + s.size) (xs ++ Lib.strCells s) → w.grownBy w' v.ownBlock → K (a.put o.dst v') w') : o.wp P a w K Q := by
  obtain ⟨v', w', hr, h2, h3, _⟩ := Lib.run_append_own_string (P := P) w base t u o.type e i ht hu hi hz hsize hby v n xs hown s h63 hbytes hbase
  unfold Oper.wp execOp
  simp only [ho, resolve, invoke, builtin, Sem.run_bind, Sem.run_pure, Result.andThen_ok, List.map_toArray, List.map_cons, List.map_nil, hs, hx, hr]
  exact h v' w' h2 h3
/-- The box of the parts, and what is above it. -/
structure BX (w W : World) (cs : Array Value) : Prop where
  box : W.heap[w.heap.size]? = some (.cells cs 23 (0, 0))
  low : Below w.heap.size w W
theorem BX.start (w : World) (cs : Array Value) : BX w (w.alloc (.cells cs 23 (0, 0))) cs := ⟨heap_alloc_new w _, below_new w _⟩
theorem BX.lt {w W : World} {cs : Array Value} (h : BX w W cs) : w.heap.size + 1 ≤ W.heap.size := lt_of_heap h.box
theorem BX.up {w W V : World} {cs : Array Value} (h : BX w W cs) (hb : Below (w.heap.size + 1) W V) : BX w V cs := ⟨(hb.block _ (Nat.lt_succ_self _)).trans h.box, h.low.trans (hb.mono (Nat.le_succ _))⟩
theorem BX.next {w W : World} {cs : Array Value} (h : BX w W cs) (o : Obj) : BX w (W.alloc o) cs := h.up ((below_new W o).mono h.lt)
theorem BX.drew {w W : World} {cs : Array Value} (h : BX w W cs) : BX w W.drew cs := ⟨h.box, ⟨h.low.os, h.low.tape, h.low.output, h.low.size, h.low.block⟩⟩
set_option maxRecDepth 20000 in
set_option maxHeartbeats 8000000 in
theorem short_two_root_q (tf : Int) (th tp tq : B) (ths : Bool) (hf : tf = 2) (hp : tp = [47]) (hh : ths = true) (hsz : th.length + tp.length + tq.length ≤ 70368744177664) (w : World) : Calls Tryd.prog 34 #[tgV ⟨tf, th, tp, tq, ths⟩] w fun e w' => e = .returned (.string (str (shortT ⟨tf, th, tp, tq, ths⟩))) ∧ Below w.heap.size w w' := by
  unfold tgV
  dsimp only
  obtain ⟨i0, hi0, hz0, hz1, hz2⟩ := info_parts infoB
  have HX0 := hid (BX.start w #[.int .i64 tf, .string (str th), .string (str tp), .string (str tq), .bool ths])
  obtain ⟨lh, hlh⟩ : ∃ lh, th.length = lh := ⟨_, rfl⟩
  obtain ⟨lp, hlp⟩ : ∃ lp, tp.length = lp := ⟨_, rfl⟩
  obtain ⟨lq, hlq⟩ : ∃ lq, tq.length = lq := ⟨_, rfl⟩
  rw [hlh, hlp, hlq] at hsz
  have HLh := hid hlh
  have HLp := hid hlp
  have HLq := hid hlq
  obtain ⟨c1, hc1⟩ : ∃ c1, str th = c1 := ⟨_, rfl⟩
  obtain ⟨c2, hc2⟩ : ∃ c2, str tp = c2 := ⟨_, rfl⟩
  obtain ⟨c3, hc3⟩ : ∃ c3, str tq = c3 := ⟨_, rfl⟩
  have HC1 := hid hc1
  have HC2 := hid hc2
  have HC3 := hid hc3
  have HZ1 := hid (show c1.size = lh from by rw [← hc1, str_size, hlh])
  have HZ2 := hid (show c2.size = lp from by rw [← hc2, str_size, hlp])
  have HZ3 := hid (show c3.size = lq from by rw [← hc3, str_size, hlq])
  rw [hc1, hc2, hc3] at HX0 ⊢
  have HV := hid (show shortT ⟨tf, th, tp, tq, ths⟩ = (httpB ++ th ++ []) ++ (if ths then 63 :: tq else []) from by unfold shortT; simp only; rw [hf, if_neg (by decide), if_pos rfl, if_pos hp])
  subst hf
  subst hh
  obtain rfl : c2 = ⟨#[47]⟩ := by rw [← hc2, hp]
  have HL7 := hid (show ((httpB ++ th) ++ []).length = 7 + lh + 0 from by rw [List.length_append, List.length_append, hlh]; rfl)
  have HL6 := hid (show (httpB ++ th).length = 7 + lh from by rw [List.length_append, hlh]; rfl)
  clear hlh hlp hlq hc1 hc2 hc3 hp
  go_enter Tryd.func34, Tryd.ntmps34
  go_wp2
  refine wp_region_noPanic ?_
  refine any_begin 6 (by kernel_rfl) (by kernel_rfl) ?_
  refine any_take (i := 0) (some 13) rfl rfl (by kernel_rfl) (by kernel_rfl) (by kernel_rfl) (fun _ _ _ h => h) (by rfl) (v := ?v0a) ?hy0a ?rest0a
  case hy0a => intro w0; go_simp; try with_reducible rfl
  simp only [Act.put, List.setIfInBounds_toArray, List.set_cons_zero, List.set_cons_succ]
  refine any_take (i := 2) (some 15) rfl rfl (by kernel_rfl) (by kernel_rfl) (by kernel_rfl) (fun _ _ _ h => h) (by rfl) (v := ?v2a) ?hy2a ?rest2a
  case hy2a => intro w0; go_simp; try with_reducible rfl
  simp only [Act.put, List.setIfInBounds_toArray, List.set_cons_zero, List.set_cons_succ]
  refine late_begin (fun W => W.cell? ⟨w.heap.size, 1, none⟩ = some (.string c1)) (fun j => decide (4 ≤ j)) (five HX0.out.drew.box).a1 (fun hS => ?_)
  refine late_take (i := 3) (some 16) rfl rfl (by kernel_rfl) (by kernel_rfl) (by kernel_rfl) (by kernel_rfl) (by kernel_rfl) (fun _ _ _ h => h) (by rfl) (v := ?v3a) ?hy3a hS ?rest3a
  case hy3a => intro w0 hSw; (try dsimp only at hSw); go_simp; try with_reducible rfl
  simp only [Act.put, List.setIfInBounds_toArray, List.set_cons_zero, List.set_cons_succ]
  refine wpAnyD_one (i := 1) (by kernel_rfl) rfl (fun K hK => ?_)
  rw [if_pos (by rfl)]
  refine wp_append_own_string (.tmp 13) (.const (.string ⟨#[104, 116, 116, 112, 58, 47, 47]⟩)) 63 9 rfl (w.heap.size + 1) 5 i0 Tryd.underlying63 Tryd.underlying9 hi0 hz0 hz1 hz2 (.slice none 0 0) 0 (Lib.byteCells []) (by go_simp) (Own.nil _ _) ⟨#[104, 116, 116, 112, 58, 47, 47]⟩ (by go_simp) (by decide) (by decide) HX0.out.drew.lt ?_
  intro v' w5 hown hgr
  have hown2 := hid (show Own w5 (w.heap.size + 1) v' httpB from hown)
  have HX5 := hid (HX0.out.drew.up (Own.below (acc := []) (Own.nil _ _) HX0.out.drew.lt hgr))
  obtain ⟨p5, L5, d5, rfl⟩ := own_slice3 hown
  clear hown hgr
  show K (Act.put _ (some 14) (.slice p5 L5 d5)) w5
  refine hK _ _ ⟨fun _ => (five HX5.out.box).a1, ?_⟩
  clear hK K
  simp only [Act.put, List.setIfInBounds_toArray, List.set_cons_zero, List.set_cons_succ]
  refine wpAnyD_one (i := 4) (by kernel_rfl) rfl (fun K hK => ?_)
  rw [if_pos (by rfl)]
  refine wp_append_own_string (.tmp 14) (.tmp 16) 63 9 rfl (w.heap.size + 1) 5 i0 Tryd.underlying63 Tryd.underlying9 hi0 hz0 hz1 hz2 (.slice p5 L5 d5) 7 (Lib.byteCells httpB) (by go_simp) hown2.out c1 (by go_simp) (by rw [HZ1.out]; unfold maxLen; omega) (by rw [HZ1.out]; omega) HX5.out.lt ?_
  intro v' w6 hown hgr
  have HO6 := hid (show Own w6 (w.heap.size + 1) v' (httpB ++ th) from Own.put (acc := httpB) (bs := th) hown (by rw [← HC1.out, strCells_str]) (by rw [HZ1.out, HLh.out]))
  have HX6 := hid (HX5.out.up (Own.below hown2.out HX5.out.lt hgr))
  obtain ⟨p6, L6, d6, rfl⟩ := own_slice3 hown
  clear hown hgr
  show K (Act.put _ (some 17) (.slice p6 L6 d6)) w6
  refine hK _ _ ⟨fun h => absurd h (by decide), ?_⟩
  clear hK K
  simp only [Act.put, List.setIfInBounds_toArray, List.set_cons_zero, List.set_cons_succ]
  refine wpAnyD_one (i := 5) (by kernel_rfl) rfl (fun K hK => ?_)
  go_simp
  refine hK _ _ ⟨fun h => absurd h (by decide), ?_⟩
  clear hK K
  refine late_done (by kernel_rfl) ?_ _
  refine NoPanic.normal ?_
  go_wp2_with (at_builtin; refine Lib.wpList_append_own_string _ rfl (.tmp 20) (.tmp 21) 63 9 rfl (w.heap.size + 1) 5 i0 Tryd.underlying63 Tryd.underlying9 hi0 hz0 hz1 hz2 (.slice p6 L6 d6) (7 + lh) (Lib.byteCells (httpB ++ th)) (by go_simp) (by have h8 := HO6.out; unfold Own at h8; rw [HL6.out] at h8; exact h8) ⟨#[]⟩ (by go_simp) (by show 7 + lh + 0 ≤ maxLen; unfold maxLen; omega) (by show 7 + lh + 0 ≤ 140737488355328; omega) HX6.out.lt ?_; intro v' w7 hown hgr _; have HO7 := hid (show Own w7 (w.heap.size + 1) v' (httpB ++ th ++ []) from Own.put (acc := httpB ++ th) (bs := []) (by rw [HL6.out]; exact hown) rfl rfl); have HX7 := hid (HX6.out.up (Own.below HO6.out HX6.out.lt hgr)); obtain ⟨p7, L7, d7, rfl⟩ := own_slice3 hown; obtain ⟨x0, x1, x2, x3, x4, xz⟩ := five HX7.out.box; clear hown hgr xz)
  refine wp_region_noPanic ?_
  refine any_begin 7 (by kernel_rfl) (by kernel_rfl) ?_
  refine any_take (i := 0) (some 25) rfl rfl (by kernel_rfl) (by kernel_rfl) (by kernel_rfl) (fun _ _ _ h => h) (by rfl) (v := ?v0b) ?hy0b ?rest0b
  case hy0b => intro w0; go_simp; try with_reducible rfl
  simp only [Act.put, List.setIfInBounds_toArray, List.set_cons_zero, List.set_cons_succ]
  refine any_take (i := 3) (some 28) rfl rfl (by kernel_rfl) (by kernel_rfl) (by kernel_rfl) (fun _ _ _ h => h) (by rfl) (v := ?v3b) ?hy3b ?rest3b
  case hy3b => intro w0; go_simp; try with_reducible rfl
  simp only [Act.put, List.setIfInBounds_toArray, List.set_cons_zero, List.set_cons_succ]
  refine late_begin (fun W => W.cell? ⟨w.heap.size, 3, none⟩ = some (.string c3)) (fun j => decide (5 ≤ j)) (five HX7.out.drew.box).a3 (fun hS => ?_)
  refine late_take (i := 4) (some 29) rfl rfl (by kernel_rfl) (by kernel_rfl) (by kernel_rfl) (by kernel_rfl) (by kernel_rfl) (fun _ _ _ h => h) (by rfl) (v := ?v4b) ?hy4b hS ?rest4b
  case hy4b => intro w0 hSw; (try dsimp only at hSw); go_simp; try with_reducible rfl
  simp only [Act.put, List.setIfInBounds_toArray, List.set_cons_zero, List.set_cons_succ]
  refine wpAnyD_one (i := 1) (by kernel_rfl) rfl (fun K hK => ?_)
  go_simp
  have HX8 := hid (HX7.out.drew.next (.cells #[.int .u8 63] 5 (0, 0)))
  refine hK _ _ ⟨fun _ => (five HX8.out.box).a3, ?_⟩
  clear hK K
  refine wpAnyD_one (i := 2) (by kernel_rfl) rfl (fun K hK => ?_)
  rw [if_pos (by rfl)]
  refine wp_append_own_at (.tmp 25) (.tmp 26) 63 rfl (w.heap.size + 1) 5 i0 _ 1 1 Tryd.underlying63 hi0 hz0 hz1 hz2 rfl (by decide) (.slice p7 L7 d7) (7 + lh + 0) (Lib.byteCells ((httpB ++ th) ++ [])) (by go_simp) (by have h8 := HO7.out.alloc (.cells #[.int .u8 63] 5 (0, 0)); unfold Own at h8; rw [HL7.out] at h8; exact h8) ⟨w7.heap.size, 0, none⟩ 1 1 [.int .u8 63] (by go_simp) rfl (cells_new w7 _ _) (by simp [Value.oneCell']) (by unfold maxLen; omega) (by omega) HX8.out.lt ?_
  intro v' w9 hown hgr _
  have HO9 := hid (show Own w9 (w.heap.size + 1) v' (((httpB ++ th) ++ []) ++ [63]) from Own.put (acc := (httpB ++ th) ++ []) (bs := [63]) (by rw [HL7.out]; exact hown) rfl rfl)
  have HX9 := hid (HX8.out.up (Own.below (show Own (w7.alloc (.cells #[.int .u8 63] 5 (0, 0))).drew (w.heap.size + 1) _ ((httpB ++ th) ++ []) from HO7.out.alloc (.cells #[.int .u8 63] 5 (0, 0))) HX8.out.lt hgr))
  obtain ⟨p9, L9, d9, rfl⟩ := own_slice3 hown
  clear hown hgr
  show K (Act.put _ (some 27) (.slice p9 L9 d9)) w9
  refine hK _ _ ⟨fun _ => (five HX9.out.box).a3, ?_⟩
  clear hK K
  simp only [Act.put, List.setIfInBounds_toArray, List.set_cons_zero, List.set_cons_succ]
  refine wpAnyD_one (i := 5) (by kernel_rfl) rfl (fun K hK => ?_)
  rw [if_pos (by rfl)]
  refine wp_append_own_string (.tmp 27) (.tmp 29) 63 9 rfl (w.heap.size + 1) 5 i0 Tryd.underlying63 Tryd.underlying9 hi0 hz0 hz1 hz2 (.slice p9 L9 d9) (7 + lh + 0 + 1) (Lib.byteCells (((httpB ++ th) ++ []) ++ [63])) (by go_simp) (by have h8 := HO9.out; unfold Own at h8; rw [List.length_append, HL7.out] at h8; exact h8) c3 (by go_simp) (by rw [HZ3.out]; unfold maxLen; omega) (by rw [HZ3.out]; omega) HX9.out.lt ?_
  intro v' wa hown hgr
  have HOa := hid (show Own wa (w.heap.size + 1) v' ((((httpB ++ th) ++ []) ++ [63]) ++ tq) from Own.put (acc := ((httpB ++ th) ++ []) ++ [63]) (bs := tq) (by rw [List.length_append, HL7.out]; exact hown) (by rw [← HC3.out, strCells_str]) (by rw [HZ3.out, HLq.out]))
  have HXa := hid (HX9.out.up (Own.below HO9.out HX9.out.lt hgr))
  obtain ⟨pa, La, da, rfl⟩ := own_slice3 hown
  clear hown hgr
  show K (Act.put _ (some 30) (.slice pa La da)) wa
  refine hK _ _ ⟨fun h => absurd h (by decide), ?_⟩
  clear hK K
  simp only [Act.put, List.setIfInBounds_toArray, List.set_cons_zero, List.set_cons_succ]
  refine wpAnyD_one (i := 6) (by kernel_rfl) rfl (fun K hK => ?_)
  go_simp
  refine hK _ _ ⟨fun h => absurd h (by decide), ?_⟩
  clear hK K
  refine late_done (by kernel_rfl) ?_ _
  refine NoPanic.normal ?_
  have hcv := conv_own HOa.out
  go_wp2
  go_ret
  refine ⟨?_, HXa.out.low⟩
  rw [HV.out]
  simp
set_option maxRecDepth 20000 in
set_option maxHeartbeats 8000000 in
theorem short_two_root_n (tf : Int) (th tp tq : B) (ths : Bool) (hf : tf = 2) (hp : tp = [47]) (hh : ths = false) (hsz : th.length + tp.length + tq.length ≤ 70368744177664) (w : World) : Calls Tryd.prog 34 #[tgV ⟨tf, th, tp, tq, ths⟩] w fun e w' => e = .returned (.string (str (shortT ⟨tf, th, tp, tq, ths⟩))) ∧ Below w.heap.size w w' := by
  unfold tgV
  dsimp only
  obtain ⟨i0, hi0, hz0, hz1, hz2⟩ := info_parts infoB
  have HX0 := hid (BX.start w #[.int .i64 tf, .string (str th), .string (str tp), .string (str tq), .bool ths])
  obtain ⟨lh, hlh⟩ : ∃ lh, th.length = lh := ⟨_, rfl⟩
  obtain ⟨lp, hlp⟩ : ∃ lp, tp.length = lp := ⟨_, rfl⟩
  obtain ⟨lq, hlq⟩ : ∃ lq, tq.length = lq := ⟨_, rfl⟩
  rw [hlh, hlp, hlq] at hsz
  have HLh := hid hlh
  have HLp := hid hlp
  have HLq := hid hlq
  obtain ⟨c1, hc1⟩ : ∃ c1, str th = c1 := ⟨_, rfl⟩
  obtain ⟨c2, hc2⟩ : ∃ c2, str tp = c2 := ⟨_, rfl⟩
  obtain ⟨c3, hc3⟩ : ∃ c3, str tq = c3 := ⟨_, rfl⟩
  have HC1 := hid hc1
  have HC2 := hid hc2
  have HC3 := hid hc3
  have HZ1 := hid (show c1.size = lh from by rw [← hc1, str_size, hlh])
  have HZ2 := hid (show c2.size = lp from by rw [← hc2, str_size, hlp])
  have HZ3 := hid (show c3.size = lq from by rw [← hc3, str_size, hlq])
  rw [hc1, hc2, hc3] at HX0 ⊢
  have HV := hid (show shortT ⟨tf, th, tp, tq, ths⟩ = (httpB ++ th ++ []) ++ (if ths then 63 :: tq else []) from by unfold shortT; simp only; rw [hf, if_neg (by decide), if_pos rfl, if_pos hp])
  subst hf
  subst hh
  obtain rfl : c2 = ⟨#[47]⟩ := by rw [← hc2, hp]
  have HL7 := hid (show ((httpB ++ th) ++ []).length = 7 + lh + 0 from by rw [List.length_append, List.length_append, hlh]; rfl)
  have HL6 := hid (show (httpB ++ th).length = 7 + lh from by rw [List.length_append, hlh]; rfl)
  clear hlh hlp hlq hc1 hc2 hc3 hp
  go_enter Tryd.func34, Tryd.ntmps34
  go_wp2
  refine wp_region_noPanic ?_
  refine any_begin 6 (by kernel_rfl) (by kernel_rfl) ?_
  refine any_take (i := 0) (some 13) rfl rfl (by kernel_rfl) (by kernel_rfl) (by kernel_rfl) (fun _ _ _ h => h) (by rfl) (v := ?v0a) ?hy0a ?rest0a
  case hy0a => intro w0; go_simp; try with_reducible rfl
  simp only [Act.put, List.setIfInBounds_toArray, List.set_cons_zero, List.set_cons_succ]
  refine any_take (i := 2) (some 15) rfl rfl (by kernel_rfl) (by kernel_rfl) (by kernel_rfl) (fun _ _ _ h => h) (by rfl) (v := ?v2a) ?hy2a ?rest2a
  case hy2a => intro w0; go_simp; try with_reducible rfl
  simp only [Act.put, List.setIfInBounds_toArray, List.set_cons_zero, List.set_cons_succ]
  refine late_begin (fun W => W.cell? ⟨w.heap.size, 1, none⟩ = some (.string c1)) (fun j => decide (4 ≤ j)) (five HX0.out.drew.box).a1 (fun hS => ?_)
  refine late_take (i := 3) (some 16) rfl rfl (by kernel_rfl) (by kernel_rfl) (by kernel_rfl) (by kernel_rfl) (by kernel_rfl) (fun _ _ _ h => h) (by rfl) (v := ?v3a) ?hy3a hS ?rest3a
  case hy3a => intro w0 hSw; (try dsimp only at hSw); go_simp; try with_reducible rfl
  simp only [Act.put, List.setIfInBounds_toArray, List.set_cons_zero, List.set_cons_succ]
  refine wpAnyD_one (i := 1) (by kernel_rfl) rfl (fun K hK => ?_)
  rw [if_pos (by rfl)]
  refine wp_append_own_string (.tmp 13) (.const (.string ⟨#[104, 116, 116, 112, 58, 47, 47]⟩)) 63 9 rfl (w.heap.size + 1) 5 i0 Tryd.underlying63 Tryd.underlying9 hi0 hz0 hz1 hz2 (.slice none 0 0) 0 (Lib.byteCells []) (by go_simp) (Own.nil _ _) ⟨#[104, 116, 116, 112, 58, 47, 47]⟩ (by go_simp) (by decide) (by decide) HX0.out.drew.lt ?_
  intro v' w5 hown hgr
  have hown2 := hid (show Own w5 (w.heap.size + 1) v' httpB from hown)
  have HX5 := hid (HX0.out.drew.up (Own.below (acc := []) (Own.nil _ _) HX0.out.drew.lt hgr))
  obtain ⟨p5, L5, d5, rfl⟩ := own_slice3 hown
  clear hown hgr
  show K (Act.put _ (some 14) (.slice p5 L5 d5)) w5
  refine hK _ _ ⟨fun _ => (five HX5.out.box).a1, ?_⟩
  clear hK K
  simp only [Act.put, List.setIfInBounds_toArray, List.set_cons_zero, List.set_cons_succ]
  refine wpAnyD_one (i := 4) (by kernel_rfl) rfl (fun K hK => ?_)
  rw [if_pos (by rfl)]
  refine wp_append_own_string (.tmp 14) (.tmp 16) 63 9 rfl (w.heap.size + 1) 5 i0 Tryd.underlying63 Tryd.underlying9 hi0 hz0 hz1 hz2 (.slice p5 L5 d5) 7 (Lib.byteCells httpB) (by go_simp) hown2.out c1 (by go_simp) (by rw [HZ1.out]; unfold maxLen; omega) (by rw [HZ1.out]; omega) HX5.out.lt ?_
  intro v' w6 hown hgr
  have HO6 := hid (show Own w6 (w.heap.size + 1) v' (httpB ++ th) from Own.put (acc := httpB) (bs := th) hown (by rw [← HC1.out, strCells_str]) (by rw [HZ1.out, HLh.out]))
  have HX6 := hid (HX5.out.up (Own.below hown2.out HX5.out.lt hgr))
  obtain ⟨p6, L6, d6, rfl⟩ := own_slice3 hown
  clear hown hgr
  show K (Act.put _ (some 17) (.slice p6 L6 d6)) w6
  refine hK _ _ ⟨fun h => absurd h (by decide), ?_⟩
  clear hK K
  simp only [Act.put, List.setIfInBounds_toArray, List.set_cons_zero, List.set_cons_succ]
  refine wpAnyD_one (i := 5) (by kernel_rfl) rfl (fun K hK => ?_)
  go_simp
  refine hK _ _ ⟨fun h => absurd h (by decide), ?_⟩
  clear hK K
  refine late_done (by kernel_rfl) ?_ _
  refine NoPanic.normal ?_
  go_wp2_with (at_builtin; refine Lib.wpList_append_own_string _ rfl (.tmp 20) (.tmp 21) 63 9 rfl (w.heap.size + 1) 5 i0 Tryd.underlying63 Tryd.underlying9 hi0 hz0 hz1 hz2 (.slice p6 L6 d6) (7 + lh) (Lib.byteCells (httpB ++ th)) (by go_simp) (by have h8 := HO6.out; unfold Own at h8; rw [HL6.out] at h8; exact h8) ⟨#[]⟩ (by go_simp) (by show 7 + lh + 0 ≤ maxLen; unfold maxLen; omega) (by show 7 + lh + 0 ≤ 140737488355328; omega) HX6.out.lt ?_; intro v' w7 hown hgr _; have HO7 := hid (show Own w7 (w.heap.size + 1) v' (httpB ++ th ++ []) from Own.put (acc := httpB ++ th) (bs := []) (by rw [HL6.out]; exact hown) rfl rfl); have HX7 := hid (HX6.out.up (Own.below HO6.out HX6.out.lt hgr)); obtain ⟨p7, L7, d7, rfl⟩ := own_slice3 hown; obtain ⟨x0, x1, x2, x3, x4, xz⟩ := five HX7.out.box; clear hown hgr xz; have hcv := conv_own HO7.out)
  go_ret
  refine ⟨?_, HX7.out.low⟩
  rw [HV.out]
  simp
set_option maxRecDepth 20000 in
set_option maxHeartbeats 8000000 in
theorem short_two_path_q (tf : Int) (th tp tq : B) (ths : Bool) (hf : tf = 2) (hp : tp ≠ [47]) (hh : ths = true) (hsz : th.length + tp.length + tq.length ≤ 70368744177664) (w : World) : Calls Tryd.prog 34 #[tgV ⟨tf, th, tp, tq, ths⟩] w fun e w' => e = .returned (.string (str (shortT ⟨tf, th, tp, tq, ths⟩))) ∧ Below w.heap.size w w' := by
  unfold tgV
  dsimp only
  obtain ⟨i0, hi0, hz0, hz1, hz2⟩ := info_parts infoB
  have HX0 := hid (BX.start w #[.int .i64 tf, .string (str th), .string (str tp), .string (str tq), .bool ths])
  obtain ⟨lh, hlh⟩ : ∃ lh, th.length = lh := ⟨_, rfl⟩
  obtain ⟨lp, hlp⟩ : ∃ lp, tp.length = lp := ⟨_, rfl⟩
  obtain ⟨lq, hlq⟩ : ∃ lq, tq.length = lq := ⟨_, rfl⟩
  rw [hlh, hlp, hlq] at hsz
  have HLh := hid hlh
  have HLp := hid hlp
  have HLq := hid hlq
  obtain ⟨c1, hc1⟩ : ∃ c1, str th = c1 := ⟨_, rfl⟩
  obtain ⟨c2, hc2⟩ : ∃ c2, str tp = c2 := ⟨_, rfl⟩
  obtain ⟨c3, hc3⟩ : ∃ c3, str tq = c3 := ⟨_, rfl⟩
  have HC1 := hid hc1
  have HC2 := hid hc2
  have HC3 := hid hc3
  have HZ1 := hid (show c1.size = lh from by rw [← hc1, str_size, hlh])
  have HZ2 := hid (show c2.size = lp from by rw [← hc2, str_size, hlp])
  have HZ3 := hid (show c3.size = lq from by rw [← hc3, str_size, hlq])
  rw [hc1, hc2, hc3] at HX0 ⊢
  have HV := hid (show shortT ⟨tf, th, tp, tq, ths⟩ = (httpB ++ th ++ tp) ++ (if ths then 63 :: tq else []) from by unfold shortT; simp only; rw [hf, if_neg (by decide), if_pos rfl, if_neg hp])
  subst hf
  subst hh
  have q1 : (c2.toList == (⟨#[47]⟩ : ByteArray).toList) = false := by rw [← hc2]; exact ne_list (str_ne (b := [47]) hp)
  have q2 : (c2.toList == [47]) = false := by
    rw [Lib.toList_data (⟨#[47]⟩ : ByteArray)] at q1
    exact q1
  have HL7 := hid (show ((httpB ++ th) ++ tp).length = 7 + lh + lp from by rw [List.length_append, List.length_append, hlh, hlp]; rfl)
  have HL6 := hid (show (httpB ++ th).length = 7 + lh from by rw [List.length_append, hlh]; rfl)
  clear hlh hlp hlq hc1 hc2 hc3 hp
  go_enter Tryd.func34, Tryd.ntmps34
  go_wp2
  refine wp_region_noPanic ?_
  refine any_begin 6 (by kernel_rfl) (by kernel_rfl) ?_
  refine any_take (i := 0) (some 13) rfl rfl (by kernel_rfl) (by kernel_rfl) (by kernel_rfl) (fun _ _ _ h => h) (by rfl) (v := ?v0a) ?hy0a ?rest0a
  case hy0a => intro w0; go_simp; try with_reducible rfl
  simp only [Act.put, List.setIfInBounds_toArray, List.set_cons_zero, List.set_cons_succ]
  refine any_take (i := 2) (some 15) rfl rfl (by kernel_rfl) (by kernel_rfl) (by kernel_rfl) (fun _ _ _ h => h) (by rfl) (v := ?v2a) ?hy2a ?rest2a
  case hy2a => intro w0; go_simp; try with_reducible rfl
  simp only [Act.put, List.setIfInBounds_toArray, List.set_cons_zero, List.set_cons_succ]
  refine late_begin (fun W => W.cell? ⟨w.heap.size, 1, none⟩ = some (.string c1)) (fun j => decide (4 ≤ j)) (five HX0.out.drew.box).a1 (fun hS => ?_)
  refine late_take (i := 3) (some 16) rfl rfl (by kernel_rfl) (by kernel_rfl) (by kernel_rfl) (by kernel_rfl) (by kernel_rfl) (fun _ _ _ h => h) (by rfl) (v := ?v3a) ?hy3a hS ?rest3a
  case hy3a => intro w0 hSw; (try dsimp only at hSw); go_simp; try with_reducible rfl
  simp only [Act.put, List.setIfInBounds_toArray, List.set_cons_zero, List.set_cons_succ]
  refine wpAnyD_one (i := 1) (by kernel_rfl) rfl (fun K hK => ?_)
  rw [if_pos (by rfl)]
  refine wp_append_own_string (.tmp 13) (.const (.string ⟨#[104, 116, 116, 112, 58, 47, 47]⟩)) 63 9 rfl (w.heap.size + 1) 5 i0 Tryd.underlying63 Tryd.underlying9 hi0 hz0 hz1 hz2 (.slice none 0 0) 0 (Lib.byteCells []) (by go_simp) (Own.nil _ _) ⟨#[104, 116, 116, 112, 58, 47, 47]⟩ (by go_simp) (by decide) (by decide) HX0.out.drew.lt ?_
  intro v' w5 hown hgr
  have hown2 := hid (show Own w5 (w.heap.size + 1) v' httpB from hown)
  have HX5 := hid (HX0.out.drew.up (Own.below (acc := []) (Own.nil _ _) HX0.out.drew.lt hgr))
  obtain ⟨p5, L5, d5, rfl⟩ := own_slice3 hown
  clear hown hgr
  show K (Act.put _ (some 14) (.slice p5 L5 d5)) w5
  refine hK _ _ ⟨fun _ => (five HX5.out.box).a1, ?_⟩
  clear hK K
  simp only [Act.put, List.setIfInBounds_toArray, List.set_cons_zero, List.set_cons_succ]
  refine wpAnyD_one (i := 4) (by kernel_rfl) rfl (fun K hK => ?_)
  rw [if_pos (by rfl)]
  refine wp_append_own_string (.tmp 14) (.tmp 16) 63 9 rfl (w.heap.size + 1) 5 i0 Tryd.underlying63 Tryd.underlying9 hi0 hz0 hz1 hz2 (.slice p5 L5 d5) 7 (Lib.byteCells httpB) (by go_simp) hown2.out c1 (by go_simp) (by rw [HZ1.out]; unfold maxLen; omega) (by rw [HZ1.out]; omega) HX5.out.lt ?_
  intro v' w6 hown hgr
  have HO6 := hid (show Own w6 (w.heap.size + 1) v' (httpB ++ th) from Own.put (acc := httpB) (bs := th) hown (by rw [← HC1.out, strCells_str]) (by rw [HZ1.out, HLh.out]))
  have HX6 := hid (HX5.out.up (Own.below hown2.out HX5.out.lt hgr))
  obtain ⟨p6, L6, d6, rfl⟩ := own_slice3 hown
  clear hown hgr
  show K (Act.put _ (some 17) (.slice p6 L6 d6)) w6
  refine hK _ _ ⟨fun h => absurd h (by decide), ?_⟩
  clear hK K
  simp only [Act.put, List.setIfInBounds_toArray, List.set_cons_zero, List.set_cons_succ]
  refine wpAnyD_one (i := 5) (by kernel_rfl) rfl (fun K hK => ?_)
  go_simp
  refine hK _ _ ⟨fun h => absurd h (by decide), ?_⟩
  clear hK K
  refine late_done (by kernel_rfl) ?_ _
  refine NoPanic.normal ?_
  go_wp2_with (at_builtin; refine Lib.wpList_append_own_string _ rfl (.tmp 20) (.tmp 21) 63 9 rfl (w.heap.size + 1) 5 i0 Tryd.underlying63 Tryd.underlying9 hi0 hz0 hz1 hz2 (.slice p6 L6 d6) (7 + lh) (Lib.byteCells (httpB ++ th)) (by go_simp) (by have h8 := HO6.out; unfold Own at h8; rw [HL6.out] at h8; exact h8) c2 (by go_simp) (by rw [HZ2.out]; unfold maxLen; omega) (by rw [HZ2.out]; omega) HX6.out.lt ?_; intro v' w7 hown hgr _; have HO7 := hid (show Own w7 (w.heap.size + 1) v' (httpB ++ th ++ tp) from Own.put (acc := httpB ++ th) (bs := tp) (by rw [HL6.out]; exact hown) (by rw [← HC2.out, strCells_str]) (by rw [HZ2.out, HLp.out])); have HX7 := hid (HX6.out.up (Own.below HO6.out HX6.out.lt hgr)); obtain ⟨p7, L7, d7, rfl⟩ := own_slice3 hown; obtain ⟨x0, x1, x2, x3, x4, xz⟩ := five HX7.out.box; clear hown hgr xz)
  refine wp_region_noPanic ?_
  refine any_begin 7 (by kernel_rfl) (by kernel_rfl) ?_
  refine any_take (i := 0) (some 25) rfl rfl (by kernel_rfl) (by kernel_rfl) (by kernel_rfl) (fun _ _ _ h => h) (by rfl) (v := ?v0b) ?hy0b ?rest0b
  case hy0b => intro w0; go_simp; try with_reducible rfl
  simp only [Act.put, List.setIfInBounds_toArray, List.set_cons_zero, List.set_cons_succ]
  refine any_take (i := 3) (some 28) rfl rfl (by kernel_rfl) (by kernel_rfl) (by kernel_rfl) (fun _ _ _ h => h) (by rfl) (v := ?v3b) ?hy3b ?rest3b
  case hy3b => intro w0; go_simp; try with_reducible rfl
  simp only [Act.put, List.setIfInBounds_toArray, List.set_cons_zero, List.set_cons_succ]
  refine late_begin (fun W => W.cell? ⟨w.heap.size, 3, none⟩ = some (.string c3)) (fun j => decide (5 ≤ j)) (five HX7.out.drew.box).a3 (fun hS => ?_)
  refine late_take (i := 4) (some 29) rfl rfl (by kernel_rfl) (by kernel_rfl) (by kernel_rfl) (by kernel_rfl) (by kernel_rfl) (fun _ _ _ h => h) (by rfl) (v := ?v4b) ?hy4b hS ?rest4b
  case hy4b => intro w0 hSw; (try dsimp only at hSw); go_simp; try with_reducible rfl
  simp only [Act.put, List.setIfInBounds_toArray, List.set_cons_zero, List.set_cons_succ]
  refine wpAnyD_one (i := 1) (by kernel_rfl) rfl (fun K hK => ?_)
  go_simp
  have HX8 := hid (HX7.out.drew.next (.cells #[.int .u8 63] 5 (0, 0)))
  refine hK _ _ ⟨fun _ => (five HX8.out.box).a3, ?_⟩
  clear hK K
  refine wpAnyD_one (i := 2) (by kernel_rfl) rfl (fun K hK => ?_)
  rw [if_pos (by rfl)]
  refine wp_append_own_at (.tmp 25) (.tmp 26) 63 rfl (w.heap.size + 1) 5 i0 _ 1 1 Tryd.underlying63 hi0 hz0 hz1 hz2 rfl (by decide) (.slice p7 L7 d7) (7 + lh + lp) (Lib.byteCells ((httpB ++ th) ++ tp)) (by go_simp) (by have h8 := HO7.out.alloc (.cells #[.int .u8 63] 5 (0, 0)); unfold Own at h8; rw [HL7.out] at h8; exact h8) ⟨w7.heap.size, 0, none⟩ 1 1 [.int .u8 63] (by go_simp) rfl (cells_new w7 _ _) (by simp [Value.oneCell']) (by unfold maxLen; omega) (by omega) HX8.out.lt ?_
  intro v' w9 hown hgr _
  have HO9 := hid (show Own w9 (w.heap.size + 1) v' (((httpB ++ th) ++ tp) ++ [63]) from Own.put (acc := (httpB ++ th) ++ tp) (bs := [63]) (by rw [HL7.out]; exact hown) rfl rfl)
  have HX9 := hid (HX8.out.up (Own.below (show Own (w7.alloc (.cells #[.int .u8 63] 5 (0, 0))).drew (w.heap.size + 1) _ ((httpB ++ th) ++ tp) from HO7.out.alloc (.cells #[.int .u8 63] 5 (0, 0))) HX8.out.lt hgr))
  obtain ⟨p9, L9, d9, rfl⟩ := own_slice3 hown
  clear hown hgr
  show K (Act.put _ (some 27) (.slice p9 L9 d9)) w9
  refine hK _ _ ⟨fun _ => (five HX9.out.box).a3, ?_⟩
  clear hK K
  simp only [Act.put, List.setIfInBounds_toArray, List.set_cons_zero, List.set_cons_succ]
  refine wpAnyD_one (i := 5) (by kernel_rfl) rfl (fun K hK => ?_)
  rw [if_pos (by rfl)]
  refine wp_append_own_string (.tmp 27) (.tmp 29) 63 9 rfl (w.heap.size + 1) 5 i0 Tryd.underlying63 Tryd.underlying9 hi0 hz0 hz1 hz2 (.slice p9 L9 d9) (7 + lh + lp + 1) (Lib.byteCells (((httpB ++ th) ++ tp) ++ [63])) (by go_simp) (by have h8 := HO9.out; unfold Own at h8; rw [List.length_append, HL7.out] at h8; exact h8) c3 (by go_simp) (by rw [HZ3.out]; unfold maxLen; omega) (by rw [HZ3.out]; omega) HX9.out.lt ?_
  intro v' wa hown hgr
  have HOa := hid (show Own wa (w.heap.size + 1) v' ((((httpB ++ th) ++ tp) ++ [63]) ++ tq) from Own.put (acc := ((httpB ++ th) ++ tp) ++ [63]) (bs := tq) (by rw [List.length_append, HL7.out]; exact hown) (by rw [← HC3.out, strCells_str]) (by rw [HZ3.out, HLq.out]))
  have HXa := hid (HX9.out.up (Own.below HO9.out HX9.out.lt hgr))
  obtain ⟨pa, La, da, rfl⟩ := own_slice3 hown
  clear hown hgr
  show K (Act.put _ (some 30) (.slice pa La da)) wa
  refine hK _ _ ⟨fun h => absurd h (by decide), ?_⟩
  clear hK K
  simp only [Act.put, List.setIfInBounds_toArray, List.set_cons_zero, List.set_cons_succ]
  refine wpAnyD_one (i := 6) (by kernel_rfl) rfl (fun K hK => ?_)
  go_simp
  refine hK _ _ ⟨fun h => absurd h (by decide), ?_⟩
  clear hK K
  refine late_done (by kernel_rfl) ?_ _
  refine NoPanic.normal ?_
  have hcv := conv_own HOa.out
  go_wp2
  go_ret
  refine ⟨?_, HXa.out.low⟩
  rw [HV.out]
  simp
set_option maxRecDepth 20000 in
set_option maxHeartbeats 8000000 in
theorem short_two_path_n (tf : Int) (th tp tq : B) (ths : Bool) (hf : tf = 2) (hp : tp ≠ [47]) (hh : ths = false) (hsz : th.length + tp.length + tq.length ≤ 70368744177664) (w : World) : Calls Tryd.prog 34 #[tgV ⟨tf, th, tp, tq, ths⟩] w fun e w' => e = .returned (.string (str (shortT ⟨tf, th, tp, tq, ths⟩))) ∧ Below w.heap.size w w' := by
  unfold tgV
  dsimp only
  obtain ⟨i0, hi0, hz0, hz1, hz2⟩ := info_parts infoB
  have HX0 := hid (BX.start w #[.int .i64 tf, .string (str th), .string (str tp), .string (str tq), .bool ths])
  obtain ⟨lh, hlh⟩ : ∃ lh, th.length = lh := ⟨_, rfl⟩
  obtain ⟨lp, hlp⟩ : ∃ lp, tp.length = lp := ⟨_, rfl⟩
  obtain ⟨lq, hlq⟩ : ∃ lq, tq.length = lq := ⟨_, rfl⟩
  rw [hlh, hlp, hlq] at hsz
  have HLh := hid hlh
  have HLp := hid hlp
  have HLq := hid hlq
  obtain ⟨c1, hc1⟩ : ∃ c1, str th = c1 := ⟨_, rfl⟩
  obtain ⟨c2, hc2⟩ : ∃ c2, str tp = c2 := ⟨_, rfl⟩
  obtain ⟨c3, hc3⟩ : ∃ c3, str tq = c3 := ⟨_, rfl⟩
  have HC1 := hid hc1
  have HC2 := hid hc2
  have HC3 := hid hc3
  have HZ1 := hid (show c1.size = lh from by rw [← hc1, str_size, hlh])
  have HZ2 := hid (show c2.size = lp from by rw [← hc2, str_size, hlp])
  have HZ3 := hid (show c3.size = lq from by rw [← hc3, str_size, hlq])
  rw [hc1, hc2, hc3] at HX0 ⊢
  have HV := hid (show shortT ⟨tf, th, tp, tq, ths⟩ = (httpB ++ th ++ tp) ++ (if ths then 63 :: tq else []) from by unfold shortT; simp only; rw [hf, if_neg (by decide), if_pos rfl, if_neg hp])
  subst hf
  subst hh
  have q1 : (c2.toList == (⟨#[47]⟩ : ByteArray).toList) = false := by rw [← hc2]; exact ne_list (str_ne (b := [47]) hp)
  have q2 : (c2.toList == [47]) = false := by
    rw [Lib.toList_data (⟨#[47]⟩ : ByteArray)] at q1
    exact q1
  have HL7 := hid (show ((httpB ++ th) ++ tp).length = 7 + lh + lp from by rw [List.length_append, List.length_append, hlh, hlp]; rfl)
  have HL6 := hid (show (httpB ++ th).length = 7 + lh from by rw [List.length_append, hlh]; rfl)
  clear hlh hlp hlq hc1 hc2 hc3 hp
  go_enter Tryd.func34, Tryd.ntmps34
  go_wp2
  refine wp_region_noPanic ?_
  refine any_begin 6 (by kernel_rfl) (by kernel_rfl) ?_
  refine any_take (i := 0) (some 13) rfl rfl (by kernel_rfl) (by kernel_rfl) (by kernel_rfl) (fun _ _ _ h => h) (by rfl) (v := ?v0a) ?hy0a ?rest0a
  case hy0a => intro w0; go_simp; try with_reducible rfl
  simp only [Act.put, List.setIfInBounds_toArray, List.set_cons_zero, List.set_cons_succ]
  refine any_take (i := 2) (some 15) rfl rfl (by kernel_rfl) (by kernel_rfl) (by kernel_rfl) (fun _ _ _ h => h) (by rfl) (v := ?v2a) ?hy2a ?rest2a
  case hy2a => intro w0; go_simp; try with_reducible rfl
  simp only [Act.put, List.setIfInBounds_toArray, List.set_cons_zero, List.set_cons_succ]
  refine late_begin (fun W => W.cell? ⟨w.heap.size, 1, none⟩ = some (.string c1)) (fun j => decide (4 ≤ j)) (five HX0.out.drew.box).a1 (fun hS => ?_)
  refine late_take (i := 3) (some 16) rfl rfl (by kernel_rfl) (by kernel_rfl) (by kernel_rfl) (by kernel_rfl) (by kernel_rfl) (fun _ _ _ h => h) (by rfl) (v := ?v3a) ?hy3a hS ?rest3a
  case hy3a => intro w0 hSw; (try dsimp only at hSw); go_simp; try with_reducible rfl
  simp only [Act.put, List.setIfInBounds_toArray, List.set_cons_zero, List.set_cons_succ]
  refine wpAnyD_one (i := 1) (by kernel_rfl) rfl (fun K hK => ?_)
  rw [if_pos (by rfl)]
  refine wp_append_own_string (.tmp 13) (.const (.string ⟨#[104, 116, 116, 112, 58, 47, 47]⟩)) 63 9 rfl (w.heap.size + 1) 5 i0 Tryd.underlying63 Tryd.underlying9 hi0 hz0 hz1 hz2 (.slice none 0 0) 0 (Lib.byteCells []) (by go_simp) (Own.nil _ _) ⟨#[104, 116, 116, 112, 58, 47, 47]⟩ (by go_simp) (by decide) (by decide) HX0.out.drew.lt ?_
  intro v' w5 hown hgr
  have hown2 := hid (show Own w5 (w.heap.size + 1) v' httpB from hown)
  have HX5 := hid (HX0.out.drew.up (Own.below (acc := []) (Own.nil _ _) HX0.out.drew.lt hgr))
  obtain ⟨p5, L5, d5, rfl⟩ := own_slice3 hown
  clear hown hgr
  show K (Act.put _ (some 14) (.slice p5 L5 d5)) w5
  refine hK _ _ ⟨fun _ => (five HX5.out.box).a1, ?_⟩
  clear hK K
  simp only [Act.put, List.setIfInBounds_toArray, List.set_cons_zero, List.set_cons_succ]
  refine wpAnyD_one (i := 4) (by kernel_rfl) rfl (fun K hK => ?_)
  rw [if_pos (by rfl)]
  refine wp_append_own_string (.tmp 14) (.tmp 16) 63 9 rfl (w.heap.size + 1) 5 i0 Tryd.underlying63 Tryd.underlying9 hi0 hz0 hz1 hz2 (.slice p5 L5 d5) 7 (Lib.byteCells httpB) (by go_simp) hown2.out c1 (by go_simp) (by rw [HZ1.out]; unfold maxLen; omega) (by rw [HZ1.out]; omega) HX5.out.lt ?_
  intro v' w6 hown hgr
  have HO6 := hid (show Own w6 (w.heap.size + 1) v' (httpB ++ th) from Own.put (acc := httpB) (bs := th) hown (by rw [← HC1.out, strCells_str]) (by rw [HZ1.out, HLh.out]))
  have HX6 := hid (HX5.out.up (Own.below hown2.out HX5.out.lt hgr))
  obtain ⟨p6, L6, d6, rfl⟩ := own_slice3 hown
  clear hown hgr
  show K (Act.put _ (some 17) (.slice p6 L6 d6)) w6
  refine hK _ _ ⟨fun h => absurd h (by decide), ?_⟩
  clear hK K
  simp only [Act.put, List.setIfInBounds_toArray, List.set_cons_zero, List.set_cons_succ]
  refine wpAnyD_one (i := 5) (by kernel_rfl) rfl (fun K hK => ?_)
  go_simp
  refine hK _ _ ⟨fun h => absurd h (by decide), ?_⟩
  clear hK K
  refine late_done (by kernel_rfl) ?_ _
  refine NoPanic.normal ?_
  go_wp2_with (at_builtin; refine Lib.wpList_append_own_string _ rfl (.tmp 20) (.tmp 21) 63 9 rfl (w.heap.size + 1) 5 i0 Tryd.underlying63 Tryd.underlying9 hi0 hz0 hz1 hz2 (.slice p6 L6 d6) (7 + lh) (Lib.byteCells (httpB ++ th)) (by go_simp) (by have h8 := HO6.out; unfold Own at h8; rw [HL6.out] at h8; exact h8) c2 (by go_simp) (by rw [HZ2.out]; unfold maxLen; omega) (by rw [HZ2.out]; omega) HX6.out.lt ?_; intro v' w7 hown hgr _; have HO7 := hid (show Own w7 (w.heap.size + 1) v' (httpB ++ th ++ tp) from Own.put (acc := httpB ++ th) (bs := tp) (by rw [HL6.out]; exact hown) (by rw [← HC2.out, strCells_str]) (by rw [HZ2.out, HLp.out])); have HX7 := hid (HX6.out.up (Own.below HO6.out HX6.out.lt hgr)); obtain ⟨p7, L7, d7, rfl⟩ := own_slice3 hown; obtain ⟨x0, x1, x2, x3, x4, xz⟩ := five HX7.out.box; clear hown hgr xz; have hcv := conv_own HO7.out)
  go_ret
  refine ⟨?_, HX7.out.low⟩
  rw [HV.out]
  simp
set_option maxRecDepth 20000 in
set_option maxHeartbeats 8000000 in
theorem short_path_q (tf : Int) (th tp tq : B) (ths : Bool) (hf2 : ¬ tf = 2) (hf3 : ¬ tf = 3) (hh : ths = true) (hsz : th.length + tp.length + tq.length ≤ 70368744177664) (w : World) : Calls Tryd.prog 34 #[tgV ⟨tf, th, tp, tq, ths⟩] w fun e w' => e = .returned (.string (str (shortT ⟨tf, th, tp, tq, ths⟩))) ∧ Below w.heap.size w w' := by
  unfold tgV
  dsimp only
  obtain ⟨i0, hi0, hz0, hz1, hz2⟩ := info_parts infoB
  have HX0 := hid (BX.start w #[.int .i64 tf, .string (str th), .string (str tp), .string (str tq), .bool ths])
  obtain ⟨lh, hlh⟩ : ∃ lh, th.length = lh := ⟨_, rfl⟩
  obtain ⟨lp, hlp⟩ : ∃ lp, tp.length = lp := ⟨_, rfl⟩
  obtain ⟨lq, hlq⟩ : ∃ lq, tq.length = lq := ⟨_, rfl⟩
  rw [hlh, hlp, hlq] at hsz
  have HLh := hid hlh
  have HLp := hid hlp
  have HLq := hid hlq
  obtain ⟨c1, hc1⟩ : ∃ c1, str th = c1 := ⟨_, rfl⟩
  obtain ⟨c2, hc2⟩ : ∃ c2, str tp = c2 := ⟨_, rfl⟩
  obtain ⟨c3, hc3⟩ : ∃ c3, str tq = c3 := ⟨_, rfl⟩
  have HC1 := hid hc1
  have HC2 := hid hc2
  have HC3 := hid hc3
  have HZ1 := hid (show c1.size = lh from by rw [← hc1, str_size, hlh])
  have HZ2 := hid (show c2.size = lp from by rw [← hc2, str_size, hlp])
  have HZ3 := hid (show c3.size = lq from by rw [← hc3, str_size, hlq])
  rw [hc1, hc2, hc3] at HX0 ⊢
  have HV := hid (show shortT ⟨tf, th, tp, tq, ths⟩ = (tp) ++ (if ths then 63 :: tq else []) from by unfold shortT; simp only; rw [if_neg hf3, if_neg hf2])
  have e2 : (tf == 2) = false := by simpa using hf2
  have e3 : (tf == 3) = false := by simpa using hf3
  subst hh
  have HL7 := hid (show ([] ++ tp).length = 0 + lp from by rw [List.nil_append, hlp]; omega)
  clear hlh hlp hlq hc1 hc2 hc3 hf2 hf3
  go_enter Tryd.func34, Tryd.ntmps34
  have HO6 := hid (Own.nil (w.alloc (.cells #[.int .i64 tf, .string c1, .string c2, .string c3, .bool true] 23 (0, 0))) (w.heap.size + 1))
  have HL6 := hid (show ([] : B).length = 0 from rfl)
  go_wp2_with (at_builtin; refine Lib.wpList_append_own_string _ rfl (.tmp 20) (.tmp 21) 63 9 rfl (w.heap.size + 1) 5 i0 Tryd.underlying63 Tryd.underlying9 hi0 hz0 hz1 hz2 (.slice none 0 0) (0) (Lib.byteCells ([])) (by go_simp) (by have h8 := HO6.out; unfold Own at h8; rw [HL6.out] at h8; exact h8) c2 (by go_simp) (by rw [HZ2.out]; unfold maxLen; omega) (by rw [HZ2.out]; omega) HX0.out.lt ?_; intro v' w7 hown hgr _; have HO7 := hid (show Own w7 (w.heap.size + 1) v' ([] ++ tp) from Own.put (acc := []) (bs := tp) (by rw [HL6.out]; exact hown) (by rw [← HC2.out, strCells_str]) (by rw [HZ2.out, HLp.out])); have HX7 := hid (HX0.out.up (Own.below HO6.out HX0.out.lt hgr)); obtain ⟨p7, L7, d7, rfl⟩ := own_slice3 hown; obtain ⟨x0, x1, x2, x3, x4, xz⟩ := five HX7.out.box; clear hown hgr xz)
  refine wp_region_noPanic ?_
  refine any_begin 7 (by kernel_rfl) (by kernel_rfl) ?_
  refine any_take (i := 0) (some 25) rfl rfl (by kernel_rfl) (by kernel_rfl) (by kernel_rfl) (fun _ _ _ h => h) (by rfl) (v := ?v0b) ?hy0b ?rest0b
  case hy0b => intro w0; go_simp; try with_reducible rfl
  simp only [Act.put, List.setIfInBounds_toArray, List.set_cons_zero, List.set_cons_succ]
  refine any_take (i := 3) (some 28) rfl rfl (by kernel_rfl) (by kernel_rfl) (by kernel_rfl) (fun _ _ _ h => h) (by rfl) (v := ?v3b) ?hy3b ?rest3b
  case hy3b => intro w0; go_simp; try with_reducible rfl
  simp only [Act.put, List.setIfInBounds_toArray, List.set_cons_zero, List.set_cons_succ]
  refine late_begin (fun W => W.cell? ⟨w.heap.size, 3, none⟩ = some (.string c3)) (fun j => decide (5 ≤ j)) (five HX7.out.drew.box).a3 (fun hS => ?_)
  refine late_take (i := 4) (some 29) rfl rfl (by kernel_rfl) (by kernel_rfl) (by kernel_rfl) (by kernel_rfl) (by kernel_rfl) (fun _ _ _ h => h) (by rfl) (v := ?v4b) ?hy4b hS ?rest4b
  case hy4b => intro w0 hSw; (try dsimp only at hSw); go_simp; try with_reducible rfl
  simp only [Act.put, List.setIfInBounds_toArray, List.set_cons_zero, List.set_cons_succ]
  refine wpAnyD_one (i := 1) (by kernel_rfl) rfl (fun K hK => ?_)
  go_simp
  have HX8 := hid (HX7.out.drew.next (.cells #[.int .u8 63] 5 (0, 0)))
  refine hK _ _ ⟨fun _ => (five HX8.out.box).a3, ?_⟩
  clear hK K
  refine wpAnyD_one (i := 2) (by kernel_rfl) rfl (fun K hK => ?_)
  rw [if_pos (by rfl)]
  refine wp_append_own_at (.tmp 25) (.tmp 26) 63 rfl (w.heap.size + 1) 5 i0 _ 1 1 Tryd.underlying63 hi0 hz0 hz1 hz2 rfl (by decide) (.slice p7 L7 d7) (0 + lp) (Lib.byteCells ([] ++ tp)) (by go_simp) (by have h8 := HO7.out.alloc (.cells #[.int .u8 63] 5 (0, 0)); unfold Own at h8; rw [HL7.out] at h8; exact h8) ⟨w7.heap.size, 0, none⟩ 1 1 [.int .u8 63] (by go_simp) rfl (cells_new w7 _ _) (by simp [Value.oneCell']) (by unfold maxLen; omega) (by omega) HX8.out.lt ?_
  intro v' w9 hown hgr _
  have HO9 := hid (show Own w9 (w.heap.size + 1) v' (([] ++ tp) ++ [63]) from Own.put (acc := [] ++ tp) (bs := [63]) (by rw [HL7.out]; exact hown) rfl rfl)
  have HX9 := hid (HX8.out.up (Own.below (show Own (w7.alloc (.cells #[.int .u8 63] 5 (0, 0))).drew (w.heap.size + 1) _ ([] ++ tp) from HO7.out.alloc (.cells #[.int .u8 63] 5 (0, 0))) HX8.out.lt hgr))
  obtain ⟨p9, L9, d9, rfl⟩ := own_slice3 hown
  clear hown hgr
  show K (Act.put _ (some 27) (.slice p9 L9 d9)) w9
  refine hK _ _ ⟨fun _ => (five HX9.out.box).a3, ?_⟩
  clear hK K
  simp only [Act.put, List.setIfInBounds_toArray, List.set_cons_zero, List.set_cons_succ]
  refine wpAnyD_one (i := 5) (by kernel_rfl) rfl (fun K hK => ?_)
  rw [if_pos (by rfl)]
  refine wp_append_own_string (.tmp 27) (.tmp 29) 63 9 rfl (w.heap.size + 1) 5 i0 Tryd.underlying63 Tryd.underlying9 hi0 hz0 hz1 hz2 (.slice p9 L9 d9) (0 + lp + 1) (Lib.byteCells (([] ++ tp) ++ [63])) (by go_simp) (by have h8 := HO9.out; unfold Own at h8; rw [List.length_append, HL7.out] at h8; exact h8) c3 (by go_simp) (by rw [HZ3.out]; unfold maxLen; omega) (by rw [HZ3.out]; omega) HX9.out.lt ?_
  intro v' wa hown hgr
  have HOa := hid (show Own wa (w.heap.size + 1) v' ((([] ++ tp) ++ [63]) ++ tq) from Own.put (acc := ([] ++ tp) ++ [63]) (bs := tq) (by rw [List.length_append, HL7.out]; exact hown) (by rw [← HC3.out, strCells_str]) (by rw [HZ3.out, HLq.out]))
  have HXa := hid (HX9.out.up (Own.below HO9.out HX9.out.lt hgr))
  obtain ⟨pa, La, da, rfl⟩ := own_slice3 hown
  clear hown hgr
  show K (Act.put _ (some 30) (.slice pa La da)) wa
  refine hK _ _ ⟨fun h => absurd h (by decide), ?_⟩
  clear hK K
  simp only [Act.put, List.setIfInBounds_toArray, List.set_cons_zero, List.set_cons_succ]
  refine wpAnyD_one (i := 6) (by kernel_rfl) rfl (fun K hK => ?_)
  go_simp
  refine hK _ _ ⟨fun h => absurd h (by decide), ?_⟩
  clear hK K
  refine late_done (by kernel_rfl) ?_ _
  refine NoPanic.normal ?_
  have hcv := conv_own HOa.out
  go_wp2
  go_ret
  refine ⟨?_, HXa.out.low⟩
  rw [HV.out]
  simp
set_option maxRecDepth 20000 in
set_option maxHeartbeats 8000000 in
theorem short_path_n (tf : Int) (th tp tq : B) (ths : Bool) (hf2 : ¬ tf = 2) (hf3 : ¬ tf = 3) (hh : ths = false) (hsz : th.length + tp.length + tq.length ≤ 70368744177664) (w : World) : Calls Tryd.prog 34 #[tgV ⟨tf, th, tp, tq, ths⟩] w fun e w' => e = .returned (.string (str (shortT ⟨tf, th, tp, tq, ths⟩))) ∧ Below w.heap.size w w' := by
  unfold tgV
  dsimp only
  obtain ⟨i0, hi0, hz0, hz1, hz2⟩ := info_parts infoB
  have HX0 := hid (BX.start w #[.int .i64 tf, .string (str th), .string (str tp), .string (str tq), .bool ths])
  obtain ⟨lh, hlh⟩ : ∃ lh, th.length = lh := ⟨_, rfl⟩
  obtain ⟨lp, hlp⟩ : ∃ lp, tp.length = lp := ⟨_, rfl⟩
  obtain ⟨lq, hlq⟩ : ∃ lq, tq.length = lq := ⟨_, rfl⟩
  rw [hlh, hlp, hlq] at hsz
  have HLh := hid hlh
  have HLp := hid hlp
  have HLq := hid hlq
  obtain ⟨c1, hc1⟩ : ∃ c1, str th = c1 := ⟨_, rfl⟩
  obtain ⟨c2, hc2⟩ : ∃ c2, str tp = c2 := ⟨_, rfl⟩
  obtain ⟨c3, hc3⟩ : ∃ c3, str tq = c3 := ⟨_, rfl⟩
  have HC1 := hid hc1
  have HC2 := hid hc2
  have HC3 := hid hc3
  have HZ1 := hid (show c1.size = lh from by rw [← hc1, str_size, hlh])
  have HZ2 := hid (show c2.size = lp from by rw [← hc2, str_size, hlp])
  have HZ3 := hid (show c3.size = lq from by rw [← hc3, str_size, hlq])
  rw [hc1, hc2, hc3] at HX0 ⊢
  have HV := hid (show shortT ⟨tf, th, tp, tq, ths⟩ = (tp) ++ (if ths then 63 :: tq else []) from by unfold shortT; simp only; rw [if_neg hf3, if_neg hf2])
  have e2 : (tf == 2) = false := by simpa using hf2
  have e3 : (tf == 3) = false := by simpa using hf3
  subst hh
  have HL7 := hid (show ([] ++ tp).length = 0 + lp from by rw [List.nil_append, hlp]; omega)
  clear hlh hlp hlq hc1 hc2 hc3 hf2 hf3
  go_enter Tryd.func34, Tryd.ntmps34
  have HO6 := hid (Own.nil (w.alloc (.cells #[.int .i64 tf, .string c1, .string c2, .string c3, .bool false] 23 (0, 0))) (w.heap.size + 1))
  have HL6 := hid (show ([] : B).length = 0 from rfl)
  go_wp2_with (at_builtin; refine Lib.wpList_append_own_string _ rfl (.tmp 20) (.tmp 21) 63 9 rfl (w.heap.size + 1) 5 i0 Tryd.underlying63 Tryd.underlying9 hi0 hz0 hz1 hz2 (.slice none 0 0) (0) (Lib.byteCells ([])) (by go_simp) (by have h8 := HO6.out; unfold Own at h8; rw [HL6.out] at h8; exact h8) c2 (by go_simp) (by rw [HZ2.out]; unfold maxLen; omega) (by rw [HZ2.out]; omega) HX0.out.lt ?_; intro v' w7 hown hgr _; have HO7 := hid (show Own w7 (w.heap.size + 1) v' ([] ++ tp) from Own.put (acc := []) (bs := tp) (by rw [HL6.out]; exact hown) (by rw [← HC2.out, strCells_str]) (by rw [HZ2.out, HLp.out])); have HX7 := hid (HX0.out.up (Own.below HO6.out HX0.out.lt hgr)); obtain ⟨p7, L7, d7, rfl⟩ := own_slice3 hown; obtain ⟨x0, x1, x2, x3, x4, xz⟩ := five HX7.out.box; clear hown hgr xz; have hcv := conv_own HO7.out)
  go_ret
  refine ⟨?_, HX7.out.low⟩
  rw [HV.out]
  simp
set_option maxRecDepth 20000 in
set_option maxHeartbeats 8000000 in
theorem short_star (th tp tq : B) (ths : Bool) (w : World) : Calls Tryd.prog 34 #[tgV ⟨3, th, tp, tq, ths⟩] w fun e w' => e = .returned (.string (str (shortT ⟨3, th, tp, tq, ths⟩))) ∧ Below w.heap.size w w' := by
  unfold tgV
  dsimp only
  have HV := hid (show shortT ⟨3, th, tp, tq, ths⟩ = [42] from rfl)
  rw [HV.out]
  go_enter Tryd.func34, Tryd.ntmps34
  go_wp2
  go_ret
  exact ⟨rfl, below_new _ _⟩
theorem short_any (t : TG) (hsz : t.host.length + t.path.length + t.query.length ≤ 70368744177664) (w : World) : Calls Tryd.prog 34 #[tgV t] w fun e w' => e = .returned (.string (str (shortT t))) ∧ Below w.heap.size w w' := by
  obtain ⟨tf, th, tp, tq, ths⟩ := t
  by_cases h3 : tf = 3
  · subst h3; exact short_star th tp tq ths w
  · by_cases h2 : tf = 2
    · by_cases hp : tp = [47]
      · cases hh : ths with
        | true => exact short_two_root_q tf th tp tq true h2 hp rfl hsz w
        | false => exact short_two_root_n tf th tp tq false h2 hp rfl hsz w
      · cases hh : ths with
        | true => exact short_two_path_q tf th tp tq true h2 hp rfl hsz w
        | false => exact short_two_path_n tf th tp tq false h2 hp rfl hsz w
    · cases hh : ths with
      | true => exact short_path_q tf th tp tq true h2 h3 rfl hsz w
      | false => exact short_path_n tf th tp tq false h2 h3 rfl hsz w
end Go.Proofs.YtbdbmlklijmefaaDoor
