/- The document's reader of bodies: End, Trailers. -/
import Derived.Test.YtnlmjlfoeodleaaGreatDoorDBNewP
namespace Go.Proofs.YtnlmjlfoeodleaaGreatDoor
open Go.RowKit

theorem wp_store_bd {w : World} {o : Oper} {a : Act} {K : Act → World → Prop} {Q : Exit → Act → World → Prop} (x y : Operand) (ho : o.op = .store 37 x y) (g : Nat) (hx : a.eval x = .pointer (some ⟨g, 0, none⟩)) (z0 z1 z2 z3 : Int) (z4 : Bool) (z5 z6 z7 z8 z9 z10 z11 z12 z14 : Int) (a1 a2 : Option Addr) (n1 n2 k1 k2 : Nat) (hy : a.eval y = .agg #[.int .i64 z0, .int .i64 z1, .int .i64 z2, .int .i64 z3, .bool z4, .int .i64 z5, .int .i64 z6, .int .i64 z7, .int .i64 z8, .int .i64 z9, .int .i64 z10, .int .i64 z11, .int .i64 z12, .slice a1 n1 k1, .int .i64 z14, .slice a2 n2 k2])
    {x0 x1 x2 x3 x4 x5 x6 x7 x8 x9 x10 x11 x12 x13 x14 x15 : Value} {T : TypeId} (hb : w.heap[g]? = some (.cells #[x0, x1, x2, x3, x4, x5, x6, x7, x8, x9, x10, x11, x12, x13, x14, x15] T (0, 0)))
    (h : ∀ U, U.heap[g]? = some (.cells #[.int .i64 z0, .int .i64 z1, .int .i64 z2, .int .i64 z3, .bool z4, .int .i64 z5, .int .i64 z6, .int .i64 z7, .int .i64 z8, .int .i64 z9, .int .i64 z10, .int .i64 z11, .int .i64 z12, .slice a1 n1 k1, .int .i64 z14, .slice a2 n2 k2] T (0, 0)) → Only (fun k => k = g) w U → U.heap.size = w.heap.size → K (a.put o.dst undef) U) : o.wp Tryz.prog a w K Q := by
  obtain ⟨b0, b1, b2, b3, b4, b5, b6, b7, b8, b9, b10, b11, b12, b13, b14, b15, bz⟩ := cells16 hb
  have bz0 := bz 0
  have bz1 := bz 1
  have bz2 := bz 2
  have bz3 := bz 3
  have bz4 := bz 4
  have bz5 := bz 5
  have bz6 := bz 6
  have bz7 := bz 7
  have bz8 := bz 8
  have bz9 := bz 9
  have bz10 := bz 10
  have bz11 := bz 11
  have bz12 := bz 12
  have bz13 := bz 13
  have bz14 := bz 14
  have bz15 := bz 15
  have h1 : ((((((((((((((((w.setCell ⟨g, 0, none⟩ (.int .i64 z0)).setCell ⟨g, 1, none⟩ (.int .i64 z1)).setCell ⟨g, 2, none⟩ (.int .i64 z2)).setCell ⟨g, 3, none⟩ (.int .i64 z3)).setCell ⟨g, 4, none⟩ (.bool z4)).setCell ⟨g, 5, none⟩ (.int .i64 z5)).setCell ⟨g, 6, none⟩ (.int .i64 z6)).setCell ⟨g, 7, none⟩ (.int .i64 z7)).setCell ⟨g, 8, none⟩ (.int .i64 z8)).setCell ⟨g, 9, none⟩ (.int .i64 z9)).setCell ⟨g, 10, none⟩ (.int .i64 z10)).setCell ⟨g, 11, none⟩ (.int .i64 z11)).setCell ⟨g, 12, none⟩ (.int .i64 z12)).setCell ⟨g, 13, none⟩ (.slice a1 n1 k1)).setCell ⟨g, 14, none⟩ (.int .i64 z14)).setCell ⟨g, 15, none⟩ (.slice a2 n2 k2)).heap[g]? = some (.cells #[.int .i64 z0, .int .i64 z1, .int .i64 z2, .int .i64 z3, .bool z4, .int .i64 z5, .int .i64 z6, .int .i64 z7, .int .i64 z8, .int .i64 z9, .int .i64 z10, .int .i64 z11, .int .i64 z12, .slice a1 n1 k1, .int .i64 z14, .slice a2 n2 k2] T (0, 0)) := by simp [World.setCell, Array.getElem?_modify, hb]
  have h2 : Only (fun k => k = g) w ((((((((((((((((w.setCell ⟨g, 0, none⟩ (.int .i64 z0)).setCell ⟨g, 1, none⟩ (.int .i64 z1)).setCell ⟨g, 2, none⟩ (.int .i64 z2)).setCell ⟨g, 3, none⟩ (.int .i64 z3)).setCell ⟨g, 4, none⟩ (.bool z4)).setCell ⟨g, 5, none⟩ (.int .i64 z5)).setCell ⟨g, 6, none⟩ (.int .i64 z6)).setCell ⟨g, 7, none⟩ (.int .i64 z7)).setCell ⟨g, 8, none⟩ (.int .i64 z8)).setCell ⟨g, 9, none⟩ (.int .i64 z9)).setCell ⟨g, 10, none⟩ (.int .i64 z10)).setCell ⟨g, 11, none⟩ (.int .i64 z11)).setCell ⟨g, 12, none⟩ (.int .i64 z12)).setCell ⟨g, 13, none⟩ (.slice a1 n1 k1)).setCell ⟨g, 14, none⟩ (.int .i64 z14)).setCell ⟨g, 15, none⟩ (.slice a2 n2 k2)) := by
    iterate 16 refine Only.set (F := fun k => k = g) ?_ rfl _
    exact Only.refl _ _
  have h3 : ((((((((((((((((w.setCell ⟨g, 0, none⟩ (.int .i64 z0)).setCell ⟨g, 1, none⟩ (.int .i64 z1)).setCell ⟨g, 2, none⟩ (.int .i64 z2)).setCell ⟨g, 3, none⟩ (.int .i64 z3)).setCell ⟨g, 4, none⟩ (.bool z4)).setCell ⟨g, 5, none⟩ (.int .i64 z5)).setCell ⟨g, 6, none⟩ (.int .i64 z6)).setCell ⟨g, 7, none⟩ (.int .i64 z7)).setCell ⟨g, 8, none⟩ (.int .i64 z8)).setCell ⟨g, 9, none⟩ (.int .i64 z9)).setCell ⟨g, 10, none⟩ (.int .i64 z10)).setCell ⟨g, 11, none⟩ (.int .i64 z11)).setCell ⟨g, 12, none⟩ (.int .i64 z12)).setCell ⟨g, 13, none⟩ (.slice a1 n1 k1)).setCell ⟨g, 14, none⟩ (.int .i64 z14)).setCell ⟨g, 15, none⟩ (.slice a2 n2 k2)).heap.size = w.heap.size := by simp
  replace h := h _ h1 h2 h3
  clear h1 h2 h3
  unfold Oper.wp execOp
  simp only [ho, hx, hy]
  go_simp
  exact h
structure RdEB (U : World) (g : Nat) (o1 : Obj) : Prop where
  box : U.heap[g]? = some o1
/-- What the document's End answers. -/
def DEndB (K N m : Int) (s : BS) (d : DK) (lp : Option Addr) (ln lc : Nat) (tp : Option Addr) (tn tc : Nat) (w : World) (e : Ending) (w' : World) : Prop :=
  e = .returned (.tuple #[.agg (bdV K N m (shutX s) d (.slice lp ln lc) (.slice tp tn tc)), .int .i64 ((shutX s).err : Int)]) ∧ DkAt w' d lp lc tp tc ∧ Below w.heap.size w w'
set_option maxRecDepth 20000 in
set_option maxHeartbeats 8000000 in
theorem dbe_o1 (K N m : Int) (s : BS) (d : DK) (lp tp : Option Addr) (ln lc tn tc : Nat) (w : World) (hA : DkAt w d lp lc tp tc) (hv : overX s = true) (hD : s.done = true) : Calls Tryz.prog 15 #[.agg (bdV K N m s d (.slice lp ln lc) (.slice tp tn tc))] w (DEndB K N m s d lp ln lc tp tn tc w) := by
  have HS := hid (BFS.start (bdV K N m s d (.slice lp ln lc) (.slice tp tn tc)) hA)
  have hsh := shut_over hv
  unfold DEndB
  obtain ⟨T, hT⟩ : ∃ T : Int, (s.told : Int) = T := ⟨_, rfl⟩
  obtain ⟨E, hE⟩ : ∃ E : Int, (s.err : Int) = E := ⟨_, rfl⟩
  rw [hsh]
  obtain ⟨most, len, st, e0, digits, size, more, line, bytes, tr, gh⟩ := d
  unfold bdV at HS ⊢
  dsimp only at HS ⊢
  rw [hD, hT, hE] at HS
  (try rw [hD])
  rw [hT]
  (try rw [hE])
  (try rw [show ((32 : Nat) : Int) = 32 from rfl])
  clear hv
  clear hA hT hE hD hsh
  go_enter Tryz.func15, Tryz.ntmps15
  go_wp2
  (try simp only [Exit.inBlock, Exit.then])
  (try go_wp2)
  have HW1 := hid (show BFS w (((w.alloc (Obj.cells #[.int .i64 K, .int .i64 N, .int .i64 m, .int .i64 T, .bool true, .int .i64 E, .int .i64 (most : Int), .int .i64 (len : Int), .int .i64 (st : Int), .int .i64 (e0 : Int), .int .i64 (digits : Int), .int .i64 (size : Int), .int .i64 (more : Int), .slice lp ln lc, .int .i64 (bytes : Int), .slice tp tn tc] 37 (0, 0))).alloc (Obj.cells #[.int .i64 0, .int .i64 0, .int .i64 0, .int .i64 0, .bool false, .int .i64 0, .int .i64 0, .int .i64 0, .int .i64 0, .int .i64 0, .int .i64 0, .int .i64 0, .int .i64 0, .slice none 0 0, .int .i64 0, .slice none 0 0] 37 (0, 0)))).drew #[.int .i64 K, .int .i64 N, .int .i64 m, .int .i64 T, .bool true, .int .i64 E, .int .i64 (most : Int), .int .i64 (len : Int), .int .i64 (st : Int), .int .i64 (e0 : Int), .int .i64 (digits : Int), .int .i64 (size : Int), .int .i64 (more : Int), .slice lp ln lc, .int .i64 (bytes : Int), .slice tp tn tc] ⟨most, len, st, e0, digits, size, more, line, bytes, tr, gh⟩ lp lc tp tc (.slice none 0 0) [] from HS.out.next ⟨rfl, rfl, rfl, Nat.le_refl _, fun _ _ => rfl⟩)
  generalize hW1 : (((w.alloc (Obj.cells #[.int .i64 K, .int .i64 N, .int .i64 m, .int .i64 T, .bool true, .int .i64 E, .int .i64 (most : Int), .int .i64 (len : Int), .int .i64 (st : Int), .int .i64 (e0 : Int), .int .i64 (digits : Int), .int .i64 (size : Int), .int .i64 (more : Int), .slice lp ln lc, .int .i64 (bytes : Int), .slice tp tn tc] 37 (0, 0))).alloc (Obj.cells #[.int .i64 0, .int .i64 0, .int .i64 0, .int .i64 0, .bool false, .int .i64 0, .int .i64 0, .int .i64 0, .int .i64 0, .int .i64 0, .int .i64 0, .int .i64 0, .int .i64 0, .slice none 0 0, .int .i64 0, .slice none 0 0] 37 (0, 0)))).drew = W1 at HW1
  refine wp_region_noPanic ?_
  refine any_begin 5 (by kernel_rfl) (by kernel_rfl) ?_
  rw [hW1]
  clear hW1
  refine late_begin (fun U => RdEB U w.heap.size (.cells #[.int .i64 K, .int .i64 N, .int .i64 m, .int .i64 T, .bool true, .int .i64 E, .int .i64 (most : Int), .int .i64 (len : Int), .int .i64 (st : Int), .int .i64 (e0 : Int), .int .i64 (digits : Int), .int .i64 (size : Int), .int .i64 (more : Int), .slice lp ln lc, .int .i64 (bytes : Int), .slice tp tn tc] 37 (0, 0))) (fun _ => false) ⟨HW1.out.b1⟩ (fun hS => ?_)
  refine late_take (i := 0) (some 19) rfl rfl (by kernel_rfl) (by kernel_rfl) (by kernel_rfl) (by kernel_rfl) (by kernel_rfl) (fun _ _ _ h => h) (by rfl) (v := .agg #[.int .i64 K, .int .i64 N, .int .i64 m, .int .i64 T, .bool true, .int .i64 E, .int .i64 (most : Int), .int .i64 (len : Int), .int .i64 (st : Int), .int .i64 (e0 : Int), .int .i64 (digits : Int), .int .i64 (size : Int), .int .i64 (more : Int), .slice lp ln lc, .int .i64 (bytes : Int), .slice tp tn tc]) ?hy0e hS ?rest0e
  case hy0e => intro w0 hSw; obtain ⟨a0, a1, a2, a3, a4, a5, a6, a7, a8, a9, a10, a11, a12, a13, a14, a15, _⟩ := cells16 hSw.box; go_simp; try with_reducible rfl
  simp only [Act.put, List.setIfInBounds_toArray, List.set_cons_zero, List.set_cons_succ]
  refine late_take (i := 1) (some 20) rfl rfl (by kernel_rfl) (by kernel_rfl) (by kernel_rfl) (by kernel_rfl) (by kernel_rfl) (fun _ _ _ h => h) (by rfl) (v := ?v1e) ?hy1e hS ?rest1e
  case hy1e => intro w0 hSw; obtain ⟨a0, a1, a2, a3, a4, a5, a6, a7, a8, a9, a10, a11, a12, a13, a14, a15, _⟩ := cells16 hSw.box; go_simp; try with_reducible rfl
  simp only [Act.put, List.setIfInBounds_toArray, List.set_cons_zero, List.set_cons_succ]
  refine late_take (i := 2) (some 21) rfl rfl (by kernel_rfl) (by kernel_rfl) (by kernel_rfl) (by kernel_rfl) (by kernel_rfl) (fun _ _ _ h => h) (by rfl) (v := ?v2e) ?hy2e hS ?rest2e
  case hy2e => intro w0 hSw; obtain ⟨a0, a1, a2, a3, a4, a5, a6, a7, a8, a9, a10, a11, a12, a13, a14, a15, _⟩ := cells16 hSw.box; go_simp; try with_reducible rfl
  simp only [Act.put, List.setIfInBounds_toArray, List.set_cons_zero, List.set_cons_succ]
  refine wpAnyD_one (i := 3) (by kernel_rfl) rfl (fun K' hK => ?_)
  rw [if_pos (by rfl)]
  refine wp_store_bd (.tmp 2) (.tmp 19) rfl (w.heap.size + 1) (by go_simp) K N m T true E (most : Int) (len : Int) (st : Int) (e0 : Int) (digits : Int) (size : Int) (more : Int) (bytes : Int) lp tp ln tn lc tc (by go_simp) HW1.out.b2 ?_
  intro U hU hO hZ
  have hS9 : RdEB U w.heap.size (.cells #[.int .i64 K, .int .i64 N, .int .i64 m, .int .i64 T, .bool true, .int .i64 E, .int .i64 (most : Int), .int .i64 (len : Int), .int .i64 (st : Int), .int .i64 (e0 : Int), .int .i64 (digits : Int), .int .i64 (size : Int), .int .i64 (more : Int), .slice lp ln lc, .int .i64 (bytes : Int), .slice tp tn tc] 37 (0, 0)) := ⟨(hO.block _ (lt_of_heap HW1.out.b1) (fun e => by have e2 : w.heap.size = w.heap.size + 1 := e; omega)).trans HW1.out.b1⟩
  have HU := hid hU
  have HO := hid (bfs_out HW1.out hO (zz_free HW1.out) rfl)
  show K' (Act.put _ none _) _
  refine hK _ _ ⟨fun _ => hS9, ?_⟩
  clear hK K' hU hO hZ
  (try simp only [Act.put])
  refine late_take (i := 4) (some 3) rfl rfl (by kernel_rfl) (by kernel_rfl) (by kernel_rfl) (by kernel_rfl) (by kernel_rfl) (fun _ _ _ h => h) (by rfl) (v := ?v4e) ?hy4e hS9 ?rest4e
  case hy4e => intro w0 hSw; obtain ⟨a0, a1, a2, a3, a4, a5, a6, a7, a8, a9, a10, a11, a12, a13, a14, a15, _⟩ := cells16 hSw.box; go_simp; try with_reducible rfl
  simp only [Act.put, List.setIfInBounds_toArray, List.set_cons_zero, List.set_cons_succ]
  refine late_done (by kernel_rfl) ?_ _
  refine NoPanic.normal ?_
  go_wp2
  refine bodyPost_ret (results_bd2 rfl _ _ _ 37 _ (0, 0) rfl HU.out rfl) rfl ?_
  obtain ⟨r1, _, r3⟩ := HO.out
  exact ⟨rfl, r1, r3⟩
set_option maxRecDepth 20000 in
set_option maxHeartbeats 8000000 in
theorem dbe_o2 (K N m : Int) (s : BS) (d : DK) (lp tp : Option Addr) (ln lc tn tc : Nat) (w : World) (hA : DkAt w d lp lc tp tc) (hv : overX s = true) (hD : s.done = false) (hE0 : s.err ≠ 0) : Calls Tryz.prog 15 #[.agg (bdV K N m s d (.slice lp ln lc) (.slice tp tn tc))] w (DEndB K N m s d lp ln lc tp tn tc w) := by
  have HS := hid (BFS.start (bdV K N m s d (.slice lp ln lc) (.slice tp tn tc)) hA)
  have hsh := shut_over hv
  unfold DEndB
  obtain ⟨T, hT⟩ : ∃ T : Int, (s.told : Int) = T := ⟨_, rfl⟩
  obtain ⟨E, hE⟩ : ∃ E : Int, (s.err : Int) = E := ⟨_, rfl⟩
  rw [hsh]
  obtain ⟨most, len, st, e0, digits, size, more, line, bytes, tr, gh⟩ := d
  unfold bdV at HS ⊢
  dsimp only at HS ⊢
  rw [hD, hT, hE] at HS
  (try rw [hD])
  rw [hT]
  (try rw [hE])
  (try rw [show ((32 : Nat) : Int) = 32 from rfl])
  have hEn : (E != 0) = true := by simp; omega
  clear hv
  clear hA hT hE hD hsh
  go_enter Tryz.func15, Tryz.ntmps15
  go_wp2
  (try simp only [Exit.inBlock, Exit.then])
  (try go_wp2)
  have HW1 := hid (show BFS w (((w.alloc (Obj.cells #[.int .i64 K, .int .i64 N, .int .i64 m, .int .i64 T, .bool false, .int .i64 E, .int .i64 (most : Int), .int .i64 (len : Int), .int .i64 (st : Int), .int .i64 (e0 : Int), .int .i64 (digits : Int), .int .i64 (size : Int), .int .i64 (more : Int), .slice lp ln lc, .int .i64 (bytes : Int), .slice tp tn tc] 37 (0, 0))).alloc (Obj.cells #[.int .i64 0, .int .i64 0, .int .i64 0, .int .i64 0, .bool false, .int .i64 0, .int .i64 0, .int .i64 0, .int .i64 0, .int .i64 0, .int .i64 0, .int .i64 0, .int .i64 0, .slice none 0 0, .int .i64 0, .slice none 0 0] 37 (0, 0)))).drew #[.int .i64 K, .int .i64 N, .int .i64 m, .int .i64 T, .bool false, .int .i64 E, .int .i64 (most : Int), .int .i64 (len : Int), .int .i64 (st : Int), .int .i64 (e0 : Int), .int .i64 (digits : Int), .int .i64 (size : Int), .int .i64 (more : Int), .slice lp ln lc, .int .i64 (bytes : Int), .slice tp tn tc] ⟨most, len, st, e0, digits, size, more, line, bytes, tr, gh⟩ lp lc tp tc (.slice none 0 0) [] from HS.out.next ⟨rfl, rfl, rfl, Nat.le_refl _, fun _ _ => rfl⟩)
  generalize hW1 : (((w.alloc (Obj.cells #[.int .i64 K, .int .i64 N, .int .i64 m, .int .i64 T, .bool false, .int .i64 E, .int .i64 (most : Int), .int .i64 (len : Int), .int .i64 (st : Int), .int .i64 (e0 : Int), .int .i64 (digits : Int), .int .i64 (size : Int), .int .i64 (more : Int), .slice lp ln lc, .int .i64 (bytes : Int), .slice tp tn tc] 37 (0, 0))).alloc (Obj.cells #[.int .i64 0, .int .i64 0, .int .i64 0, .int .i64 0, .bool false, .int .i64 0, .int .i64 0, .int .i64 0, .int .i64 0, .int .i64 0, .int .i64 0, .int .i64 0, .int .i64 0, .slice none 0 0, .int .i64 0, .slice none 0 0] 37 (0, 0)))).drew = W1 at HW1
  refine wp_region_noPanic ?_
  refine any_begin 5 (by kernel_rfl) (by kernel_rfl) ?_
  rw [hW1]
  clear hW1
  refine late_begin (fun U => RdEB U w.heap.size (.cells #[.int .i64 K, .int .i64 N, .int .i64 m, .int .i64 T, .bool false, .int .i64 E, .int .i64 (most : Int), .int .i64 (len : Int), .int .i64 (st : Int), .int .i64 (e0 : Int), .int .i64 (digits : Int), .int .i64 (size : Int), .int .i64 (more : Int), .slice lp ln lc, .int .i64 (bytes : Int), .slice tp tn tc] 37 (0, 0))) (fun _ => false) ⟨HW1.out.b1⟩ (fun hS => ?_)
  refine late_take (i := 0) (some 19) rfl rfl (by kernel_rfl) (by kernel_rfl) (by kernel_rfl) (by kernel_rfl) (by kernel_rfl) (fun _ _ _ h => h) (by rfl) (v := .agg #[.int .i64 K, .int .i64 N, .int .i64 m, .int .i64 T, .bool false, .int .i64 E, .int .i64 (most : Int), .int .i64 (len : Int), .int .i64 (st : Int), .int .i64 (e0 : Int), .int .i64 (digits : Int), .int .i64 (size : Int), .int .i64 (more : Int), .slice lp ln lc, .int .i64 (bytes : Int), .slice tp tn tc]) ?hy0e hS ?rest0e
  case hy0e => intro w0 hSw; obtain ⟨a0, a1, a2, a3, a4, a5, a6, a7, a8, a9, a10, a11, a12, a13, a14, a15, _⟩ := cells16 hSw.box; go_simp; try with_reducible rfl
  simp only [Act.put, List.setIfInBounds_toArray, List.set_cons_zero, List.set_cons_succ]
  refine late_take (i := 1) (some 20) rfl rfl (by kernel_rfl) (by kernel_rfl) (by kernel_rfl) (by kernel_rfl) (by kernel_rfl) (fun _ _ _ h => h) (by rfl) (v := ?v1e) ?hy1e hS ?rest1e
  case hy1e => intro w0 hSw; obtain ⟨a0, a1, a2, a3, a4, a5, a6, a7, a8, a9, a10, a11, a12, a13, a14, a15, _⟩ := cells16 hSw.box; go_simp; try with_reducible rfl
  simp only [Act.put, List.setIfInBounds_toArray, List.set_cons_zero, List.set_cons_succ]
  refine late_take (i := 2) (some 21) rfl rfl (by kernel_rfl) (by kernel_rfl) (by kernel_rfl) (by kernel_rfl) (by kernel_rfl) (fun _ _ _ h => h) (by rfl) (v := ?v2e) ?hy2e hS ?rest2e
  case hy2e => intro w0 hSw; obtain ⟨a0, a1, a2, a3, a4, a5, a6, a7, a8, a9, a10, a11, a12, a13, a14, a15, _⟩ := cells16 hSw.box; go_simp; try with_reducible rfl
  simp only [Act.put, List.setIfInBounds_toArray, List.set_cons_zero, List.set_cons_succ]
  refine wpAnyD_one (i := 3) (by kernel_rfl) rfl (fun K' hK => ?_)
  rw [if_pos (by rfl)]
  refine wp_store_bd (.tmp 2) (.tmp 19) rfl (w.heap.size + 1) (by go_simp) K N m T false E (most : Int) (len : Int) (st : Int) (e0 : Int) (digits : Int) (size : Int) (more : Int) (bytes : Int) lp tp ln tn lc tc (by go_simp) HW1.out.b2 ?_
  intro U hU hO hZ
  have hS9 : RdEB U w.heap.size (.cells #[.int .i64 K, .int .i64 N, .int .i64 m, .int .i64 T, .bool false, .int .i64 E, .int .i64 (most : Int), .int .i64 (len : Int), .int .i64 (st : Int), .int .i64 (e0 : Int), .int .i64 (digits : Int), .int .i64 (size : Int), .int .i64 (more : Int), .slice lp ln lc, .int .i64 (bytes : Int), .slice tp tn tc] 37 (0, 0)) := ⟨(hO.block _ (lt_of_heap HW1.out.b1) (fun e => by have e2 : w.heap.size = w.heap.size + 1 := e; omega)).trans HW1.out.b1⟩
  have HU := hid hU
  have HO := hid (bfs_out HW1.out hO (zz_free HW1.out) rfl)
  show K' (Act.put _ none _) _
  refine hK _ _ ⟨fun _ => hS9, ?_⟩
  clear hK K' hU hO hZ
  (try simp only [Act.put])
  refine late_take (i := 4) (some 3) rfl rfl (by kernel_rfl) (by kernel_rfl) (by kernel_rfl) (by kernel_rfl) (by kernel_rfl) (fun _ _ _ h => h) (by rfl) (v := ?v4e) ?hy4e hS9 ?rest4e
  case hy4e => intro w0 hSw; obtain ⟨a0, a1, a2, a3, a4, a5, a6, a7, a8, a9, a10, a11, a12, a13, a14, a15, _⟩ := cells16 hSw.box; go_simp; try with_reducible rfl
  simp only [Act.put, List.setIfInBounds_toArray, List.set_cons_zero, List.set_cons_succ]
  refine late_done (by kernel_rfl) ?_ _
  refine NoPanic.normal ?_
  go_wp2
  refine bodyPost_ret (results_bd2 rfl _ _ _ 37 _ (0, 0) rfl HU.out rfl) rfl ?_
  obtain ⟨r1, _, r3⟩ := HO.out
  exact ⟨rfl, r1, r3⟩
set_option maxRecDepth 20000 in
set_option maxHeartbeats 8000000 in
theorem dbe_3 (K N m : Int) (s : BS) (d : DK) (lp tp : Option Addr) (ln lc tn tc : Nat) (w : World) (hA : DkAt w d lp lc tp tc) (hv : overX s = false) (hk : s.kind = 3) (hK : (K == 3) = true) (hD : s.done = false) : Calls Tryz.prog 15 #[.agg (bdV K N m s d (.slice lp ln lc) (.slice tp tn tc))] w (DEndB K N m s d lp ln lc tp tn tc w) := by
  have HS := hid (BFS.start (bdV K N m s d (.slice lp ln lc) (.slice tp tn tc)) hA)
  have hsh := shut_3 hv hk
  have he0 := (over_no hv).2
  unfold DEndB
  obtain ⟨T, hT⟩ : ∃ T : Int, (s.told : Int) = T := ⟨_, rfl⟩
  obtain ⟨E, hE⟩ : ∃ E : Int, (s.err : Int) = E := ⟨_, rfl⟩
  rw [hsh]
  obtain ⟨most, len, st, e0, digits, size, more, line, bytes, tr, gh⟩ := d
  unfold bdV at HS ⊢
  dsimp only at HS ⊢
  rw [hD, hT, hE] at HS
  (try rw [hD])
  rw [hT]
  (try rw [hE])
  (try rw [show ((32 : Nat) : Int) = 32 from rfl])
  obtain rfl : E = 0 := by omega
  clear hv hk he0
  clear hA hT hE hD hsh
  go_enter Tryz.func15, Tryz.ntmps15
  go_wp2_with (refine wpList_store_b4 rfl (.tmp 18) (.const (.bool true)) rfl w.heap.size (by go_simp) true (by go_simp) HS.out.b1 ?_; intro V hV hO hZ; have H7 := hid (BFS.box HS.out hV hO (dk_only HS.out.rows hO (dk_apart HS.out.rows (box_free HS.out.b1).1 (box_free HS.out.b1).2).1 (dk_apart HS.out.rows (box_free HS.out.b1).1 (box_free HS.out.b1).2).2)); clear hV hO hZ)
  (try simp only [Exit.inBlock, Exit.then])
  (try go_wp2)
  have HW1 := hid (show BFS w (V).drew #[.int .i64 K, .int .i64 N, .int .i64 m, .int .i64 T, .bool true, .int .i64 0, .int .i64 (most : Int), .int .i64 (len : Int), .int .i64 (st : Int), .int .i64 (e0 : Int), .int .i64 (digits : Int), .int .i64 (size : Int), .int .i64 (more : Int), .slice lp ln lc, .int .i64 (bytes : Int), .slice tp tn tc] ⟨most, len, st, e0, digits, size, more, line, bytes, tr, gh⟩ lp lc tp tc (.slice none 0 0) [] from H7.out.next ⟨rfl, rfl, rfl, Nat.le_refl _, fun _ _ => rfl⟩)
  generalize hW1 : (V).drew = W1 at HW1
  refine wp_region_noPanic ?_
  refine any_begin 5 (by kernel_rfl) (by kernel_rfl) ?_
  rw [hW1]
  clear hW1
  refine late_begin (fun U => RdEB U w.heap.size (.cells #[.int .i64 K, .int .i64 N, .int .i64 m, .int .i64 T, .bool true, .int .i64 0, .int .i64 (most : Int), .int .i64 (len : Int), .int .i64 (st : Int), .int .i64 (e0 : Int), .int .i64 (digits : Int), .int .i64 (size : Int), .int .i64 (more : Int), .slice lp ln lc, .int .i64 (bytes : Int), .slice tp tn tc] 37 (0, 0))) (fun _ => false) ⟨HW1.out.b1⟩ (fun hS => ?_)
  refine late_take (i := 0) (some 19) rfl rfl (by kernel_rfl) (by kernel_rfl) (by kernel_rfl) (by kernel_rfl) (by kernel_rfl) (fun _ _ _ h => h) (by rfl) (v := .agg #[.int .i64 K, .int .i64 N, .int .i64 m, .int .i64 T, .bool true, .int .i64 0, .int .i64 (most : Int), .int .i64 (len : Int), .int .i64 (st : Int), .int .i64 (e0 : Int), .int .i64 (digits : Int), .int .i64 (size : Int), .int .i64 (more : Int), .slice lp ln lc, .int .i64 (bytes : Int), .slice tp tn tc]) ?hy0e hS ?rest0e
  case hy0e => intro w0 hSw; obtain ⟨a0, a1, a2, a3, a4, a5, a6, a7, a8, a9, a10, a11, a12, a13, a14, a15, _⟩ := cells16 hSw.box; go_simp; try with_reducible rfl
  simp only [Act.put, List.setIfInBounds_toArray, List.set_cons_zero, List.set_cons_succ]
  refine late_take (i := 1) (some 20) rfl rfl (by kernel_rfl) (by kernel_rfl) (by kernel_rfl) (by kernel_rfl) (by kernel_rfl) (fun _ _ _ h => h) (by rfl) (v := ?v1e) ?hy1e hS ?rest1e
  case hy1e => intro w0 hSw; obtain ⟨a0, a1, a2, a3, a4, a5, a6, a7, a8, a9, a10, a11, a12, a13, a14, a15, _⟩ := cells16 hSw.box; go_simp; try with_reducible rfl
  simp only [Act.put, List.setIfInBounds_toArray, List.set_cons_zero, List.set_cons_succ]
  refine late_take (i := 2) (some 21) rfl rfl (by kernel_rfl) (by kernel_rfl) (by kernel_rfl) (by kernel_rfl) (by kernel_rfl) (fun _ _ _ h => h) (by rfl) (v := ?v2e) ?hy2e hS ?rest2e
  case hy2e => intro w0 hSw; obtain ⟨a0, a1, a2, a3, a4, a5, a6, a7, a8, a9, a10, a11, a12, a13, a14, a15, _⟩ := cells16 hSw.box; go_simp; try with_reducible rfl
  simp only [Act.put, List.setIfInBounds_toArray, List.set_cons_zero, List.set_cons_succ]
  refine wpAnyD_one (i := 3) (by kernel_rfl) rfl (fun K' hK => ?_)
  rw [if_pos (by rfl)]
  refine wp_store_bd (.tmp 2) (.tmp 19) rfl (w.heap.size + 1) (by go_simp) K N m T true 0 (most : Int) (len : Int) (st : Int) (e0 : Int) (digits : Int) (size : Int) (more : Int) (bytes : Int) lp tp ln tn lc tc (by go_simp) HW1.out.b2 ?_
  intro U hU hO hZ
  have hS9 : RdEB U w.heap.size (.cells #[.int .i64 K, .int .i64 N, .int .i64 m, .int .i64 T, .bool true, .int .i64 0, .int .i64 (most : Int), .int .i64 (len : Int), .int .i64 (st : Int), .int .i64 (e0 : Int), .int .i64 (digits : Int), .int .i64 (size : Int), .int .i64 (more : Int), .slice lp ln lc, .int .i64 (bytes : Int), .slice tp tn tc] 37 (0, 0)) := ⟨(hO.block _ (lt_of_heap HW1.out.b1) (fun e => by have e2 : w.heap.size = w.heap.size + 1 := e; omega)).trans HW1.out.b1⟩
  have HU := hid hU
  have HO := hid (bfs_out HW1.out hO (zz_free HW1.out) rfl)
  show K' (Act.put _ none _) _
  refine hK _ _ ⟨fun _ => hS9, ?_⟩
  clear hK K' hU hO hZ
  (try simp only [Act.put])
  refine late_take (i := 4) (some 3) rfl rfl (by kernel_rfl) (by kernel_rfl) (by kernel_rfl) (by kernel_rfl) (by kernel_rfl) (fun _ _ _ h => h) (by rfl) (v := ?v4e) ?hy4e hS9 ?rest4e
  case hy4e => intro w0 hSw; obtain ⟨a0, a1, a2, a3, a4, a5, a6, a7, a8, a9, a10, a11, a12, a13, a14, a15, _⟩ := cells16 hSw.box; go_simp; try with_reducible rfl
  simp only [Act.put, List.setIfInBounds_toArray, List.set_cons_zero, List.set_cons_succ]
  refine late_done (by kernel_rfl) ?_ _
  refine NoPanic.normal ?_
  go_wp2
  refine bodyPost_ret (results_bd2 rfl _ _ _ 37 _ (0, 0) rfl HU.out rfl) rfl ?_
  obtain ⟨r1, _, r3⟩ := HO.out
  exact ⟨rfl, r1, r3⟩
set_option maxRecDepth 20000 in
set_option maxHeartbeats 8000000 in
theorem dbe_n (K N m : Int) (s : BS) (d : DK) (lp tp : Option Addr) (ln lc tn tc : Nat) (w : World) (hA : DkAt w d lp lc tp tc) (hv : overX s = false) (hk : s.kind ≠ 3) (hK : (K == 3) = false) (hD : s.done = false) : Calls Tryz.prog 15 #[.agg (bdV K N m s d (.slice lp ln lc) (.slice tp tn tc))] w (DEndB K N m s d lp ln lc tp tn tc w) := by
  have HS := hid (BFS.start (bdV K N m s d (.slice lp ln lc) (.slice tp tn tc)) hA)
  have hsh := shut_no hv hk
  have he0 := (over_no hv).2
  unfold DEndB
  obtain ⟨T, hT⟩ : ∃ T : Int, (s.told : Int) = T := ⟨_, rfl⟩
  obtain ⟨E, hE⟩ : ∃ E : Int, (s.err : Int) = E := ⟨_, rfl⟩
  rw [hsh]
  obtain ⟨most, len, st, e0, digits, size, more, line, bytes, tr, gh⟩ := d
  unfold bdV at HS ⊢
  dsimp only at HS ⊢
  rw [hD, hT, hE] at HS
  (try rw [hD])
  rw [hT]
  (try rw [hE])
  (try rw [show ((32 : Nat) : Int) = 32 from rfl])
  obtain rfl : E = 0 := by omega
  clear hv hk he0
  clear hA hT hE hD hsh
  go_enter Tryz.func15, Tryz.ntmps15
  go_wp2_with (refine wpList_store_b5 rfl (.tmp 4) (.const (.int .i64 32)) rfl w.heap.size (by go_simp) 32 (by go_simp) HS.out.b1 ?_; intro V hV hO hZ; have H7 := hid (BFS.box HS.out hV hO (dk_only HS.out.rows hO (dk_apart HS.out.rows (box_free HS.out.b1).1 (box_free HS.out.b1).2).1 (dk_apart HS.out.rows (box_free HS.out.b1).1 (box_free HS.out.b1).2).2)); clear hV hO hZ)
  (try simp only [Exit.inBlock, Exit.then])
  (try go_wp2)
  have HW1 := hid (show BFS w (V).drew #[.int .i64 K, .int .i64 N, .int .i64 m, .int .i64 T, .bool false, .int .i64 32, .int .i64 (most : Int), .int .i64 (len : Int), .int .i64 (st : Int), .int .i64 (e0 : Int), .int .i64 (digits : Int), .int .i64 (size : Int), .int .i64 (more : Int), .slice lp ln lc, .int .i64 (bytes : Int), .slice tp tn tc] ⟨most, len, st, e0, digits, size, more, line, bytes, tr, gh⟩ lp lc tp tc (.slice none 0 0) [] from H7.out.next ⟨rfl, rfl, rfl, Nat.le_refl _, fun _ _ => rfl⟩)
  generalize hW1 : (V).drew = W1 at HW1
  refine wp_region_noPanic ?_
  refine any_begin 5 (by kernel_rfl) (by kernel_rfl) ?_
  rw [hW1]
  clear hW1
  refine late_begin (fun U => RdEB U w.heap.size (.cells #[.int .i64 K, .int .i64 N, .int .i64 m, .int .i64 T, .bool false, .int .i64 32, .int .i64 (most : Int), .int .i64 (len : Int), .int .i64 (st : Int), .int .i64 (e0 : Int), .int .i64 (digits : Int), .int .i64 (size : Int), .int .i64 (more : Int), .slice lp ln lc, .int .i64 (bytes : Int), .slice tp tn tc] 37 (0, 0))) (fun _ => false) ⟨HW1.out.b1⟩ (fun hS => ?_)
  refine late_take (i := 0) (some 19) rfl rfl (by kernel_rfl) (by kernel_rfl) (by kernel_rfl) (by kernel_rfl) (by kernel_rfl) (fun _ _ _ h => h) (by rfl) (v := .agg #[.int .i64 K, .int .i64 N, .int .i64 m, .int .i64 T, .bool false, .int .i64 32, .int .i64 (most : Int), .int .i64 (len : Int), .int .i64 (st : Int), .int .i64 (e0 : Int), .int .i64 (digits : Int), .int .i64 (size : Int), .int .i64 (more : Int), .slice lp ln lc, .int .i64 (bytes : Int), .slice tp tn tc]) ?hy0e hS ?rest0e
  case hy0e => intro w0 hSw; obtain ⟨a0, a1, a2, a3, a4, a5, a6, a7, a8, a9, a10, a11, a12, a13, a14, a15, _⟩ := cells16 hSw.box; go_simp; try with_reducible rfl
  simp only [Act.put, List.setIfInBounds_toArray, List.set_cons_zero, List.set_cons_succ]
  refine late_take (i := 1) (some 20) rfl rfl (by kernel_rfl) (by kernel_rfl) (by kernel_rfl) (by kernel_rfl) (by kernel_rfl) (fun _ _ _ h => h) (by rfl) (v := ?v1e) ?hy1e hS ?rest1e
  case hy1e => intro w0 hSw; obtain ⟨a0, a1, a2, a3, a4, a5, a6, a7, a8, a9, a10, a11, a12, a13, a14, a15, _⟩ := cells16 hSw.box; go_simp; try with_reducible rfl
  simp only [Act.put, List.setIfInBounds_toArray, List.set_cons_zero, List.set_cons_succ]
  refine late_take (i := 2) (some 21) rfl rfl (by kernel_rfl) (by kernel_rfl) (by kernel_rfl) (by kernel_rfl) (by kernel_rfl) (fun _ _ _ h => h) (by rfl) (v := ?v2e) ?hy2e hS ?rest2e
  case hy2e => intro w0 hSw; obtain ⟨a0, a1, a2, a3, a4, a5, a6, a7, a8, a9, a10, a11, a12, a13, a14, a15, _⟩ := cells16 hSw.box; go_simp; try with_reducible rfl
  simp only [Act.put, List.setIfInBounds_toArray, List.set_cons_zero, List.set_cons_succ]
  refine wpAnyD_one (i := 3) (by kernel_rfl) rfl (fun K' hK => ?_)
  rw [if_pos (by rfl)]
  refine wp_store_bd (.tmp 2) (.tmp 19) rfl (w.heap.size + 1) (by go_simp) K N m T false 32 (most : Int) (len : Int) (st : Int) (e0 : Int) (digits : Int) (size : Int) (more : Int) (bytes : Int) lp tp ln tn lc tc (by go_simp) HW1.out.b2 ?_
  intro U hU hO hZ
  have hS9 : RdEB U w.heap.size (.cells #[.int .i64 K, .int .i64 N, .int .i64 m, .int .i64 T, .bool false, .int .i64 32, .int .i64 (most : Int), .int .i64 (len : Int), .int .i64 (st : Int), .int .i64 (e0 : Int), .int .i64 (digits : Int), .int .i64 (size : Int), .int .i64 (more : Int), .slice lp ln lc, .int .i64 (bytes : Int), .slice tp tn tc] 37 (0, 0)) := ⟨(hO.block _ (lt_of_heap HW1.out.b1) (fun e => by have e2 : w.heap.size = w.heap.size + 1 := e; omega)).trans HW1.out.b1⟩
  have HU := hid hU
  have HO := hid (bfs_out HW1.out hO (zz_free HW1.out) rfl)
  show K' (Act.put _ none _) _
  refine hK _ _ ⟨fun _ => hS9, ?_⟩
  clear hK K' hU hO hZ
  (try simp only [Act.put])
  refine late_take (i := 4) (some 3) rfl rfl (by kernel_rfl) (by kernel_rfl) (by kernel_rfl) (by kernel_rfl) (by kernel_rfl) (fun _ _ _ h => h) (by rfl) (v := ?v4e) ?hy4e hS9 ?rest4e
  case hy4e => intro w0 hSw; obtain ⟨a0, a1, a2, a3, a4, a5, a6, a7, a8, a9, a10, a11, a12, a13, a14, a15, _⟩ := cells16 hSw.box; go_simp; try with_reducible rfl
  simp only [Act.put, List.setIfInBounds_toArray, List.set_cons_zero, List.set_cons_succ]
  refine late_done (by kernel_rfl) ?_ _
  refine NoPanic.normal ?_
  go_wp2
  refine bodyPost_ret (results_bd2 rfl _ _ _ 37 _ (0, 0) rfl HU.out rfl) rfl ?_
  obtain ⟨r1, _, r3⟩ := HO.out
  exact ⟨rfl, r1, r3⟩
theorem dend_any {K N m : Int} {s : BS} {d : DK} (hR : RelB K N m s d) (lp tp : Option Addr) (ln lc tn tc : Nat) (w : World) (hA : DkAt w d lp lc tp tc) : Calls Tryz.prog 15 #[.agg (bdV K N m s d (.slice lp ln lc) (.slice tp tn tc))] w (DEndB K N m s d lp ln lc tp tn tc w) := by
  cases hv : overX s with
  | true =>
    cases hD : s.done with
    | true => exact dbe_o1 K N m s d lp tp ln lc tn tc w hA hv hD
    | false => exact dbe_o2 K N m s d lp tp ln lc tn tc w hA hv hD (by unfold overX at hv; rw [hD] at hv; simpa using hv)
  | false =>
    have hD := (over_no hv).1
    have hk := hR.k
    by_cases h3 : s.kind = 3
    · exact dbe_3 K N m s d lp tp ln lc tn tc w hA hv h3 (by rw [beq_iff_eq]; omega) hD
    · exact dbe_n K N m s d lp tp ln lc tn tc w hA hv h3 (by rw [beq_eq_false_iff_ne]; omega) hD
set_option maxRecDepth 20000 in
set_option maxHeartbeats 8000000 in
theorem dtr_a (K N m : Int) (s : BS) (d : DK) (lp tp : Option Addr) (ln lc tn tc : Nat) (w : World) (hK : (K != 2) = true) : Calls Tryz.prog 18 #[.agg (bdV K N m s d (.slice lp ln lc) (.slice tp tn tc))] w fun e w' => e = .returned (.slice none 0 0) ∧ Below w.heap.size w w' := by
  unfold bdV
  go_enter Tryz.func18, Tryz.ntmps18
  go_wp2
  go_ret
  exact ⟨rfl, below_new _ _⟩
set_option maxRecDepth 20000 in
set_option maxHeartbeats 8000000 in
theorem dtr_b (K N m : Int) (s : BS) (d : DK) (lp tp : Option Addr) (ln lc tn tc : Nat) (w : World) (hK : K = 2) (hD : s.done = false) : Calls Tryz.prog 18 #[.agg (bdV K N m s d (.slice lp ln lc) (.slice tp tn tc))] w fun e w' => e = .returned (.slice none 0 0) ∧ Below w.heap.size w w' := by
  unfold bdV
  rw [hD]
  subst hK
  go_enter Tryz.func18, Tryz.ntmps18
  go_wp2
  go_ret
  exact ⟨rfl, below_new _ _⟩
set_option maxRecDepth 20000 in
set_option maxHeartbeats 8000000 in
theorem dtr_c (K N m : Int) (s : BS) (d : DK) (lp tp : Option Addr) (ln lc tn tc : Nat) (w : World) (hK : K = 2) (hD : s.done = true) : Calls Tryz.prog 18 #[.agg (bdV K N m s d (.slice lp ln lc) (.slice tp tn tc))] w fun e w' => e = .returned (.slice tp tn tc) ∧ Below w.heap.size w w' := by
  unfold bdV
  rw [hD]
  subst hK
  go_enter Tryz.func18, Tryz.ntmps18
  go_wp2
  go_ret
  exact ⟨rfl, below_new _ _⟩
theorem dtr_any {K N m : Int} {s : BS} {d : DK} (hR : RelB K N m s d) (lp tp : Option Addr) (ln lc tn tc : Nat) (ht : d.tr.length = tn) (w : World) (hA : DkAt w d lp lc tp tc) : Calls Tryz.prog 18 #[.agg (bdV K N m s d (.slice lp ln lc) (.slice tp tn tc))] w fun e w' => ∃ q n c, e = .returned (.slice q n c) ∧ (trX s).length = n ∧ FAt w' q (trX s) ∧ Below w.heap.size w w' := by
  have hk := hR.k
  by_cases h2 : s.kind = 2
  · cases hD : s.done with
    | false =>
      refine (dtr_b K N m s d lp tp ln lc tn tc w (by omega) hD).mono ?_
      rintro e w' ⟨rfl, hb⟩
      have e1 : trX s = [] := by unfold trX; rw [if_neg (by rw [hD]; simp)]
      exact ⟨none, 0, 0, rfl, by rw [e1]; rfl, fun j f hj => by rw [e1] at hj; simp at hj, hb⟩
    | true =>
      refine (dtr_c K N m s d lp tp ln lc tn tc w (by omega) hD).mono ?_
      rintro e w' ⟨rfl, hb⟩
      have e1 : trX s = d.tr := by unfold trX; rw [if_pos ⟨hD, h2⟩]; exact (hR.rel h2).tr.symm
      exact ⟨tp, tn, tc, rfl, by rw [e1]; exact ht, by rw [e1]; exact hA.tr.next hb, hb⟩
  · refine (dtr_a K N m s d lp tp ln lc tn tc w (by simp; omega)).mono ?_
    rintro e w' ⟨rfl, hb⟩
    have e1 : trX s = [] := by unfold trX; rw [if_neg (fun h9 => h2 h9.2)]
    exact ⟨none, 0, 0, rfl, by rw [e1]; rfl, fun j f hj => by rw [e1] at hj; simp at hj, hb⟩
end Go.Proofs.YtnlmjlfoeodleaaGreatDoor
