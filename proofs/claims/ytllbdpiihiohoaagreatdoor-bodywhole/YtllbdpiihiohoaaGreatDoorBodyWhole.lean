/- BodyWhole: the body of all bytes at once, or the error. -/
import Derived.Test.YtllbdpiihiohoaaGreatDoorDBWhole
import Derived.Test.YtllbdpiihiohoaaGreatDoorBOpen
import Derived.Test.YtllbdpiihiohoaaGreatDoorRows
import Derived.Test.YtllbdpiihiohoaaGreatDoorCards
import Derived.Test.YtllbdpiihiohoaaGreatDoorTie
import Derived.Shelf.Vars
import Derived.ProofKit
import Derived.LaidMore
import Derived.LaidHandle
import Derived.OpenShut
import Derived.ShutString
import Derived.ChangeOld
import Derived.Stop.Joined
import Derived.Stop.LaidErr
import Derived.Deep.DeepHandedRow
import Derived.Deep.DeepWitnessRowRef
import Derived.SevenTiedAt
import Derived.ChangeArms
namespace Go.Proofs.YtllbdpiihiohoaaGreatDoor
open Go.RowKit

structure RdW (U : World) (g : Nat) (K N : Int) : Prop where
  f0 : U.cell? ⟨g, 0, none⟩ = some (.int .i64 K)
  f1 : U.cell? ⟨g, 1, none⟩ = some (.int .i64 N)
theorem rdW {U : World} {g : Nat} {K N : Int} {T : TypeId} (h : U.heap[g]? = some (.cells #[.int .i64 K, .int .i64 N] T (0, 0))) : RdW U g K N := by
  obtain ⟨h0, h1, _, _⟩ := cells2 h
  exact ⟨h0, h1⟩
set_option maxRecDepth 20000 in
set_option maxHeartbeats 16000000 in
theorem bwh_y (K N m : Int) (h9 : m ≤ 9223372036854775807) (b : B) (p : Option Addr) (n c : Nat) (hSl : SlOk p n c b) (hnn : n ≤ 140737488351232) (w : World) (ha : ArgAt w p b) (hE : EnvP w) (_hEe : EnvE w) (h0 : wholeX K N m b = 0) :
    Calls Tryz.prog 4 #[.agg #[.int .i64 K, .int .i64 N], .int .i64 m, .slice p n c] w fun e w' => e = .returned (.bool true) ∧ Below w.heap.size w w' := by
  have hn := hSl.len
  obtain ⟨X, hX⟩ : ∃ X, saidX (newX K N m) b = X := ⟨_, rfl⟩
  obtain ⟨T, hT⟩ : ∃ T, tookX (newX K N m) b = T := ⟨_, rfl⟩
  obtain ⟨M, hM⟩ : ∃ M, X.length = M := ⟨_, rfl⟩
  obtain ⟨TT, hTT⟩ : ∃ TT, str X = TT := ⟨_, rfl⟩
  have HWp := hid (fun (W : World) (q : Option Addr) (d bb : Nat) (ho : Own W bb (.slice q n d) b) (hb : Below w.heap.size w W) => whole_yes K N m h9 b q n d hn ho.cap (own_nil ho) (by omega) W ho.arg (hE.next hb) h0 hX hM hT)
  have HWd := hid (fun (W : World) (hb : Below w.heap.size w W) => (show Calls Tryz.prog 19 #[.agg #[.int .i64 K, .int .i64 N], .int .i64 m, .slice p n c] W (fun e w' => ∃ q d, e = .returned (.tuple #[.slice q M d, .int .i64 (T : Int), .int .i64 0]) ∧ Own w' W.heap.size (.slice q M d) X ∧ Below W.heap.size W w') from (dwhole_any K N m h9 b p n c hn hnn W (ha.next hb)).mono (by
    rintro e w' (⟨h1, _⟩ | ⟨_, q, d, rfl, ho, hb2⟩)
    · exact absurd h0 h1
    · rw [hX, hM] at ho
      rw [hX, hM, hT]
      exact ⟨q, d, rfl, ho, hb2⟩)))
  have HNm := hid (fun (W : World) => num_nil W)
  have HTT := hid hTT
  have HSu0 := hid (fun (W : World) (hb : Below w.heap.size w W) => sure_any W (hE.next hb))
  have HSl := hid hSl
  have HA := hid ha
  have HB0 := hid (below_new w (frmO K N))
  have HX0 := hid (heap_alloc_new w (frmO K N))
  clear hSl ha hE _hEe h0 hn hX hT hM hTT
  go_enter Tryz.func4, Tryz.ntmps4
  go_wp2
  have HB1 := hid (show Below w.heap.size w (w.alloc (Obj.cells #[.int .i64 K, .int .i64 N] 23 (0, 0))).drew from HB0.out.drew)
  have HX1 := hid (show (w.alloc (Obj.cells #[.int .i64 K, .int .i64 N] 23 (0, 0))).drew.heap[w.heap.size]? = some (Obj.cells #[.int .i64 K, .int .i64 N] 23 (0, 0)) from HX0.out)
  generalize hW1 : (w.alloc (Obj.cells #[.int .i64 K, .int .i64 N] 23 (0, 0))).drew = W1 at HB1 HX1
  refine wp_region_noPanic ?_
  refine any_begin 13 (by kernel_rfl) (by kernel_rfl) ?_
  rw [hW1]
  clear hW1
  have hS0 : RdW W1 w.heap.size K N := rdW HX1.out
  refine late_begin (fun U => RdW U w.heap.size K N) (fun _ => false) hS0 (fun hS => ?_)
  refine late_take (i := 0) (some 15) rfl rfl (by kernel_rfl) (by kernel_rfl) (by kernel_rfl) (by kernel_rfl) (by kernel_rfl) (fun _ _ _ h => h) (by rfl) (v := ?v0u) ?hy0u hS ?rest0u
  case hy0u => intro w0 hSw; have f0 := hSw.f0; have f1 := hSw.f1; go_simp; try with_reducible rfl
  simp only [Act.put, List.setIfInBounds_toArray, List.set_cons_zero, List.set_cons_succ]
  refine late_take (i := 1) (some 16) rfl rfl (by kernel_rfl) (by kernel_rfl) (by kernel_rfl) (by kernel_rfl) (by kernel_rfl) (fun _ _ _ h => h) (by rfl) (v := ?v1u) ?hy1u hS ?rest1u
  case hy1u => intro w0 hSw; have f0 := hSw.f0; have f1 := hSw.f1; go_simp; try with_reducible rfl
  simp only [Act.put, List.setIfInBounds_toArray, List.set_cons_zero, List.set_cons_succ]
  refine late_take (i := 2) (some 17) rfl rfl (by kernel_rfl) (by kernel_rfl) (by kernel_rfl) (by kernel_rfl) (by kernel_rfl) (fun _ _ _ h => h) (by rfl) (v := ?v2u) ?hy2u hS ?rest2u
  case hy2u => intro w0 hSw; have f0 := hSw.f0; have f1 := hSw.f1; go_simp; try with_reducible rfl
  simp only [Act.put, List.setIfInBounds_toArray, List.set_cons_zero, List.set_cons_succ]
  refine late_take (i := 3) (some 18) rfl rfl (by kernel_rfl) (by kernel_rfl) (by kernel_rfl) (by kernel_rfl) (by kernel_rfl) (fun _ _ _ h => h) (by rfl) (v := ?v3u) ?hy3u hS ?rest3u
  case hy3u => intro w0 hSw; have f0 := hSw.f0; have f1 := hSw.f1; go_simp; try with_reducible rfl
  simp only [Act.put, List.setIfInBounds_toArray, List.set_cons_zero, List.set_cons_succ]
  refine wpAnyD_one (i := 4) (by kernel_rfl) rfl (fun K' hK => ?_)
  rw [if_pos (by rfl)]
  refine wp_append_any (.tmp 17) (.tmp 18) rfl W1.heap.size (.slice none 0 0) 0 [] b (by go_simp) (Own.nil _ _) rfl p n c (by go_simp) HSl.out.len (HA.out.next HB1.out) HSl.out.nil (by omega) (Nat.le_refl _) ?_
  intro q2 d2 w2 ho hg _
  rw [Nat.zero_add] at ho ⊢
  rw [List.nil_append] at ho
  have HB2 := hid (show Below w.heap.size w w2 from HB1.out.trans ((below_grown hg).mono HB1.out.size))
  have HX2 := hid (blk_nextD HX1.out (below_grown hg))
  have HP := hid (HWp.out w2 q2 d2 _ ho HB2.out)
  have hS2 : RdW w2 w.heap.size K N := rdW HX2.out
  show K' (Act.put _ (some 19) _) _
  refine hK _ _ ⟨fun _ => hS2, ?_⟩
  clear hK K' ho hg hS hS0 HX1 HWp
  simp only [Act.put, List.setIfInBounds_toArray, List.set_cons_zero, List.set_cons_succ]
  refine wpAnyD_one (i := 5) (by kernel_rfl) rfl (fun K' hK => ?_)
  go_simp
  go_at_call 18
  refine HP.out.mono ?_
  rintro e w3 ⟨q3, d3, rfl, ho3, hb⟩
  have HB3 := hid (below_out HB2.out hb)
  have HX3 := hid (blk_nextD HX2.out hb)
  have HO3 := hid ho3
  clear ho3
  have hS3 : RdW w3 w.heap.size K N := rdW HX3.out
  refine hK _ _ ⟨fun _ => hS3, ?_⟩
  clear hK K' hb hS2 HX2 HP
  refine late_take (i := 6) (some 14) rfl rfl (by kernel_rfl) (by kernel_rfl) (by kernel_rfl) (by kernel_rfl) (by kernel_rfl) (fun _ _ _ h => h) (by rfl) (v := ?v6u) ?hy6u hS3 ?rest6u
  case hy6u => intro w0 hSw; have f0 := hSw.f0; have f1 := hSw.f1; go_simp; try with_reducible rfl
  simp only [Act.put, List.setIfInBounds_toArray, List.set_cons_zero, List.set_cons_succ]
  refine late_take (i := 7) (some 21) rfl rfl (by kernel_rfl) (by kernel_rfl) (by kernel_rfl) (by kernel_rfl) (by kernel_rfl) (fun _ _ _ h => h) (by rfl) (v := ?v7u) ?hy7u hS3 ?rest7u
  case hy7u => intro w0 hSw; have f0 := hSw.f0; have f1 := hSw.f1; go_simp; try with_reducible rfl
  simp only [Act.put, List.setIfInBounds_toArray, List.set_cons_zero, List.set_cons_succ]
  refine late_take (i := 8) (some 22) rfl rfl (by kernel_rfl) (by kernel_rfl) (by kernel_rfl) (by kernel_rfl) (by kernel_rfl) (fun _ _ _ h => h) (by rfl) (v := ?v8u) ?hy8u hS3 ?rest8u
  case hy8u => intro w0 hSw; have f0 := hSw.f0; have f1 := hSw.f1; go_simp; try with_reducible rfl
  simp only [Act.put, List.setIfInBounds_toArray, List.set_cons_zero, List.set_cons_succ]
  refine late_take (i := 9) (some 23) rfl rfl (by kernel_rfl) (by kernel_rfl) (by kernel_rfl) (by kernel_rfl) (by kernel_rfl) (fun _ _ _ h => h) (by rfl) (v := ?v9u) ?hy9u hS3 ?rest9u
  case hy9u => intro w0 hSw; have f0 := hSw.f0; have f1 := hSw.f1; go_simp; try with_reducible rfl
  simp only [Act.put, List.setIfInBounds_toArray, List.set_cons_zero, List.set_cons_succ]
  refine late_take (i := 10) (some 8) rfl rfl (by kernel_rfl) (by kernel_rfl) (by kernel_rfl) (by kernel_rfl) (by kernel_rfl) (fun _ _ _ h => h) (by rfl) (v := ?v10u) ?hy10u hS3 ?rest10u
  case hy10u => intro w0 hSw; have f0 := hSw.f0; have f1 := hSw.f1; go_simp; try with_reducible rfl
  simp only [Act.put, List.setIfInBounds_toArray, List.set_cons_zero, List.set_cons_succ]
  refine late_take (i := 11) (some 9) rfl rfl (by kernel_rfl) (by kernel_rfl) (by kernel_rfl) (by kernel_rfl) (by kernel_rfl) (fun _ _ _ h => h) (by rfl) (v := ?v11u) ?hy11u hS3 ?rest11u
  case hy11u => intro w0 hSw; have f0 := hSw.f0; have f1 := hSw.f1; go_simp; try with_reducible rfl
  simp only [Act.put, List.setIfInBounds_toArray, List.set_cons_zero, List.set_cons_succ]
  refine late_take (i := 12) (some 10) rfl rfl (by kernel_rfl) (by kernel_rfl) (by kernel_rfl) (by kernel_rfl) (by kernel_rfl) (fun _ _ _ h => h) (by rfl) (v := ?v12u) ?hy12u hS3 ?rest12u
  case hy12u => intro w0 hSw; have f0 := hSw.f0; have f1 := hSw.f1; go_simp; try with_reducible rfl
  simp only [Act.put, List.setIfInBounds_toArray, List.set_cons_zero, List.set_cons_succ]
  refine late_done (by kernel_rfl) ?_ _
  refine NoPanic.normal ?_
  obtain ⟨y0, y1, _, _⟩ := cells2 HX3.out
  go_wp2_with (first | (go_at_call 19; (with_reducible refine (HWd.out _ HB3.out).mono ?_); rintro e w4 ⟨q4, d4, rfl, ho, hb⟩; have HB4 := hid (below_out HB3.out hb); have c1 := conv_own (HO3.out.keep hb); have c2 := conv_own ho; rw [HTT.out] at c1 c2; have HN := hid (HNm.out w4); clear ho hb HWd) | (go_at_call 7; (with_reducible refine HN.out.mono ?_); rintro e w5 ⟨rfl, hb⟩; have HB5 := hid (below_out HB4.out hb); have HSu := hid (HSu0.out w5 HB5.out); clear hb HN) | (go_at_call 8; (with_reducible refine HSu.out.mono ?_); rintro e w6 ⟨rfl, hb⟩; have HB6 := hid (below_out HB5.out hb); clear hb HSu))
  go_ret
  exact ⟨rfl, HB6.out⟩
set_option maxRecDepth 20000 in
set_option maxHeartbeats 16000000 in
theorem bwh_e (K N m : Int) (h9 : m ≤ 9223372036854775807) (b : B) (p : Option Addr) (n c : Nat) (hSl : SlOk p n c b) (hnn : n ≤ 140737488351232) (w : World) (ha : ArgAt w p b) (hE : EnvP w) (hEe : EnvE w) (h0 : wholeX K N m b ≠ 0) :
    Calls Tryz.prog 4 #[.agg #[.int .i64 K, .int .i64 N], .int .i64 m, .slice p n c] w fun e w' => e = .returned (.bool true) ∧ Below w.heap.size w w' := by
  have hn := hSl.len
  obtain ⟨k, hk⟩ : ∃ k : Int, (wholeX K N m b : Int) = k := ⟨_, rfl⟩
  have HWp := hid (fun (W : World) (q : Option Addr) (d bb : Nat) (ho : Own W bb (.slice q n d) b) (hb : Below w.heap.size w W) => whole_err K N m h9 b q n d hn ho.cap (own_nil ho) (by omega) W ho.arg (hE.next hb) rfl h0)
  have HWd := hid (fun (W : World) (hb : Below w.heap.size w W) => (show Calls Tryz.prog 19 #[.agg #[.int .i64 K, .int .i64 N], .int .i64 m, .slice p n c] W (fun e w' => e = .returned (.tuple #[.slice none 0 0, .int .i64 0, .int .i64 k]) ∧ Below W.heap.size W w') from (dwhole_any K N m h9 b p n c hn hnn W (ha.next hb)).mono (by
    rintro e w' (⟨_, rfl, hb2⟩ | ⟨h1, _⟩)
    · rw [hk]; exact ⟨rfl, hb2⟩
    · exact absurd h1 h0)))
  rw [hk] at HWp
  obtain ⟨TT, hTT⟩ : ∃ TT, str [] = TT := ⟨_, rfl⟩
  have HTT := hid hTT
  have HNm := hid (fun (W : World) (hb : Below w.heap.size w W) => num_err k W (hEe.next hb))
  have HSu0 := hid (fun (W : World) (hb : Below w.heap.size w W) => sure_any W (hE.next hb))
  have HSl := hid hSl
  have HA := hid ha
  have HB0 := hid (below_new w (frmO K N))
  have HX0 := hid (heap_alloc_new w (frmO K N))
  clear hSl ha hE hEe h0 hn hk hTT
  go_enter Tryz.func4, Tryz.ntmps4
  go_wp2
  have HB1 := hid (show Below w.heap.size w (w.alloc (Obj.cells #[.int .i64 K, .int .i64 N] 23 (0, 0))).drew from HB0.out.drew)
  have HX1 := hid (show (w.alloc (Obj.cells #[.int .i64 K, .int .i64 N] 23 (0, 0))).drew.heap[w.heap.size]? = some (Obj.cells #[.int .i64 K, .int .i64 N] 23 (0, 0)) from HX0.out)
  generalize hW1 : (w.alloc (Obj.cells #[.int .i64 K, .int .i64 N] 23 (0, 0))).drew = W1 at HB1 HX1
  refine wp_region_noPanic ?_
  refine any_begin 13 (by kernel_rfl) (by kernel_rfl) ?_
  rw [hW1]
  clear hW1
  have hS0 : RdW W1 w.heap.size K N := rdW HX1.out
  refine late_begin (fun U => RdW U w.heap.size K N) (fun _ => false) hS0 (fun hS => ?_)
  refine late_take (i := 0) (some 15) rfl rfl (by kernel_rfl) (by kernel_rfl) (by kernel_rfl) (by kernel_rfl) (by kernel_rfl) (fun _ _ _ h => h) (by rfl) (v := ?v0u) ?hy0u hS ?rest0u
  case hy0u => intro w0 hSw; have f0 := hSw.f0; have f1 := hSw.f1; go_simp; try with_reducible rfl
  simp only [Act.put, List.setIfInBounds_toArray, List.set_cons_zero, List.set_cons_succ]
  refine late_take (i := 1) (some 16) rfl rfl (by kernel_rfl) (by kernel_rfl) (by kernel_rfl) (by kernel_rfl) (by kernel_rfl) (fun _ _ _ h => h) (by rfl) (v := ?v1u) ?hy1u hS ?rest1u
  case hy1u => intro w0 hSw; have f0 := hSw.f0; have f1 := hSw.f1; go_simp; try with_reducible rfl
  simp only [Act.put, List.setIfInBounds_toArray, List.set_cons_zero, List.set_cons_succ]
  refine late_take (i := 2) (some 17) rfl rfl (by kernel_rfl) (by kernel_rfl) (by kernel_rfl) (by kernel_rfl) (by kernel_rfl) (fun _ _ _ h => h) (by rfl) (v := ?v2u) ?hy2u hS ?rest2u
  case hy2u => intro w0 hSw; have f0 := hSw.f0; have f1 := hSw.f1; go_simp; try with_reducible rfl
  simp only [Act.put, List.setIfInBounds_toArray, List.set_cons_zero, List.set_cons_succ]
  refine late_take (i := 3) (some 18) rfl rfl (by kernel_rfl) (by kernel_rfl) (by kernel_rfl) (by kernel_rfl) (by kernel_rfl) (fun _ _ _ h => h) (by rfl) (v := ?v3u) ?hy3u hS ?rest3u
  case hy3u => intro w0 hSw; have f0 := hSw.f0; have f1 := hSw.f1; go_simp; try with_reducible rfl
  simp only [Act.put, List.setIfInBounds_toArray, List.set_cons_zero, List.set_cons_succ]
  refine wpAnyD_one (i := 4) (by kernel_rfl) rfl (fun K' hK => ?_)
  rw [if_pos (by rfl)]
  refine wp_append_any (.tmp 17) (.tmp 18) rfl W1.heap.size (.slice none 0 0) 0 [] b (by go_simp) (Own.nil _ _) rfl p n c (by go_simp) HSl.out.len (HA.out.next HB1.out) HSl.out.nil (by omega) (Nat.le_refl _) ?_
  intro q2 d2 w2 ho hg _
  rw [Nat.zero_add] at ho ⊢
  rw [List.nil_append] at ho
  have HB2 := hid (show Below w.heap.size w w2 from HB1.out.trans ((below_grown hg).mono HB1.out.size))
  have HX2 := hid (blk_nextD HX1.out (below_grown hg))
  have HP := hid (HWp.out w2 q2 d2 _ ho HB2.out)
  have hS2 : RdW w2 w.heap.size K N := rdW HX2.out
  show K' (Act.put _ (some 19) _) _
  refine hK _ _ ⟨fun _ => hS2, ?_⟩
  clear hK K' ho hg hS hS0 HX1 HWp
  simp only [Act.put, List.setIfInBounds_toArray, List.set_cons_zero, List.set_cons_succ]
  refine wpAnyD_one (i := 5) (by kernel_rfl) rfl (fun K' hK => ?_)
  go_simp
  go_at_call 18
  refine HP.out.mono ?_
  rintro e w3 ⟨rfl, hb⟩
  have HB3 := hid (below_out HB2.out hb)
  have HX3 := hid (blk_nextD HX2.out hb)
  have hS3 : RdW w3 w.heap.size K N := rdW HX3.out
  refine hK _ _ ⟨fun _ => hS3, ?_⟩
  clear hK K' hb hS2 HX2 HP
  refine late_take (i := 6) (some 14) rfl rfl (by kernel_rfl) (by kernel_rfl) (by kernel_rfl) (by kernel_rfl) (by kernel_rfl) (fun _ _ _ h => h) (by rfl) (v := ?v6u) ?hy6u hS3 ?rest6u
  case hy6u => intro w0 hSw; have f0 := hSw.f0; have f1 := hSw.f1; go_simp; try with_reducible rfl
  simp only [Act.put, List.setIfInBounds_toArray, List.set_cons_zero, List.set_cons_succ]
  refine late_take (i := 7) (some 21) rfl rfl (by kernel_rfl) (by kernel_rfl) (by kernel_rfl) (by kernel_rfl) (by kernel_rfl) (fun _ _ _ h => h) (by rfl) (v := ?v7u) ?hy7u hS3 ?rest7u
  case hy7u => intro w0 hSw; have f0 := hSw.f0; have f1 := hSw.f1; go_simp; try with_reducible rfl
  simp only [Act.put, List.setIfInBounds_toArray, List.set_cons_zero, List.set_cons_succ]
  refine late_take (i := 8) (some 22) rfl rfl (by kernel_rfl) (by kernel_rfl) (by kernel_rfl) (by kernel_rfl) (by kernel_rfl) (fun _ _ _ h => h) (by rfl) (v := ?v8u) ?hy8u hS3 ?rest8u
  case hy8u => intro w0 hSw; have f0 := hSw.f0; have f1 := hSw.f1; go_simp; try with_reducible rfl
  simp only [Act.put, List.setIfInBounds_toArray, List.set_cons_zero, List.set_cons_succ]
  refine late_take (i := 9) (some 23) rfl rfl (by kernel_rfl) (by kernel_rfl) (by kernel_rfl) (by kernel_rfl) (by kernel_rfl) (fun _ _ _ h => h) (by rfl) (v := ?v9u) ?hy9u hS3 ?rest9u
  case hy9u => intro w0 hSw; have f0 := hSw.f0; have f1 := hSw.f1; go_simp; try with_reducible rfl
  simp only [Act.put, List.setIfInBounds_toArray, List.set_cons_zero, List.set_cons_succ]
  refine late_take (i := 10) (some 8) rfl rfl (by kernel_rfl) (by kernel_rfl) (by kernel_rfl) (by kernel_rfl) (by kernel_rfl) (fun _ _ _ h => h) (by rfl) (v := ?v10u) ?hy10u hS3 ?rest10u
  case hy10u => intro w0 hSw; have f0 := hSw.f0; have f1 := hSw.f1; go_simp; try with_reducible rfl
  simp only [Act.put, List.setIfInBounds_toArray, List.set_cons_zero, List.set_cons_succ]
  refine late_take (i := 11) (some 9) rfl rfl (by kernel_rfl) (by kernel_rfl) (by kernel_rfl) (by kernel_rfl) (by kernel_rfl) (fun _ _ _ h => h) (by rfl) (v := ?v11u) ?hy11u hS3 ?rest11u
  case hy11u => intro w0 hSw; have f0 := hSw.f0; have f1 := hSw.f1; go_simp; try with_reducible rfl
  simp only [Act.put, List.setIfInBounds_toArray, List.set_cons_zero, List.set_cons_succ]
  refine late_take (i := 12) (some 10) rfl rfl (by kernel_rfl) (by kernel_rfl) (by kernel_rfl) (by kernel_rfl) (by kernel_rfl) (fun _ _ _ h => h) (by rfl) (v := ?v12u) ?hy12u hS3 ?rest12u
  case hy12u => intro w0 hSw; have f0 := hSw.f0; have f1 := hSw.f1; go_simp; try with_reducible rfl
  simp only [Act.put, List.setIfInBounds_toArray, List.set_cons_zero, List.set_cons_succ]
  refine late_done (by kernel_rfl) ?_ _
  refine NoPanic.normal ?_
  obtain ⟨y0, y1, _, _⟩ := cells2 HX3.out
  go_wp2_with (first | (go_at_call 19; (with_reducible refine (HWd.out _ HB3.out).mono ?_); rintro e w4 ⟨rfl, hb⟩; have HB4 := hid (below_out HB3.out hb); have c1 := conv_own (Own.nil w4 w4.heap.size); rw [HTT.out] at c1; have HN := hid (HNm.out w4 HB4.out); clear hb HWd) | (go_at_call 7; (with_reducible refine HN.out.mono ?_); rintro e w5 ⟨rfl, hb⟩; have HB5 := hid (below_out HB4.out hb); have HSu := hid (HSu0.out w5 HB5.out); clear hb HN) | (go_at_call 8; (with_reducible refine HSu.out.mono ?_); rintro e w6 ⟨rfl, hb⟩; have HB6 := hid (below_out HB5.out hb); clear hb HSu))
  go_ret
  exact ⟨rfl, HB6.out⟩
theorem bwhole_any (K N m : Int) (h9 : m ≤ 9223372036854775807) (b : B) (p : Option Addr) (n c : Nat) (hSl : SlOk p n c b) (hnn : n ≤ 140737488351232) (w : World) (ha : ArgAt w p b) (hE : EnvP w) (hEe : EnvE w) :
    Calls Tryz.prog 4 #[.agg #[.int .i64 K, .int .i64 N], .int .i64 m, .slice p n c] w fun e w' => e = .returned (.bool true) ∧ Below w.heap.size w w' := by
  by_cases h0 : wholeX K N m b = 0
  · exact bwh_y K N m h9 b p n c hSl hnn w ha hE hEe h0
  · exact bwh_e K N m h9 b p n c hSl hnn w ha hE hEe h0
end Go.Proofs.YtllbdpiihiohoaaGreatDoor
/- For every framing, bound and all bytes the law BodyWhole returns true and leaves its arguments as they were; the listed tables of Go's library and errors.errorType are tied to the program's text (the tie is given). -/
namespace Go.Proofs.YtllbdpiihiohoaaGreatDoor.BodyWhole
open Go.ChangeShapes Go.WideShapes Go.ChangeAt Go.RowKit
open Go.ChangeMaps (open_string shut_string)

theorem laidOut : laidOutB Tryz.prog = true := by kernel_rfl
theorem own : ownKnob Tryz.prog.godebug = none := by kernel_rfl
set_option maxRecDepth 100000 in
theorem envBodyWhole {W : World} (h : laidMetH Tryz.prog Rows.bodyWholeRow.laid W) : EnvE W ∧ EnvP W := by
  have h' : laidMet Tryz.prog [("math/bits.deBruijn32tab", Rows.laid_math_bits_deBruijn32tab), ("math/bits.deBruijn64tab", Rows.laid_math_bits_deBruijn64tab), ("internal/strconv.uint64pow10", Rows.laid_internal_strconv_uint64pow10)] W ∧ handlesMet Tryz.prog [("errors.errorType", Rows.laid_errors_errorType)] W := h
  exact ⟨env_of h'.2, env_pow h'.1.tail.tail⟩
theorem doorBodyWhole (os : Os) (args : Array Value) : laidMetH Tryz.prog Rows.bodyWholeRow.laid ((World.doorLaid Tryz.prog 400 os).forCall (fun _ _ => 0) ⟨#[], args, []⟩).memory :=
  laidMetH_of_parts3 (fuel := 8) (laidMet_of_run' 8 (by kernel_rfl) (by kernel_rfl)) (by kernel_rfl) (by kernel_rfl)
set_option maxRecDepth 100000 in
theorem liftedBodyWhole (os : Os) (started : os.Started) (H : Type) (enc : TypeId × Value → H) :
    ReturnsInHanded {} Tryz.checked os 4 .any (fun w args => (Rows.bodyWholeSpec.pre enc Tryz.prog Tryz.f4 [] false w args ∧ laidMetH Tryz.prog Rows.bodyWholeRow.laid w) ∧ sizedMet enc Tryz.prog Tryz.f4 (OpenSpec.ofChange Rows.bodyWholeSpec) false w args)
      (Rows.bodyWholeSpec.post enc Tryz.prog Tryz.f4 false true false false) := by
  refine returnsInHanded_of_change_and (C := Tryz.checked) (X := fun w _ => laidMetH Tryz.prog Rows.bodyWholeRow.laid w) (fun _ _ _ hh h => h.of_heap hh) own started (by kernel_rfl) Tryz.func4
    (ChangeSpec.witness_shaped (enc := enc) (C := Tryz.checked) (os := os) (X := fun w _ => laidMetH Tryz.prog Rows.bodyWholeRow.laid w) false (World.doorLaid Tryz.prog 400 os) #[.agg #[.int .i64 0, .int .i64 0], .int .i64 0, .slice none 0 0] 8 rfl (World.shaped_of_RefB (by kernel_rfl) (by kernel_rfl)) (by kernel_rfl) (by kernel_rfl) (by kernel_rfl) (doorBodyWhole os _)) ?_
  intro W base args ds gs before hval0 hW _ hwt hL _
  have hval : ∀ (j : Nat) t v, Tryz.f4.params[j]? = some t → args[j]? = some v → Value.okWide Tryz.prog W .any base t v := hval0
  have hW' := hW
  obtain ⟨p, q, hA0, hV, rfl, hfz, hnd⟩ := hW
  have hA : DataW.TrodAll enc Tryz.prog W 0 (fun _ => true) true Tryz.f4.params.toList args.toList ds p := hA0
  have hwt' : (DataW.weightsEach Tryz.prog (Tryz.f4.params.toList ++ Rows.bodyWholeSpec.plain.varTypes Tryz.prog) (ds ++ gs)).all (· ≤ reachBytes) = true := hwt
  rw [Tryz.params4] at hA hval hwt'
  obtain ⟨v0, v1, v2, d0, d1, d2, p0, p1, p2, rfl, rfl, rfl, h0, h1, h2⟩ := trodAll_three hA
  obtain ⟨rfl, rfl⟩ := trodVars_none hV
  have hlt0 : ∀ x ∈ p0, x.block < W.heap.size := fun x hx => hW'.lt x (by simp [hx])
  obtain ⟨ys, rfl, _⟩ := okWide_struct Tryz.underlying23 (hval 0 23 v0 rfl rfl)
  obtain ⟨fuel0, hd0⟩ := h0
  have hd0' : DataW.trod enc Tryz.prog W 0 (fun _ => true) true fuel0 23 ys.toList = some (d0, p0) := hd0
  obtain ⟨K, N, hvf, _⟩ := open_frame fuel0 _ _ hd0'
  have hys : (#[.int .i64 K, .int .i64 N] : Array Value) = ys := by rw [← Array.toArray_toList (xs := ys), hvf]
  obtain ⟨k1, rfl, rfl, rfl, hk1⟩ := open_int Tryz.underlying3 (hval 1 3 v1 rfl rfl) h1
  have hlt2 : ∀ x ∈ p2, x.block < W.heap.size := fun x hx => hW'.lt x (by simp [hx])
  obtain ⟨pa2, len2, cap2, rfl⟩ := okWide_slice Tryz.underlying32 (hval 2 32 v2 rfl rfl)
  obtain ⟨fuel2, hd2⟩ := h2
  have hd2' : DataW.trod enc Tryz.prog W 0 (fun _ => true) true fuel2 32 [.slice pa2 len2 cap2] = some (d2, p2) := hd2
  obtain ⟨L, pp, cc, hv, hSl, hArg, hbk⟩ := open_bytesX rfl fuel2 _ _ hd2'
  obtain ⟨rfl, rfl, rfl⟩ : pa2 = pp ∧ len2 = L.length ∧ cap2 = cc := by simpa using hv
  have hw2 : ∀ x ∈ d2.weights Tryz.prog 32, x ≤ reachBytes := by
    intro x hx
    have := List.all_eq_true.1 hwt' x (by simp [DataW.weightsEach, hx])
    simpa using this
  have hlen := open_len hd2' hw2
  clear hA0 hval0 hwt hwt' hbk
  subst hys
  have hcall := bwhole_any K N k1 (bounds_i64 hk1).2 L pa2 L.length cap2 hSl hlen W hArg (envBodyWhole hL).2 (envBodyWhole hL).1
  refine hcall.mono fun e W' ⟨he, bel⟩ => ?_
  subst he
  exact ⟨_, rfl, _, _, _, [], _, [], hW', trodAll_mk1 (shut_bool Tryz.underlying4 _),
    trodAll_mk3 (Below.trod laidOut (by kernel_rfl) (of_decide_eq_true (by kernel_rfl)) ⟨fuel0, hd0⟩ bel hlt0) (shut_int Tryz.underlying3 hk1) (Below.trod laidOut (by kernel_rfl) (of_decide_eq_true (by kernel_rfl)) ⟨fuel2, hd2⟩ bel hlt2),
    rfl, bel.frame _, fun h => by cases h⟩
theorem rowBodyWhole_holds : Rows.BodyWholeSaid :=
  OpenClaim.holds_of_wide 4 Tryz.f4 rfl rfl rfl rfl rfl rfl rfl ⟨rfl, rfl, rfl, rfl, rfl⟩ rfl rfl rfl rfl rfl (by kernel_rfl) Tryz.func4 (by kernel_rfl)
    (of_decide_eq_true (by kernel_rfl)) (by unfold Func.isWrapper; first | (rw [if_pos (by decide +kernel)]; kernel_rfl) | (rw [if_neg (by decide +kernel)]; exact ⟨rfl, rfl⟩))
    (fun os started H enc _ => liftedBodyWhole os started H enc)
end Go.Proofs.YtllbdpiihiohoaaGreatDoor.BodyWhole
namespace Go.Proofs.YtllbdpiihiohoaaGreatDoor
theorem bodyWhole_holds : Rows.BodyWholeCardSaid :=
  Claim7.holds_tied_plain_at .later [] _ _ _ _
    BodyWhole.rowBodyWhole_holds (fun _ h => by cases h) (by kernel_rfl) (fun _ h => by cases h) bodyWhole_row_tie rfl ⟨rfl, rfl⟩ (by kernel_rfl) rfl
    (fun f fn hf hfn => by
      obtain rfl : f = 4 := Option.some.inj ((show Tryz.prog.funcNamed "turnstile/turnstilelaw13.BodyWhole" = some 4 by kernel_rfl).symm.trans hf) |>.symm
      obtain rfl : fn = Tryz.f4 := (Option.some.inj (Tryz.func4.symm.trans hfn)).symm
      exact ⟨by kernel_rfl, fun j t ht => by
        rw [Tryz.params4] at ht
        have hm : t ∈ [23, 3, 32] := by simpa using Array.mem_of_getElem? ht
        have hall : ([23, 3, 32].all fun u => !Tryz.prog.wantsStandIn u) = true := by kernel_rfl
        exact (show Tryz.prog.wantsStandIn t = false by simpa using List.all_eq_true.1 hall t hm)⟩)
    (by kernel_rfl)
#print axioms bodyWhole_holds
end Go.Proofs.YtllbdpiihiohoaaGreatDoor
