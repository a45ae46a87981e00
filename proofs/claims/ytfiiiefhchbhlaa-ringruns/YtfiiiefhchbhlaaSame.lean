/- What a ring tells and what the rules say, side by side. -/
import Derived.Test.YtfiiiefhchbhlaaRefLine
import Derived.Test.YtfiiiefhchbhlaaWorks
import Derived.Deep.RegionHeld3
import Derived.Deep.RegionHeld3
namespace Go.Proofs.Ytfiiiefhchbhlaa
open Go.RowKit

theorem hat_any {w : World} {r g S : Nat} {q : List Int} (h : Holds w r g S q) (n : Int) :
    Calls Try.prog 17 #[.pointer (some ⟨r, 0, none⟩), .int .i64 n] w fun e w' => e = .returned (.tuple #[.int .u8 (atV q n), .bool (atB q n)]) ∧ Still w w' := by
  obtain ⟨F, L, h1, h2⟩ := h
  by_cases hn : 0 ≤ n ∧ n < q.length
  · obtain ⟨j, rfl⟩ : ∃ j : Nat, n = j := ⟨n.toNat, by omega⟩
    refine (at_in h1 j (by omega)).mono ?_
    rintro e w' ⟨rfl, m, rfl⟩
    rw [h2]
    have e1 : atV q j = q.getD j 0 := by unfold atV; rw [if_pos hn]; simp
    have e2 : atB q j = true := by unfold atB; simp; omega
    rw [e1, e2]
    exact ⟨rfl, (Still.refl _).drewN m⟩
  · refine (at_out h1 n (by omega)).mono ?_
    rintro e w' ⟨rfl, rfl⟩
    have e1 : atV q n = 0 := by unfold atV; rw [if_neg hn]
    have e2 : atB q n = false := by unfold atB; simpa using hn
    rw [e1, e2]
    exact ⟨rfl, Still.refl _⟩
theorem wrap_bd (x : Int) : IntKind.i64.wrap x ≤ 9223372036854775807 := by rw [IntKind.wrap_i64]; omega
theorem hlenN {w : World} {r g S N : Nat} {q : List Int} (h : Holds w r g S q) (hN : q.length = N) :
    Calls Try.prog 19 #[.pointer (some ⟨r, 0, none⟩)] w fun e w' => e = .returned (.int .i64 N) ∧ w' = w := by
  subst hN; exact hlen_any h
theorem hroomN {w : World} {r g S N : Nat} {q : List Int} (h : Holds w r g S q) (hN : q.length = N) :
    Calls Try.prog 21 #[.pointer (some ⟨r, 0, none⟩)] w fun e w' => e = .returned (.int .i64 ((S : Int) - N)) ∧ w' = w := by
  subst hN
  have hl := h.le
  refine (hroom_any h).mono ?_
  rintro e w' ⟨rfl, rfl⟩
  exact ⟨ret_int (by omega), rfl⟩
/-- Both rings side by side. -/
structure Pair (w W : World) (r g S : Nat) (v : Value) (q : List Int) : Prop where
  below : Below w.heap.size w W
  ring : Holds W r g S q
  ref : QAt r g W v q
theorem Pair.next {w W W' : World} {r g S : Nat} {v : Value} {q : List Int} (h : Pair w W r g S v q) (hb : Below W.heap.size W W') : Pair w W' r g S v q :=
  ⟨h.below.trans (hb.mono h.below.size), h.ring.below hb, h.ref.below hb⟩
/-- The same, with the box in which the second lies. -/
structure SP (w W : World) (r g S N c : Nat) (pv : Option Addr) (q : List Int) : Prop where
  pair : Pair w W r g S (.slice pv N c) q
  box : W.heap[w.heap.size]? = some (.cells #[.int .i64 S, .slice pv N c] 30)
section
variable {w W W' : World} {r g S N c : Nat} {pv : Option Addr} {q : List Int}
theorem SP.next (h : SP w W r g S N c pv q) (hb : Below W.heap.size W W') : SP w W' r g S N c pv q := ⟨h.pair.next hb, (hb.block _ (lt_of_heap h.box)).trans h.box⟩
theorem SP.c0 (h : SP w W r g S N c pv q) : W.cell? ⟨w.heap.size, 0, none⟩ = some (.int .i64 S) := by simp only [World.cell?, h.box]; rfl
theorem SP.c1 (h : SP w W r g S N c pv q) : W.cell? ⟨w.heap.size, 1, none⟩ = some (.slice pv N c) := by simp only [World.cell?, h.box]; rfl
end
set_option maxRecDepth 20000 in
set_option maxHeartbeats 4000000 in
theorem same_any (r g S N c : Nat) (pv : Option Addr) (q : List Int) (n : Int) (w : World) (h : Holds w r g S q) (hN : q.length = N) (hq : QAt r g w (.slice pv N c) q) :
    Calls Try.prog 11 #[.pointer (some ⟨r, 0, none⟩), .agg #[.int .i64 S, .slice pv N c], .int .i64 n] w fun e w' => e = .returned (.bool true) ∧ Below w.heap.size w w' := by
  have hS1 := h.most
  have hS2 := h.le
  rw [hN] at hS2
  have HN := hid hN
  have HP0 : Hid (SP w (w.alloc (.cells #[.int .i64 S, .slice pv N c] 30)) r g S N c pv q) := ⟨Pair.next ⟨Below.refl _ _, h, hq⟩ ((Below.refl _ _).alloc (Nat.le_refl _) _), heap_new _ _⟩
  clear h hq hN
  go_enter Try.func11, Try.ntmps11
  go_wp2_with (first
    | (go_at_call 17; refine (hat_any HP0.out.pair.ring n).mono ?_; rintro e w1 ⟨rfl, hs1⟩; have HP1 := hid (HP0.out.next (hs1.below _)); have c01 := HP1.out.c0; have c11 := HP1.out.c1; clear hs1 HP0)
    | (go_at_call 26; refine (refAt_any S n _ HP1.out.pair.ref.arg).mono ?_; rintro e w2 ⟨rfl, hb2⟩; have HP2 := hid (HP1.out.next hb2); have c02 := HP2.out.c0; have c12 := HP2.out.c1; clear HP1 c01 c11 hb2)
    | (go_at_call 23; refine (refRead_any r g S n _ HP2.out.pair.ref (by rw [HN.out]; omega) ⟨HP2.out.pair.ring.rlt, HP2.out.pair.ring.glt⟩).mono ?_; rintro e w3 ⟨v3, vo3, rfl, h3⟩; obtain ⟨p1, n1, cc1, rfl, H1⟩ := h3.rest.arg.slice3; obtain ⟨po, no, co, rfl, HO⟩ := h3.out.arg.slice3; have HP3 := hid (HP2.out.next h3.below); have HR := hid h3.out.arg; have c03 := HP3.out.c0; have c13 := HP3.out.c1; clear HP2 h3 c02 c12))
  refine wp_region_noPanic ?_
  refine any_begin 59 (by kernel_rfl) (by kernel_rfl) ?_
  obtain ⟨T, HTT⟩ : ∃ T, Hid (strOfNums (q.take (held n q.length)) = T) := ⟨_, rfl⟩
  have HS0 : Hid (SP w (w3.alloc (.cells #[.int .i64 S, .slice p1 n1 cc1] 30)).drew r g S N c pv q) := HP3.out.next ⟨rfl, rfl, rfl, by simp, fun k hk => Below.heap_alloc _ _ _ hk⟩
  have hcv0 : (convert 28 9 (.slice po no co)).run Try.prog (w3.alloc (.cells #[.int .i64 S, .slice p1 n1 cc1] 30)).drew = .ok (.string T) (w3.alloc (.cells #[.int .i64 S, .slice p1 n1 cc1] 30)).drew := by
    rw [← HTT.out]
    exact (HR.out.below (w' := (w3.alloc (.cells #[.int .i64 S, .slice p1 n1 cc1] 30)).drew) ⟨rfl, rfl, rfl, by simp, fun k hk => Below.heap_alloc _ _ _ hk⟩).conv
  have HRA := hid (HR.out.below (w' := (w3.alloc (.cells #[.int .i64 S, .slice p1 n1 cc1] 30)).drew) ⟨rfl, rfl, rfl, by simp, fun k hk => Below.heap_alloc _ _ _ hk⟩)
  refine late_begin (fun W => W.cell? ⟨w.heap.size, 0, none⟩ = some (.int .i64 S) ∧ W.cell? ⟨w.heap.size, 1, none⟩ = some (.slice pv N c) ∧ (convert 28 9 (.slice po no co)).run Try.prog W = .ok (.string T) W) (fun _ => false) ⟨HS0.out.c0, HS0.out.c1, hcv0⟩ (fun hS => ?_)
  clear c03 c13 hcv0
  have hwr : IntKind.i64.wrap ((S : Int) - N) = (S : Int) - N := by rw [IntKind.wrap_i64]; omega
  refine late_take (i := 0) (some 31) rfl rfl (by kernel_rfl) (by kernel_rfl) (by kernel_rfl) (by kernel_rfl) (by kernel_rfl) (fun _ _ _ h => h) (by rfl) (v := ?v0) ?hy0 hS ?rest0
  case hy0 => intro w0 hSw; (try dsimp only at hSw); go_simp; try with_reducible rfl
  simp only [Act.put, List.setIfInBounds_toArray, List.set_cons_zero, List.set_cons_succ]
  refine late_take (i := 2) (some 33) rfl rfl (by kernel_rfl) (by kernel_rfl) (by kernel_rfl) (by kernel_rfl) (by kernel_rfl) (fun _ _ _ h => h) (by rfl) (v := ?v2) ?hy2 hS ?rest2
  case hy2 => intro w0 hSw; (try dsimp only at hSw); go_simp; try with_reducible rfl
  simp only [Act.put, List.setIfInBounds_toArray, List.set_cons_zero, List.set_cons_succ]
  refine late_take (i := 3) (some 34) rfl rfl (by kernel_rfl) (by kernel_rfl) (by kernel_rfl) (by kernel_rfl) (by kernel_rfl) (fun _ _ _ h => h) (by rfl) (v := ?v3) ?hy3 hS ?rest3
  case hy3 => intro w0 hSw; (try dsimp only at hSw); go_simp; try with_reducible rfl
  simp only [Act.put, List.setIfInBounds_toArray, List.set_cons_zero, List.set_cons_succ]
  refine late_take (i := 4) (some 35) rfl rfl (by kernel_rfl) (by kernel_rfl) (by kernel_rfl) (by kernel_rfl) (by kernel_rfl) (fun _ _ _ h => h) (by rfl) (v := ?v4) ?hy4 hS ?rest4
  case hy4 => intro w0 hSw; (try dsimp only at hSw); go_simp; try with_reducible rfl
  simp only [Act.put, List.setIfInBounds_toArray, List.set_cons_zero, List.set_cons_succ]
  refine wpAnyD_one (i := 1) (o := { dst := some 32, op := Op.call { callee := Callee.value (Operand.func 19), args := #[Operand.tmp 31], argTypes := #[23] }, type := 3, pos := "law.go:45", after := #[{ on := 0, ground := Ground.data }], guard := none }) (by kernel_rfl) rfl (fun K hK => ?_)
  go_simp
  go_at_call 19
  refine (hlenN HS0.out.pair.ring HN.out).mono ?_
  rintro e w' ⟨rfl, rfl⟩
  refine hK _ _ ⟨fun _ => hS, ?_⟩
  clear hK K
  refine late_take (i := 5) (some 36) rfl rfl (by kernel_rfl) (by kernel_rfl) (by kernel_rfl) (by kernel_rfl) (by kernel_rfl) (fun _ _ _ h => h) (by rfl) (v := ?v5) ?hy5 hS ?rest5
  case hy5 => intro w0 hSw; (try dsimp only at hSw); go_simp; try with_reducible rfl
  simp only [Act.put, List.setIfInBounds_toArray, List.set_cons_zero, List.set_cons_succ]
  refine late_take (i := 6) (some 37) rfl rfl (by kernel_rfl) (by kernel_rfl) (by kernel_rfl) (by kernel_rfl) (by kernel_rfl) (fun _ _ _ h => h) (by rfl) (v := ?v6) ?hy6 hS ?rest6
  case hy6 => intro w0 hSw; (try dsimp only at hSw); go_simp; try with_reducible rfl
  simp only [Act.put, List.setIfInBounds_toArray, List.set_cons_zero, List.set_cons_succ]
  refine late_take (i := 7) (some 38) rfl rfl (by kernel_rfl) (by kernel_rfl) (by kernel_rfl) (by kernel_rfl) (by kernel_rfl) (fun _ _ _ h => h) (by rfl) (v := ?v7) ?hy7 hS ?rest7
  case hy7 => intro w0 hSw; (try dsimp only at hSw); go_simp; try with_reducible rfl
  simp only [Act.put, List.setIfInBounds_toArray, List.set_cons_zero, List.set_cons_succ]
  refine late_take (i := 9) (some 40) rfl rfl (by kernel_rfl) (by kernel_rfl) (by kernel_rfl) (by kernel_rfl) (by kernel_rfl) (fun _ _ _ h => h) (by rfl) (v := ?v9) ?hy9 hS ?rest9
  case hy9 => intro w0 hSw; (try dsimp only at hSw); go_simp; try with_reducible rfl
  simp only [Act.put, List.setIfInBounds_toArray, List.set_cons_zero, List.set_cons_succ]
  refine late_take (i := 10) (some 41) rfl rfl (by kernel_rfl) (by kernel_rfl) (by kernel_rfl) (by kernel_rfl) (by kernel_rfl) (fun _ _ _ h => h) (by rfl) (v := ?v10) ?hy10 hS ?rest10
  case hy10 => intro w0 hSw; (try dsimp only at hSw); go_simp; try with_reducible rfl
  simp only [Act.put, List.setIfInBounds_toArray, List.set_cons_zero, List.set_cons_succ]
  refine late_take (i := 11) (some 42) rfl rfl (by kernel_rfl) (by kernel_rfl) (by kernel_rfl) (by kernel_rfl) (by kernel_rfl) (fun _ _ _ h => h) (by rfl) (v := ?v11) ?hy11 hS ?rest11
  case hy11 => intro w0 hSw; (try dsimp only at hSw); go_simp; try with_reducible rfl
  simp only [Act.put, List.setIfInBounds_toArray, List.set_cons_zero, List.set_cons_succ]
  refine late_take (i := 12) (some 43) rfl rfl (by kernel_rfl) (by kernel_rfl) (by kernel_rfl) (by kernel_rfl) (by kernel_rfl) (fun _ _ _ h => h) (by rfl) (v := ?v12) ?hy12 hS ?rest12
  case hy12 => intro w0 hSw; (try dsimp only at hSw); go_simp; try with_reducible rfl
  simp only [Act.put, List.setIfInBounds_toArray, List.set_cons_zero, List.set_cons_succ]
  refine late_take (i := 13) (some 44) rfl rfl (by kernel_rfl) (by kernel_rfl) (by kernel_rfl) (by kernel_rfl) (by kernel_rfl) (fun _ _ _ h => h) (by rfl) (v := ?v13) ?hy13 hS ?rest13
  case hy13 => intro w0 hSw; (try dsimp only at hSw); go_simp; try with_reducible rfl
  simp only [Act.put, List.setIfInBounds_toArray, List.set_cons_zero, List.set_cons_succ]
  refine late_take (i := 14) (some 45) rfl rfl (by kernel_rfl) (by kernel_rfl) (by kernel_rfl) (by kernel_rfl) (by kernel_rfl) (fun _ _ _ h => h) (by rfl) (v := ?v14) ?hy14 hS ?rest14
  case hy14 => intro w0 hSw; (try dsimp only at hSw); go_simp; try with_reducible rfl
  simp only [Act.put, List.setIfInBounds_toArray, List.set_cons_zero, List.set_cons_succ]
  refine wpAnyD_one (i := 8) (o := { dst := some 39, op := Op.call { callee := Callee.value (Operand.func 21), args := #[Operand.tmp 38], argTypes := #[23] }, type := 3, pos := "law.go:45", after := #[{ on := 7, ground := Ground.data }, { on := 6, ground := Ground.chain }, { on := 6, ground := Ground.guard }], guard := some (6, true) }) (by kernel_rfl) rfl (fun K hK => ?_)
  go_simp
  go_at_call 21
  refine (hroomN HS0.out.pair.ring HN.out).mono ?_
  rintro e w' ⟨rfl, rfl⟩
  refine hK _ _ ⟨fun _ => hS, ?_⟩
  clear hK K
  refine late_take (i := 15) (some 46) rfl rfl (by kernel_rfl) (by kernel_rfl) (by kernel_rfl) (by kernel_rfl) (by kernel_rfl) (fun _ _ _ h => h) (by rfl) (v := ?v15) ?hy15 hS ?rest15
  case hy15 => intro w0 hSw; (try dsimp only at hSw); go_simp; try with_reducible rfl
  simp only [Act.put, List.setIfInBounds_toArray, List.set_cons_zero, List.set_cons_succ]
  refine late_take (i := 16) (some 47) rfl rfl (by kernel_rfl) (by kernel_rfl) (by kernel_rfl) (by kernel_rfl) (by kernel_rfl) (fun _ _ _ h => h) (by rfl) (v := ?v16) ?hy16 hS ?rest16
  case hy16 => intro w0 hSw; (try dsimp only at hSw); go_simp; try with_reducible rfl
  simp only [Act.put, List.setIfInBounds_toArray, List.set_cons_zero, List.set_cons_succ]
  refine late_take (i := 17) (some 48) rfl rfl (by kernel_rfl) (by kernel_rfl) (by kernel_rfl) (by kernel_rfl) (by kernel_rfl) (fun _ _ _ h => h) (by rfl) (v := ?v17) ?hy17 hS ?rest17
  case hy17 => intro w0 hSw; (try dsimp only at hSw); go_simp; try with_reducible rfl
  simp only [Act.put, List.setIfInBounds_toArray, List.set_cons_zero, List.set_cons_succ]
  refine late_take (i := 18) (some 49) rfl rfl (by kernel_rfl) (by kernel_rfl) (by kernel_rfl) (by kernel_rfl) (by kernel_rfl) (fun _ _ _ h => h) (by rfl) (v := ?v18) ?hy18 hS ?rest18
  case hy18 => intro w0 hSw; (try dsimp only at hSw); go_simp; try with_reducible rfl
  simp only [Act.put, List.setIfInBounds_toArray, List.set_cons_zero, List.set_cons_succ]
  refine late_take (i := 20) (some 51) rfl rfl (by kernel_rfl) (by kernel_rfl) (by kernel_rfl) (by kernel_rfl) (by kernel_rfl) (fun _ _ _ h => h) (by rfl) (v := ?v20) ?hy20 hS ?rest20
  case hy20 => intro w0 hSw; (try dsimp only at hSw); go_simp; try with_reducible rfl
  simp only [Act.put, List.setIfInBounds_toArray, List.set_cons_zero, List.set_cons_succ]
  refine late_take (i := 21) (some 52) rfl rfl (by kernel_rfl) (by kernel_rfl) (by kernel_rfl) (by kernel_rfl) (by kernel_rfl) (fun _ _ _ h => h) (by rfl) (v := ?v21) ?hy21 hS ?rest21
  case hy21 => intro w0 hSw; (try dsimp only at hSw); go_simp; try with_reducible rfl
  simp only [Act.put, List.setIfInBounds_toArray, List.set_cons_zero, List.set_cons_succ]
  refine wpAnyD_one (i := 19) (o := { dst := some 50, op := Op.call { callee := Callee.value (Operand.func 27), args := #[Operand.tmp 49], argTypes := #[23] }, type := 3, pos := "law.go:45", after := #[{ on := 18, ground := Ground.data }, { on := 17, ground := Ground.chain }, { on := 17, ground := Ground.guard }], guard := some (17, true) }) (by kernel_rfl) rfl (fun K hK => ?_)
  go_simp
  go_at_call 27
  refine (hsize_any HS0.out.pair.ring).mono ?_
  rintro e w' ⟨rfl, rfl⟩
  refine hK _ _ ⟨fun _ => hS, ?_⟩
  clear hK K
  refine late_take (i := 22) (some 53) rfl rfl (by kernel_rfl) (by kernel_rfl) (by kernel_rfl) (by kernel_rfl) (by kernel_rfl) (fun _ _ _ h => h) (by rfl) (v := ?v22) ?hy22 hS ?rest22
  case hy22 => intro w0 hSw; (try dsimp only at hSw); go_simp; try with_reducible rfl
  simp only [Act.put, List.setIfInBounds_toArray, List.set_cons_zero, List.set_cons_succ]
  refine late_take (i := 23) (some 54) rfl rfl (by kernel_rfl) (by kernel_rfl) (by kernel_rfl) (by kernel_rfl) (by kernel_rfl) (fun _ _ _ h => h) (by rfl) (v := ?v23) ?hy23 hS ?rest23
  case hy23 => intro w0 hSw; (try dsimp only at hSw); go_simp; try with_reducible rfl
  simp only [Act.put, List.setIfInBounds_toArray, List.set_cons_zero, List.set_cons_succ]
  refine late_take (i := 24) (some 55) rfl rfl (by kernel_rfl) (by kernel_rfl) (by kernel_rfl) (by kernel_rfl) (by kernel_rfl) (fun _ _ _ h => h) (by rfl) (v := ?v24) ?hy24 hS ?rest24
  case hy24 => intro w0 hSw; (try dsimp only at hSw); go_simp; try with_reducible rfl
  simp only [Act.put, List.setIfInBounds_toArray, List.set_cons_zero, List.set_cons_succ]
  refine late_take (i := 25) (some 56) rfl rfl (by kernel_rfl) (by kernel_rfl) (by kernel_rfl) (by kernel_rfl) (by kernel_rfl) (fun _ _ _ h => h) (by rfl) (v := ?v25) ?hy25 hS ?rest25
  case hy25 => intro w0 hSw; (try dsimp only at hSw); go_simp; try with_reducible rfl
  simp only [Act.put, List.setIfInBounds_toArray, List.set_cons_zero, List.set_cons_succ]
  refine late_take (i := 26) (some 57) rfl rfl (by kernel_rfl) (by kernel_rfl) (by kernel_rfl) (by kernel_rfl) (by kernel_rfl) (fun _ _ _ h => h) (by rfl) (v := ?v26) ?hy26 hS ?rest26
  case hy26 => intro w0 hSw; (try dsimp only at hSw); go_simp; try with_reducible rfl
  simp only [Act.put, List.setIfInBounds_toArray, List.set_cons_zero, List.set_cons_succ]
  refine late_take (i := 27) (some 58) rfl rfl (by kernel_rfl) (by kernel_rfl) (by kernel_rfl) (by kernel_rfl) (by kernel_rfl) (fun _ _ _ h => h) (by rfl) (v := ?v27) ?hy27 hS ?rest27
  case hy27 => intro w0 hSw; (try dsimp only at hSw); go_simp; try with_reducible rfl
  simp only [Act.put, List.setIfInBounds_toArray, List.set_cons_zero, List.set_cons_succ]
  refine late_take (i := 28) (some 59) rfl rfl (by kernel_rfl) (by kernel_rfl) (by kernel_rfl) (by kernel_rfl) (by kernel_rfl) (fun _ _ _ h => h) (by rfl) (v := ?v28) ?hy28 hS ?rest28
  case hy28 => intro w0 hSw; (try dsimp only at hSw); go_simp; try with_reducible rfl
  simp only [Act.put, List.setIfInBounds_toArray, List.set_cons_zero, List.set_cons_succ]
  refine late_take (i := 29) (some 60) rfl rfl (by kernel_rfl) (by kernel_rfl) (by kernel_rfl) (by kernel_rfl) (by kernel_rfl) (fun _ _ _ h => h) (by rfl) (v := ?v29) ?hy29 hS ?rest29
  case hy29 => intro w0 hSw; (try dsimp only at hSw); go_simp; try with_reducible rfl
  simp only [Act.put, List.setIfInBounds_toArray, List.set_cons_zero, List.set_cons_succ]
  refine late_take (i := 30) (some 61) rfl rfl (by kernel_rfl) (by kernel_rfl) (by kernel_rfl) (by kernel_rfl) (by kernel_rfl) (fun _ _ _ h => h) (by rfl) (v := ?v30) ?hy30 hS ?rest30
  case hy30 => intro w0 hSw; (try dsimp only at hSw); go_simp; try with_reducible rfl
  simp only [Act.put, List.setIfInBounds_toArray, List.set_cons_zero, List.set_cons_succ]
  refine late_take (i := 31) (some 62) rfl rfl (by kernel_rfl) (by kernel_rfl) (by kernel_rfl) (by kernel_rfl) (by kernel_rfl) (fun _ _ _ h => h) (by rfl) (v := ?v31) ?hy31 hS ?rest31
  case hy31 => intro w0 hSw; (try dsimp only at hSw); go_simp; try with_reducible rfl
  simp only [Act.put, List.setIfInBounds_toArray, List.set_cons_zero, List.set_cons_succ]
  refine late_take (i := 32) (some 63) rfl rfl (by kernel_rfl) (by kernel_rfl) (by kernel_rfl) (by kernel_rfl) (by kernel_rfl) (fun _ _ _ h => h) (by rfl) (v := ?v32) ?hy32 hS ?rest32
  case hy32 => intro w0 hSw; (try dsimp only at hSw); go_simp; try with_reducible rfl
  simp only [Act.put, List.setIfInBounds_toArray, List.set_cons_zero, List.set_cons_succ]
  refine late_take (i := 33) (some 64) rfl rfl (by kernel_rfl) (by kernel_rfl) (by kernel_rfl) (by kernel_rfl) (by kernel_rfl) (fun _ _ _ h => h) (by rfl) (v := ?v33) ?hy33 hS ?rest33
  case hy33 => intro w0 hSw; (try dsimp only at hSw); go_simp; try with_reducible rfl
  simp only [Act.put, List.setIfInBounds_toArray, List.set_cons_zero, List.set_cons_succ]
  refine late_take (i := 34) (some 65) rfl rfl (by kernel_rfl) (by kernel_rfl) (by kernel_rfl) (by kernel_rfl) (by kernel_rfl) (fun _ _ _ h => h) (by rfl) (v := ?v34) ?hy34 hS ?rest34
  case hy34 => intro w0 hSw; (try dsimp only at hSw); go_simp; try with_reducible rfl
  simp only [Act.put, List.setIfInBounds_toArray, List.set_cons_zero, List.set_cons_succ]
  refine late_take (i := 35) (some 66) rfl rfl (by kernel_rfl) (by kernel_rfl) (by kernel_rfl) (by kernel_rfl) (by kernel_rfl) (fun _ _ _ h => h) (by rfl) (v := ?v35) ?hy35 hS ?rest35
  case hy35 => intro w0 hSw; (try dsimp only at hSw); go_simp; try with_reducible rfl
  simp only [Act.put, List.setIfInBounds_toArray, List.set_cons_zero, List.set_cons_succ]
  refine late_take (i := 36) (some 67) rfl rfl (by kernel_rfl) (by kernel_rfl) (by kernel_rfl) (by kernel_rfl) (by kernel_rfl) (fun _ _ _ h => h) (by rfl) (v := ?v36) ?hy36 hS ?rest36
  case hy36 => intro w0 hSw; (try dsimp only at hSw); go_simp; try with_reducible rfl
  simp only [Act.put, List.setIfInBounds_toArray, List.set_cons_zero, List.set_cons_succ]
  refine late_take (i := 39) (some 70) rfl rfl (by kernel_rfl) (by kernel_rfl) (by kernel_rfl) (by kernel_rfl) (by kernel_rfl) (fun _ _ _ h => h) (by rfl) (v := ?v39) ?hy39 hS ?rest39
  case hy39 => intro w0 hSw; (try dsimp only at hSw); go_simp; try with_reducible rfl
  simp only [Act.put, List.setIfInBounds_toArray, List.set_cons_zero, List.set_cons_succ]
  refine late_take (i := 40) (some 71) rfl rfl (by kernel_rfl) (by kernel_rfl) (by kernel_rfl) (by kernel_rfl) (by kernel_rfl) (fun _ _ _ h => h) (by rfl) (v := ?v40) ?hy40 hS ?rest40
  case hy40 => intro w0 hSw; (try dsimp only at hSw); go_simp; try with_reducible rfl
  simp only [Act.put, List.setIfInBounds_toArray, List.set_cons_zero, List.set_cons_succ]
  refine wpAnyD_one (i := 37) (o := { dst := some 68, op := Op.call { callee := Callee.value (Operand.func 14), args := #[Operand.tmp 66, Operand.tmp 67], argTypes := #[23, 3] }, type := 28, pos := "law.go:45", after := #[{ on := 35, ground := Ground.data }, { on := 36, ground := Ground.data }, { on := 34, ground := Ground.chain }, { on := 34, ground := Ground.guard }], guard := some (34, true) }) (by kernel_rfl) rfl (fun K hK => ?_)
  go_simp
  go_at_call 14
  refine (hpeek_any HS0.out.pair.ring n).mono ?_
  rintro e w4 ⟨v4, rfl, hv4, hb4⟩
  have HS4 := hid (HS0.out.next hb4)
  have hcv4 := conv_bytes hv4
  rw [HTT.out] at hcv4
  have hS4 : (convert 28 9 (.slice po no co)).run Try.prog w4 = .ok (.string T) w4 := by rw [← HTT.out]; exact (HRA.out.below hb4).conv
  have HRA4 := hid (HRA.out.below hb4)
  clear hv4 hb4 HS0 HRA
  refine hK _ _ ⟨fun _ => ⟨HS4.out.c0, HS4.out.c1, hS4⟩, ?_⟩
  replace hS : w4.cell? ⟨w.heap.size, 0, none⟩ = some (.int .i64 S) ∧ w4.cell? ⟨w.heap.size, 1, none⟩ = some (.slice pv N c) ∧ (convert 28 9 (.slice po no co)).run Try.prog w4 = .ok (.string T) w4 := ⟨HS4.out.c0, HS4.out.c1, hS4⟩
  clear hK K
  refine wpAnyD_one (i := 38) (o := { dst := some 69, op := Op.convert 28 9 (Operand.tmp 68), type := 9, pos := "law.go:45", after := #[{ on := 37, ground := Ground.data }, { on := 34, ground := Ground.guard }], guard := some (34, true) }) (by kernel_rfl) rfl (fun K hK => ?_)
  go_simp
  refine hK _ _ ⟨fun _ => hS, ?_⟩
  clear hK K
  refine late_take (i := 41) (some 72) rfl rfl (by kernel_rfl) (by kernel_rfl) (by kernel_rfl) (by kernel_rfl) (by kernel_rfl) (fun _ _ _ h => h) (by rfl) (v := ?v41) ?hy41 hS ?rest41
  case hy41 => intro w0 hSw; (try dsimp only at hSw); go_simp; try with_reducible rfl
  simp only [Act.put, List.setIfInBounds_toArray, List.set_cons_zero, List.set_cons_succ]
  refine late_take (i := 42) (some 73) rfl rfl (by kernel_rfl) (by kernel_rfl) (by kernel_rfl) (by kernel_rfl) (by kernel_rfl) (fun _ _ _ h => h) (by rfl) (v := ?v42) ?hy42 hS ?rest42
  case hy42 => intro w0 hSw; (try dsimp only at hSw); go_simp; try with_reducible rfl
  simp only [Act.put, List.setIfInBounds_toArray, List.set_cons_zero, List.set_cons_succ]
  refine late_take (i := 43) (some 74) rfl rfl (by kernel_rfl) (by kernel_rfl) (by kernel_rfl) (by kernel_rfl) (by kernel_rfl) (fun _ _ _ h => h) (by rfl) (v := ?v43) ?hy43 hS ?rest43
  case hy43 => intro w0 hSw; (try dsimp only at hSw); go_simp; try with_reducible rfl
  simp only [Act.put, List.setIfInBounds_toArray, List.set_cons_zero, List.set_cons_succ]
  refine late_take (i := 44) (some 75) rfl rfl (by kernel_rfl) (by kernel_rfl) (by kernel_rfl) (by kernel_rfl) (by kernel_rfl) (fun _ _ _ h => h) (by rfl) (v := ?v44) ?hy44 hS ?rest44
  case hy44 => intro w0 hSw; (try dsimp only at hSw); go_simp; try with_reducible rfl
  simp only [Act.put, List.setIfInBounds_toArray, List.set_cons_zero, List.set_cons_succ]
  refine late_take (i := 45) (some 76) rfl rfl (by kernel_rfl) (by kernel_rfl) (by kernel_rfl) (by kernel_rfl) (by kernel_rfl) (fun _ _ _ h => h) (by rfl) (v := ?v45) ?hy45 hS ?rest45
  case hy45 => intro w0 hSw; (try dsimp only at hSw); go_simp; try with_reducible rfl
  simp only [Act.put, List.setIfInBounds_toArray, List.set_cons_zero, List.set_cons_succ]
  refine late_take (i := 46) (some 77) rfl rfl (by kernel_rfl) (by kernel_rfl) (by kernel_rfl) (by kernel_rfl) (by kernel_rfl) (fun _ _ _ h => h) (by rfl) (v := ?v46) ?hy46 hS ?rest46
  case hy46 => intro w0 hSw; (try dsimp only at hSw); go_simp; try with_reducible rfl
  simp only [Act.put, List.setIfInBounds_toArray, List.set_cons_zero, List.set_cons_succ]
  refine late_take (i := 47) (some 78) rfl rfl (by kernel_rfl) (by kernel_rfl) (by kernel_rfl) (by kernel_rfl) (by kernel_rfl) (fun _ _ _ h => h) (by rfl) (v := ?v47) ?hy47 hS ?rest47
  case hy47 => intro w0 hSw; (try dsimp only at hSw); go_simp; try with_reducible rfl
  simp only [Act.put, List.setIfInBounds_toArray, List.set_cons_zero, List.set_cons_succ]
  refine late_take (i := 48) (some 79) rfl rfl (by kernel_rfl) (by kernel_rfl) (by kernel_rfl) (by kernel_rfl) (by kernel_rfl) (fun _ _ _ h => h) (by rfl) (v := ?v48) ?hy48 hS ?rest48
  case hy48 => intro w0 hSw; (try dsimp only at hSw); go_simp; try with_reducible rfl
  simp only [Act.put, List.setIfInBounds_toArray, List.set_cons_zero, List.set_cons_succ]
  refine late_take (i := 50) (some 81) rfl rfl (by kernel_rfl) (by kernel_rfl) (by kernel_rfl) (by kernel_rfl) (by kernel_rfl) (fun _ _ _ h => h) (by rfl) (v := ?v50) ?hy50 hS ?rest50
  case hy50 => intro w0 hSw; (try dsimp only at hSw); go_simp; try with_reducible rfl
  simp only [Act.put, List.setIfInBounds_toArray, List.set_cons_zero, List.set_cons_succ]
  refine late_take (i := 51) (some 82) rfl rfl (by kernel_rfl) (by kernel_rfl) (by kernel_rfl) (by kernel_rfl) (by kernel_rfl) (fun _ _ _ h => h) (by rfl) (v := ?v51) ?hy51 hS ?rest51
  case hy51 => intro w0 hSw; (try dsimp only at hSw); go_simp; try with_reducible rfl
  simp only [Act.put, List.setIfInBounds_toArray, List.set_cons_zero, List.set_cons_succ]
  refine late_take (i := 52) (some 83) rfl rfl (by kernel_rfl) (by kernel_rfl) (by kernel_rfl) (by kernel_rfl) (by kernel_rfl) (fun _ _ _ h => h) (by rfl) (v := ?v52) ?hy52 hS ?rest52
  case hy52 => intro w0 hSw; (try dsimp only at hSw); go_simp; try with_reducible rfl
  simp only [Act.put, List.setIfInBounds_toArray, List.set_cons_zero, List.set_cons_succ]
  refine late_take (i := 53) (some 84) rfl rfl (by kernel_rfl) (by kernel_rfl) (by kernel_rfl) (by kernel_rfl) (by kernel_rfl) (fun _ _ _ h => h) (by rfl) (v := ?v53) ?hy53 hS ?rest53
  case hy53 => intro w0 hSw; (try dsimp only at hSw); go_simp; try with_reducible rfl
  simp only [Act.put, List.setIfInBounds_toArray, List.set_cons_zero, List.set_cons_succ]
  refine late_take (i := 54) (some 85) rfl rfl (by kernel_rfl) (by kernel_rfl) (by kernel_rfl) (by kernel_rfl) (by kernel_rfl) (fun _ _ _ h => h) (by rfl) (v := ?v54) ?hy54 hS ?rest54
  case hy54 => intro w0 hSw; (try dsimp only at hSw); go_simp; try with_reducible rfl
  simp only [Act.put, List.setIfInBounds_toArray, List.set_cons_zero, List.set_cons_succ]
  refine wpAnyD_one (i := 49) (o := { dst := some 80, op := Op.call { callee := Callee.value (Operand.func 20), args := #[Operand.tmp 75, Operand.tmp 77, Operand.tmp 79], argTypes := #[23, 5, 3] }, type := 3, pos := "law.go:45", after := #[{ on := 44, ground := Ground.data }, { on := 46, ground := Ground.data }, { on := 48, ground := Ground.data }, { on := 43, ground := Ground.chain }, { on := 43, ground := Ground.guard }], guard := some (43, true) }) (by kernel_rfl) rfl (fun K hK => ?_)
  go_simp
  go_at_call 20
  refine (hindex_any HS4.out.pair.ring _ _ (wrap_bd _)).mono ?_
  rintro e w5 ⟨rfl, hs5⟩
  have HS5 := hid (HS4.out.next (hs5.below _))
  have hS5 : (convert 28 9 (.slice po no co)).run Try.prog w5 = .ok (.string T) w5 := by rw [← HTT.out]; exact (HRA4.out.below (hs5.below _)).conv
  have HRA5 := hid (HRA4.out.below (hs5.below _))
  clear hs5 HS4 HRA4 hcv4
  refine hK _ _ ⟨fun _ => ⟨HS5.out.c0, HS5.out.c1, hS5⟩, ?_⟩
  replace hS : w5.cell? ⟨w.heap.size, 0, none⟩ = some (.int .i64 S) ∧ w5.cell? ⟨w.heap.size, 1, none⟩ = some (.slice pv N c) ∧ (convert 28 9 (.slice po no co)).run Try.prog w5 = .ok (.string T) w5 := ⟨HS5.out.c0, HS5.out.c1, hS5⟩
  clear hK K
  refine wpAnyD_one (i := 55) (o := { dst := some 86, op := Op.call { callee := Callee.value (Operand.func 28), args := #[Operand.tmp 81, Operand.tmp 83, Operand.tmp 85], argTypes := #[30, 5, 3] }, type := 3, pos := "law.go:45", after := #[{ on := 50, ground := Ground.data }, { on := 52, ground := Ground.data }, { on := 54, ground := Ground.data }, { on := 49, ground := Ground.chain }, { on := 43, ground := Ground.guard }], guard := some (43, true) }) (by kernel_rfl) rfl (fun K hK => ?_)
  go_simp
  go_at_call 28
  refine (refIndex_any S _ _ _ HS5.out.pair.ref.arg (by rw [HN.out]; omega) (wrap_bd _)).mono ?_
  rintro e w6 ⟨rfl, hb6⟩
  have HS6 := hid (HS5.out.next hb6)
  have hS6 : (convert 28 9 (.slice po no co)).run Try.prog w6 = .ok (.string T) w6 := by rw [← HTT.out]; exact (HRA5.out.below hb6).conv
  clear hb6 HS5 HRA5
  refine hK _ _ ⟨fun _ => ⟨HS6.out.c0, HS6.out.c1, hS6⟩, ?_⟩
  replace hS : w6.cell? ⟨w.heap.size, 0, none⟩ = some (.int .i64 S) ∧ w6.cell? ⟨w.heap.size, 1, none⟩ = some (.slice pv N c) ∧ (convert 28 9 (.slice po no co)).run Try.prog w6 = .ok (.string T) w6 := ⟨HS6.out.c0, HS6.out.c1, hS6⟩
  clear hK K
  refine late_take (i := 56) (some 87) rfl rfl (by kernel_rfl) (by kernel_rfl) (by kernel_rfl) (by kernel_rfl) (by kernel_rfl) (fun _ _ _ h => h) (by rfl) (v := ?v56) ?hy56 hS ?rest56
  case hy56 => intro w0 hSw; (try dsimp only at hSw); go_simp; try with_reducible rfl
  simp only [Act.put, List.setIfInBounds_toArray, List.set_cons_zero, List.set_cons_succ]
  refine late_take (i := 57) (some 88) rfl rfl (by kernel_rfl) (by kernel_rfl) (by kernel_rfl) (by kernel_rfl) (by kernel_rfl) (fun _ _ _ h => h) (by rfl) (v := ?v57) ?hy57 hS ?rest57
  case hy57 => intro w0 hSw; (try dsimp only at hSw); go_simp; try with_reducible rfl
  simp only [Act.put, List.setIfInBounds_toArray, List.set_cons_zero, List.set_cons_succ]
  refine late_take (i := 58) (some 6) rfl rfl (by kernel_rfl) (by kernel_rfl) (by kernel_rfl) (by kernel_rfl) (by kernel_rfl) (fun _ _ _ h => h) (by rfl) (v := ?v58) ?hy58 hS ?rest58
  case hy58 => intro w0 hSw; (try dsimp only at hSw); go_simp; try with_reducible rfl
  simp only [Act.put, List.setIfInBounds_toArray, List.set_cons_zero, List.set_cons_succ]
  refine late_done (by kernel_rfl) ?_ _
  refine NoPanic.normal ?_
  go_wp2
  go_ret
  exact ⟨rfl, HS6.out.pair.below⟩
end Go.Proofs.Ytfiiiefhchbhlaa
