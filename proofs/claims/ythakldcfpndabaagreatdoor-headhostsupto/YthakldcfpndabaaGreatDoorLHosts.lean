/- The law of hosts. -/
import Derived.Test.YthakldcfpndabaaGreatDoorHHostD
import Derived.Test.YthakldcfpndabaaGreatDoorHKeep
import Derived.Test.YthakldcfpndabaaGreatDoorLFns
namespace Go.Proofs.YthakldcfpndabaaGreatDoor
open Go.RowKit

structure BoxQ (w W : World) (A : Array Value) : Prop where
  low : Below w.heap.size w W
  blk : W.heap[w.heap.size]? = some (.cells A 24 (0, 0))
theorem BoxQ.next {w W W' : World} {A : Array Value} (h : BoxQ w W A) (hb : Below W.heap.size W W') : BoxQ w W' A := ⟨below_out h.low hb, (hb.block _ (lt_of_heap h.blk)).trans h.blk⟩
structure RdQ4 (U : World) (g : Nat) (c0 c1 c2 c3 : Value) : Prop where
  a0 : U.cell? ⟨g, 0, none⟩ = some c0
  a1 : U.cell? ⟨g, 1, none⟩ = some c1
  a2 : U.cell? ⟨g, 2, none⟩ = some c2
  a3 : U.cell? ⟨g, 3, none⟩ = some c3
theorem BoxQ.rd {w W : World} {c0 c1 c2 c3 : Value} (h : BoxQ w W #[c0, c1, c2, c3]) : RdQ4 W w.heap.size c0 c1 c2 c3 := by
  obtain ⟨y0, y1, y2, y3, _⟩ := cells4 h.blk
  exact ⟨y0, y1, y2, y3⟩
set_option maxRecDepth 20000 in
set_option maxHeartbeats 16000000 in
theorem hosts_walk (M T : ByteArray) (k : Int) (fs : List (B × B)) (p : Option Addr) (n c : Nat) (hn : fs.length = n) (w : World) (hF : FAt w p fs) (hsz : szB fs) (hnn : n ≤ 1048576) (hmx : ∃ m : Int, w.cell? ⟨1, 0, none⟩ = some (.int .i64 m)) (hE : EnvE w) :
    Calls Tryz.prog 3 #[.agg #[.string M, .string T, .int .i64 k, .slice p n c]] w fun e w' => e = .returned (.bool true) ∧ Below w.heap.size w w' := by
  obtain ⟨mm, hmm⟩ := hmx
  have HP := hid (show ∀ W : World, Below w.heap.size w W → _ from fun W hb => phost M T k fs p n c hn W (hF.next hb) hsz hnn ⟨mm, cell_keep hb hmm⟩)
  have HD := hid (show ∀ W : World, Below w.heap.size w W → _ from fun W hb => dhost M T k fs p n c hn W (hF.next hb) hsz hnn)
  have HN := hid (show ∀ W : World, Below w.heap.size w W → _ from fun W hb => num_any (hostOut k (oneB (valsB fs hostName))).2.2 W (hE.next hb))
  have HK1 := hid (show ∀ W : World, Below w.heap.size w W → _ from fun W hb => pkeep k fs p n c hn W (hF.next hb) hsz hnn ⟨mm, cell_keep hb hmm⟩)
  have HK2 := hid (show ∀ W : World, Below w.heap.size w W → _ from fun W hb => dkeep k fs p n c hn W (hF.next hb) hsz hnn)
  have HSu := hid (show ∀ W : World, _ from fun W => sure_any W)
  obtain ⟨⟨h1, p1, E⟩, hO⟩ : ∃ x, hostOut k (oneB (valsB fs hostName)) = x := ⟨_, rfl⟩
  rw [hO] at HP HD HN
  dsimp only at HP HD HN
  obtain ⟨X, hX⟩ : ∃ X, str h1 = X := ⟨_, rfl⟩
  obtain ⟨Y, hY⟩ : ∃ X, str p1 = X := ⟨_, rfl⟩
  obtain ⟨V, hV⟩ : ∃ V, errOf E = V := ⟨_, rfl⟩
  obtain ⟨Q, hQ⟩ : ∃ Q, keepOut k fs = Q := ⟨_, rfl⟩
  rw [hX, hY] at HP HD
  rw [hV] at HP HN
  rw [hQ] at HK1 HK2
  have HB0 := hid (show BoxQ w (w.alloc (.cells #[.string M, .string T, .int .i64 k, .slice p n c] 24 (0, 0))) #[.string M, .string T, .int .i64 k, .slice p n c] from ⟨below_new _ _, heap_alloc_new _ _⟩)
  clear hO hX hY hV hQ hF hsz hn hE hmm
  go_enter Tryz.func3, Tryz.ntmps3
  go_wp2_with (first | (go_at_call 4; (with_reducible refine (HP.out _ HB0.out.low).mono ?_); rintro e w1 ⟨rfl, hb⟩; have HB1 := hid (HB0.out.next hb); obtain ⟨x0, x1, x2, x3⟩ := HB1.out.rd; clear hb HP) | (go_at_call 5; (with_reducible refine (HD.out _ HB1.out.low).mono ?_); rintro e w2 ⟨rfl, hb⟩; have HB2 := hid (HB1.out.next hb); clear x0 x1 x2 x3 hb HD))
  have HB3 := hid (show BoxQ w w2.drew #[.string M, .string T, .int .i64 k, .slice p n c] from ⟨HB2.out.low.drew, HB2.out.blk⟩)
  refine wp_region_noPanic ?_
  refine any_begin 31 (by kernel_rfl) (by kernel_rfl) ?_
  refine late_begin (fun U => RdQ4 U w.heap.size (.string M) (.string T) (.int .i64 k) (.slice p n c)) (fun _ => false) HB3.out.rd (fun hS => ?_)
  refine late_take (i := 0) (some 21) rfl rfl (by kernel_rfl) (by kernel_rfl) (by kernel_rfl) (by kernel_rfl) (by kernel_rfl) (fun _ _ _ h => h) (by rfl) (v := ?v0h) ?hy0h hS ?rest0h
  case hy0h => intro w0 hSw; obtain ⟨a0, a1, a2, a3⟩ := hSw; go_simp; try with_reducible rfl
  simp only [Act.put, List.setIfInBounds_toArray, List.set_cons_zero, List.set_cons_succ]
  refine late_take (i := 1) (some 22) rfl rfl (by kernel_rfl) (by kernel_rfl) (by kernel_rfl) (by kernel_rfl) (by kernel_rfl) (fun _ _ _ h => h) (by rfl) (v := ?v1h) ?hy1h hS ?rest1h
  case hy1h => intro w0 hSw; obtain ⟨a0, a1, a2, a3⟩ := hSw; go_simp; try with_reducible rfl
  simp only [Act.put, List.setIfInBounds_toArray, List.set_cons_zero, List.set_cons_succ]
  refine late_take (i := 2) (some 23) rfl rfl (by kernel_rfl) (by kernel_rfl) (by kernel_rfl) (by kernel_rfl) (by kernel_rfl) (fun _ _ _ h => h) (by rfl) (v := ?v2h) ?hy2h hS ?rest2h
  case hy2h => intro w0 hSw; obtain ⟨a0, a1, a2, a3⟩ := hSw; go_simp; try with_reducible rfl
  simp only [Act.put, List.setIfInBounds_toArray, List.set_cons_zero, List.set_cons_succ]
  refine late_take (i := 3) (some 24) rfl rfl (by kernel_rfl) (by kernel_rfl) (by kernel_rfl) (by kernel_rfl) (by kernel_rfl) (fun _ _ _ h => h) (by rfl) (v := ?v3h) ?hy3h hS ?rest3h
  case hy3h => intro w0 hSw; obtain ⟨a0, a1, a2, a3⟩ := hSw; go_simp; try with_reducible rfl
  simp only [Act.put, List.setIfInBounds_toArray, List.set_cons_zero, List.set_cons_succ]
  refine late_take (i := 4) (some 25) rfl rfl (by kernel_rfl) (by kernel_rfl) (by kernel_rfl) (by kernel_rfl) (by kernel_rfl) (fun _ _ _ h => h) (by rfl) (v := ?v4h) ?hy4h hS ?rest4h
  case hy4h => intro w0 hSw; obtain ⟨a0, a1, a2, a3⟩ := hSw; go_simp; try with_reducible rfl
  simp only [Act.put, List.setIfInBounds_toArray, List.set_cons_zero, List.set_cons_succ]
  refine late_take (i := 5) (some 26) rfl rfl (by kernel_rfl) (by kernel_rfl) (by kernel_rfl) (by kernel_rfl) (by kernel_rfl) (fun _ _ _ h => h) (by rfl) (v := ?v5h) ?hy5h hS ?rest5h
  case hy5h => intro w0 hSw; obtain ⟨a0, a1, a2, a3⟩ := hSw; go_simp; try with_reducible rfl
  simp only [Act.put, List.setIfInBounds_toArray, List.set_cons_zero, List.set_cons_succ]
  refine late_take (i := 6) (some 27) rfl rfl (by kernel_rfl) (by kernel_rfl) (by kernel_rfl) (by kernel_rfl) (by kernel_rfl) (fun _ _ _ h => h) (by rfl) (v := ?v6h) ?hy6h hS ?rest6h
  case hy6h => intro w0 hSw; obtain ⟨a0, a1, a2, a3⟩ := hSw; go_simp; try with_reducible rfl
  simp only [Act.put, List.setIfInBounds_toArray, List.set_cons_zero, List.set_cons_succ]
  refine late_take (i := 7) (some 28) rfl rfl (by kernel_rfl) (by kernel_rfl) (by kernel_rfl) (by kernel_rfl) (by kernel_rfl) (fun _ _ _ h => h) (by rfl) (v := ?v7h) ?hy7h hS ?rest7h
  case hy7h => intro w0 hSw; obtain ⟨a0, a1, a2, a3⟩ := hSw; go_simp; try with_reducible rfl
  simp only [Act.put, List.setIfInBounds_toArray, List.set_cons_zero, List.set_cons_succ]
  refine late_take (i := 8) (some 29) rfl rfl (by kernel_rfl) (by kernel_rfl) (by kernel_rfl) (by kernel_rfl) (by kernel_rfl) (fun _ _ _ h => h) (by rfl) (v := ?v8h) ?hy8h hS ?rest8h
  case hy8h => intro w0 hSw; obtain ⟨a0, a1, a2, a3⟩ := hSw; go_simp; try with_reducible rfl
  simp only [Act.put, List.setIfInBounds_toArray, List.set_cons_zero, List.set_cons_succ]
  refine late_take (i := 9) (some 30) rfl rfl (by kernel_rfl) (by kernel_rfl) (by kernel_rfl) (by kernel_rfl) (by kernel_rfl) (fun _ _ _ h => h) (by rfl) (v := ?v9h) ?hy9h hS ?rest9h
  case hy9h => intro w0 hSw; obtain ⟨a0, a1, a2, a3⟩ := hSw; go_simp; try with_reducible rfl
  simp only [Act.put, List.setIfInBounds_toArray, List.set_cons_zero, List.set_cons_succ]
  refine late_take (i := 11) (some 32) rfl rfl (by kernel_rfl) (by kernel_rfl) (by kernel_rfl) (by kernel_rfl) (by kernel_rfl) (fun _ _ _ h => h) (by rfl) (v := ?v11h) ?hy11h hS ?rest11h
  case hy11h => intro w0 hSw; obtain ⟨a0, a1, a2, a3⟩ := hSw; go_simp; try with_reducible rfl
  simp only [Act.put, List.setIfInBounds_toArray, List.set_cons_zero, List.set_cons_succ]
  refine wpAnyD_one (i := 10) (by kernel_rfl) rfl (fun K hK => ?_)
  go_simp
  go_at_call 6
  refine (HN.out _ HB3.out.low).mono ?_
  rintro e w4 ⟨rfl, hb⟩
  have HB4 := hid (HB3.out.next hb)
  have hS4 := HB4.out.rd
  refine hK _ _ ⟨fun _ => hS4, ?_⟩
  clear hK K hb hS
  refine late_take (i := 12) (some 33) rfl rfl (by kernel_rfl) (by kernel_rfl) (by kernel_rfl) (by kernel_rfl) (by kernel_rfl) (fun _ _ _ h => h) (by rfl) (v := ?v12h) ?hy12h hS4 ?rest12h
  case hy12h => intro w0 hSw; obtain ⟨a0, a1, a2, a3⟩ := hSw; go_simp; try with_reducible rfl
  simp only [Act.put, List.setIfInBounds_toArray, List.set_cons_zero, List.set_cons_succ]
  refine late_take (i := 13) (some 34) rfl rfl (by kernel_rfl) (by kernel_rfl) (by kernel_rfl) (by kernel_rfl) (by kernel_rfl) (fun _ _ _ h => h) (by rfl) (v := ?v13h) ?hy13h hS4 ?rest13h
  case hy13h => intro w0 hSw; obtain ⟨a0, a1, a2, a3⟩ := hSw; go_simp; try with_reducible rfl
  simp only [Act.put, List.setIfInBounds_toArray, List.set_cons_zero, List.set_cons_succ]
  refine late_take (i := 14) (some 35) rfl rfl (by kernel_rfl) (by kernel_rfl) (by kernel_rfl) (by kernel_rfl) (by kernel_rfl) (fun _ _ _ h => h) (by rfl) (v := ?v14h) ?hy14h hS4 ?rest14h
  case hy14h => intro w0 hSw; obtain ⟨a0, a1, a2, a3⟩ := hSw; go_simp; try with_reducible rfl
  simp only [Act.put, List.setIfInBounds_toArray, List.set_cons_zero, List.set_cons_succ]
  refine late_take (i := 15) (some 36) rfl rfl (by kernel_rfl) (by kernel_rfl) (by kernel_rfl) (by kernel_rfl) (by kernel_rfl) (fun _ _ _ h => h) (by rfl) (v := ?v15h) ?hy15h hS4 ?rest15h
  case hy15h => intro w0 hSw; obtain ⟨a0, a1, a2, a3⟩ := hSw; go_simp; try with_reducible rfl
  simp only [Act.put, List.setIfInBounds_toArray, List.set_cons_zero, List.set_cons_succ]
  refine late_take (i := 16) (some 37) rfl rfl (by kernel_rfl) (by kernel_rfl) (by kernel_rfl) (by kernel_rfl) (by kernel_rfl) (fun _ _ _ h => h) (by rfl) (v := ?v16h) ?hy16h hS4 ?rest16h
  case hy16h => intro w0 hSw; obtain ⟨a0, a1, a2, a3⟩ := hSw; go_simp; try with_reducible rfl
  simp only [Act.put, List.setIfInBounds_toArray, List.set_cons_zero, List.set_cons_succ]
  refine late_take (i := 17) (some 38) rfl rfl (by kernel_rfl) (by kernel_rfl) (by kernel_rfl) (by kernel_rfl) (by kernel_rfl) (fun _ _ _ h => h) (by rfl) (v := ?v17h) ?hy17h hS4 ?rest17h
  case hy17h => intro w0 hSw; obtain ⟨a0, a1, a2, a3⟩ := hSw; go_simp; try with_reducible rfl
  simp only [Act.put, List.setIfInBounds_toArray, List.set_cons_zero, List.set_cons_succ]
  refine late_take (i := 18) (some 39) rfl rfl (by kernel_rfl) (by kernel_rfl) (by kernel_rfl) (by kernel_rfl) (by kernel_rfl) (fun _ _ _ h => h) (by rfl) (v := ?v18h) ?hy18h hS4 ?rest18h
  case hy18h => intro w0 hSw; obtain ⟨a0, a1, a2, a3⟩ := hSw; go_simp; try with_reducible rfl
  simp only [Act.put, List.setIfInBounds_toArray, List.set_cons_zero, List.set_cons_succ]
  refine late_take (i := 20) (some 41) rfl rfl (by kernel_rfl) (by kernel_rfl) (by kernel_rfl) (by kernel_rfl) (by kernel_rfl) (fun _ _ _ h => h) (by rfl) (v := ?v20h) ?hy20h hS4 ?rest20h
  case hy20h => intro w0 hSw; obtain ⟨a0, a1, a2, a3⟩ := hSw; go_simp; try with_reducible rfl
  simp only [Act.put, List.setIfInBounds_toArray, List.set_cons_zero, List.set_cons_succ]
  refine late_take (i := 21) (some 42) rfl rfl (by kernel_rfl) (by kernel_rfl) (by kernel_rfl) (by kernel_rfl) (by kernel_rfl) (fun _ _ _ h => h) (by rfl) (v := ?v21h) ?hy21h hS4 ?rest21h
  case hy21h => intro w0 hSw; obtain ⟨a0, a1, a2, a3⟩ := hSw; go_simp; try with_reducible rfl
  simp only [Act.put, List.setIfInBounds_toArray, List.set_cons_zero, List.set_cons_succ]
  refine late_take (i := 22) (some 43) rfl rfl (by kernel_rfl) (by kernel_rfl) (by kernel_rfl) (by kernel_rfl) (by kernel_rfl) (fun _ _ _ h => h) (by rfl) (v := ?v22h) ?hy22h hS4 ?rest22h
  case hy22h => intro w0 hSw; obtain ⟨a0, a1, a2, a3⟩ := hSw; go_simp; try with_reducible rfl
  simp only [Act.put, List.setIfInBounds_toArray, List.set_cons_zero, List.set_cons_succ]
  refine late_take (i := 23) (some 44) rfl rfl (by kernel_rfl) (by kernel_rfl) (by kernel_rfl) (by kernel_rfl) (by kernel_rfl) (fun _ _ _ h => h) (by rfl) (v := ?v23h) ?hy23h hS4 ?rest23h
  case hy23h => intro w0 hSw; obtain ⟨a0, a1, a2, a3⟩ := hSw; go_simp; try with_reducible rfl
  simp only [Act.put, List.setIfInBounds_toArray, List.set_cons_zero, List.set_cons_succ]
  refine wpAnyD_one (i := 19) (by kernel_rfl) rfl (fun K hK => ?_)
  go_simp
  go_at_call 7
  refine (HK1.out _ HB4.out.low).mono ?_
  rintro e w5 ⟨rfl, hb⟩
  have HB5 := hid (HB4.out.next hb)
  have hS5 := HB5.out.rd
  refine hK _ _ ⟨fun _ => hS5, ?_⟩
  clear hK K hb hS4
  refine wpAnyD_one (i := 24) (by kernel_rfl) rfl (fun K hK => ?_)
  go_simp
  go_at_call 8
  refine (HK2.out _ HB5.out.low).mono ?_
  rintro e w6 ⟨rfl, hb⟩
  have HB6 := hid (HB5.out.next hb)
  have hS6 := HB6.out.rd
  refine hK _ _ ⟨fun _ => hS6, ?_⟩
  clear hK K hb hS5
  refine late_take (i := 25) (some 46) rfl rfl (by kernel_rfl) (by kernel_rfl) (by kernel_rfl) (by kernel_rfl) (by kernel_rfl) (fun _ _ _ h => h) (by rfl) (v := ?v25h) ?hy25h hS6 ?rest25h
  case hy25h => intro w0 hSw; obtain ⟨a0, a1, a2, a3⟩ := hSw; go_simp; try with_reducible rfl
  simp only [Act.put, List.setIfInBounds_toArray, List.set_cons_zero, List.set_cons_succ]
  refine late_take (i := 26) (some 47) rfl rfl (by kernel_rfl) (by kernel_rfl) (by kernel_rfl) (by kernel_rfl) (by kernel_rfl) (fun _ _ _ h => h) (by rfl) (v := ?v26h) ?hy26h hS6 ?rest26h
  case hy26h => intro w0 hSw; obtain ⟨a0, a1, a2, a3⟩ := hSw; go_simp; try with_reducible rfl
  simp only [Act.put, List.setIfInBounds_toArray, List.set_cons_zero, List.set_cons_succ]
  refine late_take (i := 27) (some 48) rfl rfl (by kernel_rfl) (by kernel_rfl) (by kernel_rfl) (by kernel_rfl) (by kernel_rfl) (fun _ _ _ h => h) (by rfl) (v := ?v27h) ?hy27h hS6 ?rest27h
  case hy27h => intro w0 hSw; obtain ⟨a0, a1, a2, a3⟩ := hSw; go_simp; try with_reducible rfl
  simp only [Act.put, List.setIfInBounds_toArray, List.set_cons_zero, List.set_cons_succ]
  refine wpAnyD_one (i := 28) (by kernel_rfl) rfl (fun K hK => ?_)
  go_simp
  go_at_call 9
  refine (HSu.out _).mono ?_
  rintro e w7 ⟨rfl, hb⟩
  have HB7 := hid (HB6.out.next hb)
  have hS7 := HB7.out.rd
  refine hK _ _ ⟨fun _ => hS7, ?_⟩
  clear hK K hb hS6
  refine late_take (i := 29) (some 50) rfl rfl (by kernel_rfl) (by kernel_rfl) (by kernel_rfl) (by kernel_rfl) (by kernel_rfl) (fun _ _ _ h => h) (by rfl) (v := ?v29h) ?hy29h hS7 ?rest29h
  case hy29h => intro w0 hSw; obtain ⟨a0, a1, a2, a3⟩ := hSw; go_simp; try with_reducible rfl
  simp only [Act.put, List.setIfInBounds_toArray, List.set_cons_zero, List.set_cons_succ]
  refine late_take (i := 30) (some 2) rfl rfl (by kernel_rfl) (by kernel_rfl) (by kernel_rfl) (by kernel_rfl) (by kernel_rfl) (fun _ _ _ h => h) (by rfl) (v := ?v30h) ?hy30h hS7 ?rest30h
  case hy30h => intro w0 hSw; obtain ⟨a0, a1, a2, a3⟩ := hSw; go_simp; try with_reducible rfl
  simp only [Act.put, List.setIfInBounds_toArray, List.set_cons_zero, List.set_cons_succ]
  refine late_done (by kernel_rfl) ?_ _
  refine NoPanic.normal ?_
  go_wp2
  go_ret
  exact ⟨rfl, HB7.out.low⟩
end Go.Proofs.YthakldcfpndabaaGreatDoor
