/- The program's reader: the end of a line. -/
import Derived.Test.YthakldcfpndabaaGreatDoorPRow
namespace Go.Proofs.YthakldcfpndabaaGreatDoor
open Go.RowKit

structure RdE (U : World) (g : Nat) (c6 c7 c13 : Value) : Prop where
  a6 : U.cell? ⟨g, 6, none⟩ = some c6
  a7 : U.cell? ⟨g, 7, none⟩ = some c7
  a13 : U.cell? ⟨g, 13, none⟩ = some c13
theorem RdE.below {U V : World} {g : Nat} {c6 c7 c13 : Value} (h : RdE U g c6 c7 c13) (hb : Below U.heap.size U V) : RdE V g c6 c7 c13 := ⟨cell_keep hb h.a6, cell_keep hb h.a7, cell_keep hb h.a13⟩
theorem Rd.grownF {w w' : World} {g : Nat} {s : PS} {p : Value} {pp : Option Addr} {n c : Nat} (h : Rd w g s p (.slice pp n c)) (hg : w.grownBy w' (Value.slice pp n c).ownBlock) : w'.heap[g]? = some (.cells (rdCells s p (.slice pp n c)) 103 (0, 0)) ∧ Own w' 0 p s.part := by
  refine ⟨(hg.block g (lt_of_heap h.blk) (fun e => t_ne2 (ownF_type h.flds e.symm h.blk))).trans h.blk, ?_⟩
  refine own_only h.part (Only.grown (F := fun k => some k = (Value.slice pp n c).ownBlock) hg (fun k e => e.symm)) (fun k e hk => ?_)
  rcases h.part.2 with ⟨h1, _⟩ | ⟨q, cap, cur, h1, h2, h3, _⟩
  · rw [h1] at e; simp [Value.ownBlock] at e
  · rw [h1] at e
    simp [Value.ownBlock] at e
    subst e
    exact t_ne3 (ownF_type h.flds hk.symm h3)
theorem Rd.next {w w' : World} {g : Nat} {s : PS} {p f : Value} (h : Rd w g s p f) (hb : Below w.heap.size w w') : Rd w' g s p f := ⟨(hb.block g (lt_of_heap h.blk)).trans h.blk, h.part.keep hb, h.flds.keep hb⟩
theorem two_cells {V : World} {g : Nat} {a b : Value} {T : TypeId} (h : V.heap[g]? = some (.cells #[a, b] T (0, 0))) : ∀ j u, [a, b][j]? = some u → V.cell? ((⟨g, 0, none⟩ : Addr).add j) = some u := by
  intro j u hj
  rw [add_off]
  simp only [World.cell?, h]
  simpa using hj
theorem sliceF_len {w : World} {N n c : Nat} {p : Option Addr} {acc : List (B × B)} (h : OwnF w N (.slice p n c) acc) : acc.length = n := by
  rcases h.2 with ⟨h1, h2⟩ | ⟨g, cap, cur, h1, _⟩
  · cases h1; exact h2
  · cases h1; rfl
set_option maxRecDepth 20000 in
set_option maxHeartbeats 8000000 in
theorem end_no_any (g : Nat) (c : UInt8) (next : Nat) (w : World) (hc : c ≠ 10) :
    Calls Tryz.prog 85 #[.pointer (some ⟨g, 0, none⟩), byteV c, .int .i64 (next : Int)] w fun e w' => e = .returned (.bool false) ∧ w' = w := by
  unfold byteV
  have hc1 := u8_ne hc
  rw [show ((10 : UInt8).toNat : Int) = 10 from rfl] at hc1
  have hc2 : ((c.toNat : Int) != 10) = true := by rw [bne, hc1]; rfl
  clear hc
  go_enter Tryz.func85, Tryz.ntmps85
  go_wp2
  go_ret
  exact ⟨rfl, rfl⟩
set_option maxRecDepth 20000 in
set_option maxHeartbeats 8000000 in
theorem end_yes_any {F : Nat → Prop} {w : World} {g : Nat} {s : PS} (h : RdAt F w g s) (next : Nat) (hst : s.st ≠ 9) :
    Calls Tryz.prog 85 #[.pointer (some ⟨g, 0, none⟩), .int .u8 10, .int .i64 (next : Int)] w fun e w' => e = .returned (.bool true) ∧ Turned F w g { s with st := next } w' := by
  obtain ⟨p, f, hr, hf⟩ := h
  have HR := hid hr
  have HF := hid hf
  have hb := hr.blk
  unfold rdCells at hb
  have HB := hid hb
  obtain ⟨_, _, _, _, x4, _, _, _, _, _, _, _, _, _, xz⟩ := cells14 hb
  have xz4 := xz 4
  have h9 : ((s.st : Int) == 9) = false := by rw [beq_eq_false_iff_ne]; omega
  clear hr hf hb xz hst
  go_enter Tryz.func85, Tryz.ntmps85
  go_wp2
  go_ret
  refine ⟨rfl, F, ⟨p, f, ⟨?_, HR.out.part.at_set HB.out, HR.out.flds.at_set HB.out⟩, HF.out⟩, (Only.refl _ _).set HF.out.g _, fun _ h => .inl h⟩
  rw [set14_4 HB.out]
  unfold rdCells
  rfl
set_option maxRecDepth 20000 in
set_option maxHeartbeats 8000000 in
theorem end_yes9_any {F : Nat → Prop} {w : World} {g : Nat} {s : PS} (h : RdAt F w g s) (next : Nat) (hst : s.st = 9) (hfl : s.fields.length ≤ 65) :
    Calls Tryz.prog 85 #[.pointer (some ⟨g, 0, none⟩), .int .u8 10, .int .i64 (next : Int)] w fun e w' => e = .returned (.bool true) ∧ Turned F w g { s with fields := s.fields ++ [(s.fn, s.fv)], st := next } w' := by
  obtain ⟨p, f, hr, hf⟩ := h
  obtain ⟨fp, fl, fc, rfl⟩ := own_slice3 hr.flds
  have hfn := sliceF_len hr.flds
  have HFn := hid hfn
  have HR := hid hr
  have HF := hid hf
  have hb := hr.blk
  unfold rdCells at hb
  rw [hst] at hb
  have hl : fl ≤ 65 := by omega
  obtain ⟨N6, hN6⟩ : ∃ N6, str s.fn = N6 := ⟨_, rfl⟩
  obtain ⟨V6, hV6⟩ : ∃ V6, str s.fv = V6 := ⟨_, rfl⟩
  rw [hN6, hV6] at hb
  have HN6 := hid hN6
  have HV6 := hid hV6
  obtain ⟨_, _, _, _, x4, _, x6, x7, _, _, _, _, _, x13, _⟩ := cells14 hb
  have hE : RdE w.drew g (.string N6) (.string V6) (.slice fp fl fc) := ⟨x6, x7, x13⟩
  clear hr hf hb hst hfn hfl hN6 hV6 x6 x7 x13
  go_enter Tryz.func85, Tryz.ntmps85
  go_wp2
  refine wp_region_noPanic ?_
  refine any_begin 14 (by kernel_rfl) (by kernel_rfl) ?_
  refine late_begin (fun U => RdE U g (.string N6) (.string V6) (.slice fp fl fc)) (fun j => decide (11 ≤ j)) hE (fun hS => ?_)
  refine late_take (i := 0) (some 14) rfl rfl (by kernel_rfl) (by kernel_rfl) (by kernel_rfl) (by kernel_rfl) (by kernel_rfl) (fun _ _ _ h => h) (by rfl) (v := ?v0e) ?hy0e hS ?rest0e
  case hy0e => intro w0 hSw; obtain ⟨a6, a7, a13⟩ := hSw; go_simp; try with_reducible rfl
  simp only [Act.put, List.setIfInBounds_toArray, List.set_cons_zero, List.set_cons_succ]
  refine late_take (i := 1) (some 15) rfl rfl (by kernel_rfl) (by kernel_rfl) (by kernel_rfl) (by kernel_rfl) (by kernel_rfl) (fun _ _ _ h => h) (by rfl) (v := ?v1e) ?hy1e hS ?rest1e
  case hy1e => intro w0 hSw; obtain ⟨a6, a7, a13⟩ := hSw; go_simp; try with_reducible rfl
  simp only [Act.put, List.setIfInBounds_toArray, List.set_cons_zero, List.set_cons_succ]
  refine late_take (i := 2) (some 16) rfl rfl (by kernel_rfl) (by kernel_rfl) (by kernel_rfl) (by kernel_rfl) (by kernel_rfl) (fun _ _ _ h => h) (by rfl) (v := ?v2e) ?hy2e hS ?rest2e
  case hy2e => intro w0 hSw; obtain ⟨a6, a7, a13⟩ := hSw; go_simp; try with_reducible rfl
  simp only [Act.put, List.setIfInBounds_toArray, List.set_cons_zero, List.set_cons_succ]
  refine late_take (i := 3) (some 17) rfl rfl (by kernel_rfl) (by kernel_rfl) (by kernel_rfl) (by kernel_rfl) (by kernel_rfl) (fun _ _ _ h => h) (by rfl) (v := ?v3e) ?hy3e hS ?rest3e
  case hy3e => intro w0 hSw; obtain ⟨a6, a7, a13⟩ := hSw; go_simp; try with_reducible rfl
  simp only [Act.put, List.setIfInBounds_toArray, List.set_cons_zero, List.set_cons_succ]
  refine late_take (i := 4) (some 18) rfl rfl (by kernel_rfl) (by kernel_rfl) (by kernel_rfl) (by kernel_rfl) (by kernel_rfl) (fun _ _ _ h => h) (by rfl) (v := ?v4e) ?hy4e hS ?rest4e
  case hy4e => intro w0 hSw; obtain ⟨a6, a7, a13⟩ := hSw; go_simp; try with_reducible rfl
  simp only [Act.put, List.setIfInBounds_toArray, List.set_cons_zero, List.set_cons_succ]
  refine late_take (i := 5) (some 19) rfl rfl (by kernel_rfl) (by kernel_rfl) (by kernel_rfl) (by kernel_rfl) (by kernel_rfl) (fun _ _ _ h => h) (by rfl) (v := ?v5e) ?hy5e hS ?rest5e
  case hy5e => intro w0 hSw; obtain ⟨a6, a7, a13⟩ := hSw; go_simp; try with_reducible rfl
  simp only [Act.put, List.setIfInBounds_toArray, List.set_cons_zero, List.set_cons_succ]
  refine late_take (i := 6) (some 20) rfl rfl (by kernel_rfl) (by kernel_rfl) (by kernel_rfl) (by kernel_rfl) (by kernel_rfl) (fun _ _ _ h => h) (by rfl) (v := ?v6e) ?hy6e hS ?rest6e
  case hy6e => intro w0 hSw; obtain ⟨a6, a7, a13⟩ := hSw; go_simp; try with_reducible rfl
  simp only [Act.put, List.setIfInBounds_toArray, List.set_cons_zero, List.set_cons_succ]
  refine late_take (i := 7) (some 21) rfl rfl (by kernel_rfl) (by kernel_rfl) (by kernel_rfl) (by kernel_rfl) (by kernel_rfl) (fun _ _ _ h => h) (by rfl) (v := ?v7e) ?hy7e hS ?rest7e
  case hy7e => intro w0 hSw; obtain ⟨a6, a7, a13⟩ := hSw; go_simp; try with_reducible rfl
  simp only [Act.put, List.setIfInBounds_toArray, List.set_cons_zero, List.set_cons_succ]
  refine late_take (i := 8) (some 22) rfl rfl (by kernel_rfl) (by kernel_rfl) (by kernel_rfl) (by kernel_rfl) (by kernel_rfl) (fun _ _ _ h => h) (by rfl) (v := ?v8e) ?hy8e hS ?rest8e
  case hy8e => intro w0 hSw; obtain ⟨a6, a7, a13⟩ := hSw; go_simp; try with_reducible rfl
  simp only [Act.put, List.setIfInBounds_toArray, List.set_cons_zero, List.set_cons_succ]
  refine wpAnyD_one (i := 9) (by kernel_rfl) rfl (fun K hK => ?_)
  go_simp
  refine hK _ _ ⟨fun _ => hS.below (below_new _ _), ?_⟩
  clear hK K hS
  obtain ⟨V, hV⟩ : ∃ V, V = (w.alloc (.cells #[.string N6, .string V6] 79 (0, 0))).drew := ⟨_, rfl⟩
  try rw [← hV]
  have HV := hid (show Below w.heap.size w V ∧ V.heap[w.heap.size]? = some (.cells #[.string N6, .string V6] 79 (0, 0)) ∧ V.heap.size = w.heap.size + 1 from by rw [hV]; exact ⟨((Below.refl _ _).alloc (Nat.le_refl _) _).drew, heap_alloc_new w _, by simp⟩)
  clear hV
  have HRV := hid (HR.out.next HV.out.1)
  refine wpAnyD_one (i := 10) (by kernel_rfl) rfl (fun K hK => ?_)
  rw [if_pos (by rfl)]
  obtain ⟨i0, hi0, hz0, hz1, hz2⟩ := info_parts infoF
  refine wp_append_own_at (.tmp 18) (.tmp 23) 22 rfl 0 79 i0 _ 2 32 Tryz.underlying22 hi0 hz0 hz1 hz2 rfl (by decide) (.slice fp fl fc) fl (fldC s.fields) (by go_simp) (by have := HRV.out.flds; unfold OwnF at this; rw [HFn.out] at this; exact this) ⟨w.heap.size, 0, none⟩ 1 1 [.string N6, .string V6] (by go_simp) rfl (two_cells HV.out.2.1) (by simp [Value.oneCell']) (by unfold maxLen; omega) (by omega) (Nat.zero_le _) ?_
  intro v' U hown hgr hloc
  have HG := hid hgr
  have HK := hid hloc
  have HO := hid (show OwnF U 0 v' (s.fields ++ [(s.fn, s.fv)]) from OwnF.put (f := (s.fn, s.fv)) (by rw [HFn.out]; dsimp only; rw [HN6.out, HV6.out]; exact hown))
  obtain ⟨p7, c7, rfl⟩ := own_slice hown
  have HRg := hid (HRV.out.grownF hgr)
  have hb1 := HRg.out.1
  unfold rdCells at hb1
  have HB1 := hid hb1
  obtain ⟨_, _, _, _, y4, _, y6, y7, _, _, _, _, _, y13, yz⟩ := cells14 hb1
  have yz13 := yz 13
  have yz4 := yz 4
  clear hown hgr hloc hb1 yz
  show K (Act.put _ (some 24) _) _
  refine hK _ _ ⟨fun _ => ⟨by rw [← HN6.out]; exact y6, by rw [← HV6.out]; exact y7, y13⟩, ?_⟩
  clear hK K hE y6 y7
  simp only [Act.put, List.setIfInBounds_toArray, List.set_cons_zero, List.set_cons_succ]
  refine late_over (by kernel_rfl) ?_
  refine any_take (i := 11) (some 25) rfl rfl (by kernel_rfl) (by kernel_rfl) (by kernel_rfl) (fun _ _ _ h => h) (by rfl) (v := ?v11e) ?hy11e ?rest11e
  case hy11e => intro w0; go_simp; try with_reducible rfl
  simp only [Act.put, List.setIfInBounds_toArray, List.set_cons_zero, List.set_cons_succ]
  refine any_take (i := 12) (some 26) rfl rfl (by kernel_rfl) (by kernel_rfl) (by kernel_rfl) (fun _ _ _ h => h) (by rfl) (v := ?v12e) ?hy12e ?rest12e
  case hy12e => intro w0; go_simp; try with_reducible rfl
  simp only [Act.put, List.setIfInBounds_toArray, List.set_cons_zero, List.set_cons_succ]
  refine any_one (i := 13) (by kernel_rfl) rfl (fun K hK => ?_)
  go_simp
  refine hK _ _ ?_
  clear hK K
  refine any_done (by kernel_rfl) ?_ _
  refine NoPanic.normal ?_
  go_wp2
  go_ret
  have hog := Only.grown (F := F) HG.out (fun k e => HF.out.f k e)
  have hal : Only F w V := Only.of_below HV.out.1
  have HB2 := hid (set14_13 HB1.out (.slice p7 (fl + 1) c7))
  refine ⟨rfl, fun k => F k ∨ k = w.heap.size + 1, ⟨p, .slice p7 (fl + 1) c7, ⟨?_, (HRg.out.2.at_set HB1.out).at_set HB2.out, (HO.out.at_set HB1.out).at_set HB2.out⟩, .inl HF.out.g, fun k e => .inl (HF.out.p k e), fun k e => ?_⟩, ((hal.trans hog (fun _ h => .inl h)).set HF.out.g _).set HF.out.g _, fun k h => ?_⟩
  · rw [set14_4 HB2.out]
    unfold rdCells
    rfl
  · rcases HK.out with e2 | e2
    · exact .inl (HF.out.f k (by rw [← e2]; exact e))
    · right
      rw [e2, HV.out.2.2] at e
      exact (Option.some.inj e).symm
  · rcases h with h | h
    · exact .inl h
    · right; omega
theorem lineEnd_any {F : Nat → Prop} {w : World} {g : Nat} {s : PS} (h : RdAt F w g s) (c : UInt8) (next : Nat) (hfl : s.fields.length ≤ 65) :
    Calls Tryz.prog 85 #[.pointer (some ⟨g, 0, none⟩), byteV c, .int .i64 (next : Int)] w (Stepped F w g (endP s c next)) := by
  by_cases hc : c = 10
  · subst hc
    by_cases h9 : s.st = 9
    · refine (end_yes9_any h next h9 hfl).mono ?_
      rintro e w' ⟨h1, h2⟩
      exact .inl ⟨_, end_yes9 rfl h9, h1, h2⟩
    · refine (end_yes_any h next h9).mono ?_
      rintro e w' ⟨h1, h2⟩
      exact .inl ⟨_, end_yes rfl h9, h1, h2⟩
  · refine (end_no_any g c next w hc).mono ?_
    rintro e w' ⟨h1, h2⟩
    exact .inr ⟨end_no hc, h1, h2⟩
end Go.Proofs.YthakldcfpndabaaGreatDoor
