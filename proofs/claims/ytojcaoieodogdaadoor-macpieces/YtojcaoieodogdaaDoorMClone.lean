/- Clone of a code under way, and the calls of a code that there is not. -/
import Derived.Test.YtojcaoieodogdaaDoorMMac
import Derived.Test.YtojcaoieodogdaaDoorOrder
namespace Go.Proofs.YtojcaoieodogdaaDoor
open Go.RowKit

/-- What Clone reads. -/
def RdM (W : World) (g h : Nat) (kb : List Int) : Prop := (Instr.loadAt 59 (.pointer (some ⟨g, 0, none⟩))).run Tryd.prog W = .ok (.agg (bsv kb)) W ∧ W.cell? ⟨g, 64, none⟩ = some (.pointer (some ⟨h, 0, none⟩))
theorem MacAt.rd {w : World} {g h : Nat} {kb m : List Int} (H : MacAt w g h kb m) : RdM w g h kb := ⟨H.row.load_key, H.row.inner⟩
theorem MacAt.drew {w : World} {g h : Nat} {kb m : List Int} (H : MacAt w g h kb m) : MacAt w.drew g h kb m := H.below ((Below.refl _ _).drew)
theorem build_mac (kb : List Int) (hl : kb.length = 64) (v : Value) : (mcells kb (.pointer none)).setIfInBounds 64 v = mcells kb v := by
  unfold mcells
  simp only [List.setIfInBounds_toArray]
  rw [List.set_append_right _ _ (by simp [hl])]
  simp [hl]
set_option maxRecDepth 20000 in
set_option maxHeartbeats 2000000 in
theorem mclone_any {w : World} {g h : Nat} {kb m : List Int} (H : MacAt w g h kb m) :
    Calls Tryd.prog 34 #[.pointer (some ⟨g, 0, none⟩)] w fun e w' => ∃ g2 h2, e = .returned (.pointer (some ⟨g2, 0, none⟩)) ∧ w.heap.size ≤ g2 ∧ w.heap.size ≤ h2 ∧ MacAt w' g2 h2 kb m ∧ Below w.heap.size w w' := by
  have HH := hid H.drew
  have hsz : (bsv kb).size = 64 := by rw [bsv_size, H.row.len]
  have HL := hid H.row.len
  clear H
  go_enter Tryd.func34, Tryd.ntmps34
  go_wp2_with fail
  refine wp_region_noPanic ?_
  refine any_begin 12 (by kernel_rfl) (by kernel_rfl) ?_
  refine late_begin (fun W => RdM W g h kb) (fun _ => false) HH.out.rd (fun hS => ?_)
  refine late_take (i := 0) (some 5) rfl rfl (by kernel_rfl) (by kernel_rfl) (by kernel_rfl) (by kernel_rfl) (by kernel_rfl) (fun _ _ _ h => h) (by rfl) (v := ?v0c) ?hy0c hS ?rest0c
  case hy0c => intro w0 hSw; obtain ⟨z0, z1⟩ := hSw; go_simp; try with_reducible rfl
  simp only [Act.put, List.setIfInBounds_toArray, List.set_cons_zero, List.set_cons_succ]
  refine late_take (i := 1) (some 6) rfl rfl (by kernel_rfl) (by kernel_rfl) (by kernel_rfl) (by kernel_rfl) (by kernel_rfl) (fun _ _ _ h => h) (by rfl) (v := ?v1c) ?hy1c hS ?rest1c
  case hy1c => intro w0 hSw; obtain ⟨z0, z1⟩ := hSw; go_simp; try with_reducible rfl
  simp only [Act.put, List.setIfInBounds_toArray, List.set_cons_zero, List.set_cons_succ]
  refine late_take (i := 2) (some 7) rfl rfl (by kernel_rfl) (by kernel_rfl) (by kernel_rfl) (by kernel_rfl) (by kernel_rfl) (fun _ _ _ h => h) (by rfl) (v := ?v2c) ?hy2c hS ?rest2c
  case hy2c => intro w0 hSw; obtain ⟨z0, z1⟩ := hSw; go_simp; try with_reducible rfl
  simp only [Act.put, List.setIfInBounds_toArray, List.set_cons_zero, List.set_cons_succ]
  refine late_take (i := 3) (some 8) rfl rfl (by kernel_rfl) (by kernel_rfl) (by kernel_rfl) (by kernel_rfl) (by kernel_rfl) (fun _ _ _ h => h) (by rfl) (v := .agg (bsv kb)) ?hy3c hS ?rest3c
  case hy3c => intro w0 hSw; exact load_yields hSw.1 rfl rfl
  simp only [Act.put, List.setIfInBounds_toArray, List.set_cons_zero, List.set_cons_succ]
  refine late_take (i := 4) (some 9) rfl rfl (by kernel_rfl) (by kernel_rfl) (by kernel_rfl) (by kernel_rfl) (by kernel_rfl) (fun _ _ _ h => h) (by rfl) (v := ?v4c) ?hy4c hS ?rest4c
  case hy4c => intro w0 hSw; obtain ⟨z0, z1⟩ := hSw; go_simp; try with_reducible rfl
  simp only [Act.put, List.setIfInBounds_toArray, List.set_cons_zero, List.set_cons_succ]
  refine late_take (i := 5) (some 10) rfl rfl (by kernel_rfl) (by kernel_rfl) (by kernel_rfl) (by kernel_rfl) (by kernel_rfl) (fun _ _ _ h => h) (by rfl) (v := ?v5c) ?hy5c hS ?rest5c
  case hy5c => intro w0 hSw; obtain ⟨z0, z1⟩ := hSw; go_simp; try with_reducible rfl
  simp only [Act.put, List.setIfInBounds_toArray, List.set_cons_zero, List.set_cons_succ]
  refine late_take (i := 6) (some 11) rfl rfl (by kernel_rfl) (by kernel_rfl) (by kernel_rfl) (by kernel_rfl) (by kernel_rfl) (fun _ _ _ h => h) (by rfl) (v := ?v6c) ?hy6c hS ?rest6c
  case hy6c => intro w0 hSw; obtain ⟨z0, z1⟩ := hSw; go_simp; try with_reducible rfl
  simp only [Act.put, List.setIfInBounds_toArray, List.set_cons_zero, List.set_cons_succ]
  refine late_take (i := 7) (some 12) rfl rfl (by kernel_rfl) (by kernel_rfl) (by kernel_rfl) (by kernel_rfl) (by kernel_rfl) (fun _ _ _ h => h) (by rfl) (v := ?v7c) ?hy7c hS ?rest7c
  case hy7c => intro w0 hSw; obtain ⟨z0, z1⟩ := hSw; go_simp; try with_reducible rfl
  simp only [Act.put, List.setIfInBounds_toArray, List.set_cons_zero, List.set_cons_succ]
  refine wpAnyD_one (i := 8) (by kernel_rfl) rfl (fun K hK => ?_)
  go_simp
  go_at_call 49
  refine (hclone_any HH.out.hash).mono ?_
  rintro e w1 ⟨h2, rfl, hh2, hH2, hb⟩
  have N1 : Hid (w.heap.size ≤ h2 ∧ HoldsH w1 h2 (xorB 54 kb ++ m) ∧ Below w.heap.size w w1 ∧ MacAt w1 g h kb m) := ⟨hh2, hH2, ((Below.refl _ _).drew).trans hb, HH.out.below hb⟩
  clear hh2 hH2 hb HH
  refine hK _ _ ⟨fun _ => N1.out.2.2.2.rd, ?_⟩
  clear hK K
  replace hS := N1.out.2.2.2.rd
  refine late_take (i := 9) (some 14) rfl rfl (by kernel_rfl) (by kernel_rfl) (by kernel_rfl) (by kernel_rfl) (by kernel_rfl) (fun _ _ _ h => h) (by rfl) (v := .agg (mcells kb (.pointer (some ⟨h2, 0, none⟩)))) ?hy9c hS ?rest9c
  case hy9c =>
    intro w0 hSw
    go_simp
    rw [build_key64 kb HL.out, if_neg (by rw [mcells_size HL.out]; omega), build_mac kb HL.out]
    rfl
  simp only [Act.put, List.setIfInBounds_toArray, List.set_cons_zero, List.set_cons_succ]
  refine wpAnyD_one (i := 10) (by kernel_rfl) rfl (fun K hK => ?_)
  go_simp
  have HQ : ∀ ob, RdM (w1.alloc ob) g h kb := fun ob => (N1.out.2.2.2.below (below_new w1 ob)).rd
  refine hK _ _ ⟨fun _ => HQ _, ?_⟩
  clear hK K
  replace hS := HQ (.cells (mcells kb (.pointer (some ⟨h2, 0, none⟩))) 70)
  refine late_take (i := 11) (some 2) rfl rfl (by kernel_rfl) (by kernel_rfl) (by kernel_rfl) (by kernel_rfl) (by kernel_rfl) (fun _ _ _ h => h) (by rfl) (v := ?v11c) ?hy11c hS ?rest11c
  case hy11c => intro w0 hSw; obtain ⟨z0, z1⟩ := hSw; go_simp; try with_reducible rfl
  simp only [Act.put, List.setIfInBounds_toArray, List.set_cons_zero, List.set_cons_succ]
  refine late_done (by kernel_rfl) ?_ _
  refine NoPanic.normal ?_
  go_wp2
  go_ret
  have h1 := N1.out.1
  have h2' := N1.out.2.1.lt
  have hz := N1.out.2.2.1.size
  exact ⟨_, h2, rfl, hz, h1, ⟨⟨row_new _ _ _, HL.out⟩, N1.out.2.1.below (below_new _ _), Nat.ne_of_gt h2'⟩, N1.out.2.2.1.alloc hz _⟩
theorem mwrite_none (v : Value) (w : World) : Calls Tryd.prog 32 #[.pointer none, v] w fun e w' => e = .returned (.tuple #[]) ∧ w' = w := by
  go_enter Tryd.func32, Tryd.ntmps32
  go_wp2
  exact bodyPost_ret (results_none rfl _ _ _) rfl ⟨rfl, rfl⟩
theorem mreset_none (w : World) : Calls Tryd.prog 35 #[.pointer none] w fun e w' => e = .returned (.tuple #[]) ∧ w' = w := by
  go_enter Tryd.func35, Tryd.ntmps35
  go_wp2
  exact bodyPost_ret (results_none rfl _ _ _) rfl ⟨rfl, rfl⟩
theorem mclone_none (w : World) : Calls Tryd.prog 34 #[.pointer none] w fun e w' => e = .returned (.pointer none) ∧ w' = w := by
  go_enter Tryd.func34, Tryd.ntmps34
  go_wp2
  go_ret
  exact ⟨rfl, rfl⟩
set_option maxRecDepth 20000 in
theorem msum_none (w : World) : Calls Tryd.prog 33 #[.pointer none] w fun e w' => e = .returned (.agg (bsv (List.replicate 32 0))) ∧ Below w.heap.size w w' := by
  go_enter Tryd.func33, Tryd.ntmps33
  go_wp2_with (refine wpList_store_row rfl 24 _ _ rfl _ (bsv (List.replicate 32 0)) rfl rfl 24 (bsv (List.replicate 32 0)) (row_new _ _ _) (by rw [size24, bsv_size]; simp) (by rw [bsv_size]) (bsv_one _) ?_)
  refine bodyPost_ret (results_cell_row rfl _ _ _ 24 (bsv (List.replicate 32 0)) _ _ rfl (RowAt.setRow (row_new _ _ _) _) und24 rfl (by rw [size24, bsv_size]; simp)) rfl ?_
  exact ⟨rfl, below_setRow (below_new _ _) (Nat.le_refl _) _⟩
end Go.Proofs.YtojcaoieodogdaaDoor
