/- An act, done to a ring and to the document's: Read. -/
import Derived.Test.YtfiiiefhchbhlaaDo
namespace Go.Proofs.Ytfiiiefhchbhlaa
open Go.RowKit

theorem late_more {P : Program} {md : Region.Mode} {ops : Array Oper} {Q : Exit → Act → World → Prop} {S S2 : World → Prop} {D : Nat → Bool} {fuel : Nat} {listed : Array Bool} {a : Act} {w : World} (h : ∀ W, S2 W → S W) (hS : S2 w) (k : S2 w → wpAnyD P md ops Q S2 D fuel listed a w) : wpAnyD P md ops Q S D fuel listed a w := by
  have key : ∀ (fuel : Nat) (listed : Array Bool) (a : Act) (w : World), wpAnyD P md ops Q S2 D fuel listed a w → wpAnyD P md ops Q S D fuel listed a w := by
    intro fuel
    induction fuel with
    | zero => intro listed a w hk; exact hk
    | succ fuel ih => intro listed a w hk; exact ⟨hk.1, fun i hi => wpOp_mono (fun a' w' h' => ⟨fun hd => h w' (h'.1 hd), ih _ a' w' h'.2⟩) (hk.2 i hi)⟩
  exact key _ _ _ _ (k hS)
set_option maxRecDepth 20000 in
set_option maxHeartbeats 4000000 in
theorem do_read (r g S N c : Nat) (pv pb : Option Addr) (nb cb : Nat) (kind n : Int) (q : List Int) (w : World) (h : Holds w r g S q) (hN : q.length = N) (hq : QAt r g w (.slice pv N c) q) (hk : (kind.tmod 6 + 6) % 6 = 2) :
    Calls Try.prog 10 #[.pointer (some ⟨r, 0, none⟩), .agg #[.int .i64 S, .slice pv N c], .agg #[.int .i64 kind, .int .i64 n, .slice pb nb cb]] w fun e w' => ∃ v' q', e = .returned (.tuple #[.agg #[.int .i64 S, v'], .bool true]) ∧ DoP r g S w w' v' q' := by
  obtain ⟨h1, h2⟩ := rem6 kind
  have HN := hid hN
  have HR : Hid (r < w.heap.size ∧ g < w.heap.size) := ⟨h.rlt, h.glt⟩
  have hS1 := h.most
  have hS2 := h.le
  rw [hN] at hS2
  have HH : Hid (Holds (boxed w S (.slice pv N c) kind n (.slice pb nb cb)) r g S q ∧ QAt r g (boxed w S (.slice pv N c) kind n (.slice pb nb cb)) (.slice pv N c) q) := ⟨h.below (boxed_below ..), hq.below (boxed_below ..)⟩
  clear h hq hN
  go_enter Try.func10, Try.ntmps10
  go_wp2_with (first
    | (go_at_call 23; refine (refRead_any r g S n _ HH.out.2 (by rw [HN.out]; omega) ⟨HH.out.1.rlt, HH.out.1.glt⟩).mono ?_; rintro e w5 ⟨v5, vo5, rfl, h5⟩; obtain ⟨p5, n5, c5, rfl, H5⟩ := h5.rest.arg.slice3; obtain ⟨po, no, co, rfl, HO⟩ := h5.out.arg.slice3; have HB5 : Hid (ReadP r g (boxed w S (.slice pv N c) kind n (.slice pb nb cb)) w5 (.slice p5 n5 c5) (.slice po no co) q (held n q.length)) := h5; clear h5))
  have HB6 : Hid (Below w5.heap.size w5 (w5.alloc (.cells #[.int .i64 S, .slice p5 n5 c5] 30)).drew) := ⟨rfl, rfl, rfl, by simp, fun k hk => Below.heap_alloc _ _ _ hk⟩
  have HT6 : Hid (Turn r g (boxed w S (.slice pv N c) kind n (.slice pb nb cb)) (w5.alloc (.cells #[.int .i64 S, .slice p5 n5 c5] 30)).drew) := (Turn.of_below HB5.out.below).trans (Turn.of_below HB6.out)
  have HQ6 : Hid (QAt r g (w5.alloc (.cells #[.int .i64 S, .slice p5 n5 c5] 30)).drew (.slice p5 n5 c5) (q.drop (held n q.length))) := HB5.out.rest.below HB6.out
  have HH6 : Hid (Holds (w5.alloc (.cells #[.int .i64 S, .slice p5 n5 c5] 30)).drew r g S q) := (HH.out.1.below HB5.out.below).below HB6.out
  have hy : r ≠ w5.heap.size ∧ g ≠ w5.heap.size ∧ w5.heap.size ≠ w.heap.size + 1 + 1 := by
    have h3 := HB5.out.below.size
    have := boxed_size w S (.slice pv N c) kind n (.slice pb nb cb)
    have := HR.out
    omega
  have HY := hid hy
  have y0 : (w5.alloc (.cells #[.int .i64 S, .slice p5 n5 c5] 30)).drew.cell? ⟨w5.heap.size, 0, none⟩ = some (.int .i64 S) := by
    have e := heap_new w5 (.cells #[.int .i64 S, .slice p5 n5 c5] 30)
    show (w5.alloc (.cells #[.int .i64 S, .slice p5 n5 c5] 30)).cell? _ = _
    simp only [World.cell?, e]; rfl
  have y1 : (w5.alloc (.cells #[.int .i64 S, .slice p5 n5 c5] 30)).drew.cell? ⟨w5.heap.size, 1, none⟩ = some (.slice p5 n5 c5) := by
    have e := heap_new w5 (.cells #[.int .i64 S, .slice p5 n5 c5] 30)
    show (w5.alloc (.cells #[.int .i64 S, .slice p5 n5 c5] 30)).cell? _ = _
    simp only [World.cell?, e]; rfl
  have HY0 := hid y0
  have HY1 := hid y1
  obtain ⟨⟨c06, c16⟩, ⟨a06, a16, a26⟩, d06, d16, f06, f16⟩ := do_cells HR.out.1 HR.out.2 HT6.out
  clear c06 c16 a06 a26 d06 d16 f06 f16 hy
  obtain ⟨T, HTT⟩ : ∃ T, Hid (strOfNums (q.take (held n q.length)) = T) := ⟨_, rfl⟩
  have HO6 : Hid (QAt r g (w5.alloc (.cells #[.int .i64 S, .slice p5 n5 c5] 30)).drew (.slice po no co) (q.take (held n q.length))) := HB5.out.out.below HB6.out
  have v1 : (convert 28 9 (.slice po no co)).run Try.prog (w5.alloc (.cells #[.int .i64 S, .slice p5 n5 c5] 30)).drew = .ok (.string T) (w5.alloc (.cells #[.int .i64 S, .slice p5 n5 c5] 30)).drew := by rw [← HTT.out]; exact HO6.out.arg.conv
  refine wp_region_noPanic ?_
  refine any_begin 11 (by kernel_rfl) (by kernel_rfl) ?_
  refine late_begin (fun W => W.cell? ⟨w5.heap.size, 0, none⟩ = some (.int .i64 S) ∧ W.cell? ⟨w5.heap.size, 1, none⟩ = some (.slice p5 n5 c5) ∧ W.cell? ⟨w.heap.size + 1, 1, none⟩ = some (.int .i64 n) ∧ (convert 28 9 (.slice po no co)).run Try.prog W = .ok (.string T) W) (fun _ => false) ⟨y0, y1, a16, v1⟩ (fun hS => ?_)
  refine late_take (i := 1) (some 63) rfl rfl (by kernel_rfl) (by kernel_rfl) (by kernel_rfl) (by kernel_rfl) (by kernel_rfl) (fun _ _ _ h => h) (by rfl) (v := ?v1) ?hy1 hS ?rest1
  case hy1 => intro w0 hSw; (try dsimp only at hSw); go_simp; try with_reducible rfl
  simp only [Act.put, List.setIfInBounds_toArray, List.set_cons_zero, List.set_cons_succ]
  refine late_take (i := 2) (some 64) rfl rfl (by kernel_rfl) (by kernel_rfl) (by kernel_rfl) (by kernel_rfl) (by kernel_rfl) (fun _ _ _ h => h) (by rfl) (v := ?v2) ?hy2 hS ?rest2
  case hy2 => intro w0 hSw; (try dsimp only at hSw); go_simp; try with_reducible rfl
  simp only [Act.put, List.setIfInBounds_toArray, List.set_cons_zero, List.set_cons_succ]
  refine late_take (i := 6) (some 68) rfl rfl (by kernel_rfl) (by kernel_rfl) (by kernel_rfl) (by kernel_rfl) (by kernel_rfl) (fun _ _ _ h => h) (by rfl) (v := ?v6) ?hy6 hS ?rest6
  case hy6 => intro w0 hSw; (try dsimp only at hSw); go_simp; try with_reducible rfl
  simp only [Act.put, List.setIfInBounds_toArray, List.set_cons_zero, List.set_cons_succ]
  refine late_take (i := 0) (some 62) rfl rfl (by kernel_rfl) (by kernel_rfl) (by kernel_rfl) (by kernel_rfl) (by kernel_rfl) (fun _ _ _ h => h) (by rfl) (v := ?v0) ?hy0 hS ?rest0
  case hy0 => intro w0 hSw; (try dsimp only at hSw); go_simp; try with_reducible rfl
  simp only [Act.put, List.setIfInBounds_toArray, List.set_cons_zero, List.set_cons_succ]
  refine late_take (i := 3) (some 65) rfl rfl (by kernel_rfl) (by kernel_rfl) (by kernel_rfl) (by kernel_rfl) (by kernel_rfl) (fun _ _ _ h => h) (by rfl) (v := ?v3) ?hy3 hS ?rest3
  case hy3 => intro w0 hSw; (try dsimp only at hSw); go_simp; try with_reducible rfl
  simp only [Act.put, List.setIfInBounds_toArray, List.set_cons_zero, List.set_cons_succ]
  refine late_take (i := 7) (some 69) rfl rfl (by kernel_rfl) (by kernel_rfl) (by kernel_rfl) (by kernel_rfl) (by kernel_rfl) (fun _ _ _ h => h) (by rfl) (v := ?v7) ?hy7 hS ?rest7
  case hy7 => intro w0 hSw; (try dsimp only at hSw); go_simp; try with_reducible rfl
  simp only [Act.put, List.setIfInBounds_toArray, List.set_cons_zero, List.set_cons_succ]
  refine wpAnyD_one (i := 4) (o := { dst := some 66, op := Op.call { callee := Callee.value (Operand.func 18), args := #[Operand.tmp 63, Operand.tmp 65], argTypes := #[23, 3] }, type := 28, pos := "law.go:58", after := #[{ on := 1, ground := Ground.data }, { on := 3, ground := Ground.data }], guard := none }) (by kernel_rfl) rfl (fun K hK => ?_)
  go_simp
  go_at_call 18
  refine (hread_any HH6.out n).mono ?_
  rintro e w7 ⟨v7, rfl, hv7, ht7, hh7⟩
  have HT7 := hid (HT6.out.trans ht7)
  have y07 := ht7.cell HY.out.1.symm HY.out.2.1.symm HY0.out
  have y17 := ht7.cell HY.out.1.symm HY.out.2.1.symm HY1.out
  obtain ⟨⟨c07, c17⟩, ⟨a07, a17, a27⟩, d07, d17, f07, f17⟩ := do_cells HR.out.1 HR.out.2 HT7.out
  have v17 : (convert 28 9 (.slice po no co)).run Try.prog w7 = .ok (.string T) w7 := (by rw [← HTT.out]; exact (HO6.out.turn ht7).arg.conv)
  have hcv := conv_bytes hv7
  rw [HTT.out] at hcv
  have hE8 : ∀ A B, ((w7.setCell ⟨w.heap.size + 1 + 1, 0, none⟩ A).setCell ⟨w.heap.size + 1 + 1, 1, none⟩ B).cell? ⟨w5.heap.size, 0, none⟩ = some (.int .i64 S) ∧ ((w7.setCell ⟨w.heap.size + 1 + 1, 0, none⟩ A).setCell ⟨w.heap.size + 1 + 1, 1, none⟩ B).cell? ⟨w5.heap.size, 1, none⟩ = some (.slice p5 n5 c5) ∧ ((w7.setCell ⟨w.heap.size + 1 + 1, 0, none⟩ A).setCell ⟨w.heap.size + 1 + 1, 1, none⟩ B).cell? ⟨w.heap.size + 1, 1, none⟩ = some (.int .i64 n) ∧ (convert 28 9 (.slice po no co)).run Try.prog ((w7.setCell ⟨w.heap.size + 1 + 1, 0, none⟩ A).setCell ⟨w.heap.size + 1 + 1, 1, none⟩ B) = .ok (.string T) ((w7.setCell ⟨w.heap.size + 1 + 1, 0, none⟩ A).setCell ⟨w.heap.size + 1 + 1, 1, none⟩ B) := (fun A B => ⟨do_cell HY.out.2.2 y07 A B, do_cell HY.out.2.2 y17 A B, do_cell (by omega) a17 A B, by rw [← HTT.out]; exact (do_qat HR.out.1 HR.out.2 HT7.out (HO6.out.turn ht7) A B).arg.conv⟩)
  have HQ7 := hid (HQ6.out.turn ht7)
  have HH7 := hid hh7
  refine hK _ _ ⟨fun _ => ⟨y07, y17, a17, v17⟩, ?_⟩
  replace hS : w7.cell? ⟨w5.heap.size, 0, none⟩ = some (.int .i64 S) ∧ w7.cell? ⟨w5.heap.size, 1, none⟩ = some (.slice p5 n5 c5) ∧ w7.cell? ⟨w.heap.size + 1, 1, none⟩ = some (.int .i64 n) ∧ (convert 28 9 (.slice po no co)).run Try.prog w7 = .ok (.string T) w7 := ⟨y07, y17, a17, v17⟩
  have HV7 := hid hv7
  clear hK K ht7 hh7 hv7 c07 c17 a07 a27
  refine late_more (S2 := fun W => (W.cell? ⟨w5.heap.size, 0, none⟩ = some (.int .i64 S) ∧ W.cell? ⟨w5.heap.size, 1, none⟩ = some (.slice p5 n5 c5) ∧ W.cell? ⟨w.heap.size + 1, 1, none⟩ = some (.int .i64 n) ∧ (convert 28 9 (.slice po no co)).run Try.prog W = .ok (.string T) W) ∧ (convert 28 9 v7).run Try.prog W = .ok (.string T) W) (fun W h => h.1) ⟨hS, hcv⟩ (fun hS2 => ?_)
  have hE9 : ∀ A B, (((w7.setCell ⟨w.heap.size + 1 + 1, 0, none⟩ A).setCell ⟨w.heap.size + 1 + 1, 1, none⟩ B).cell? ⟨w5.heap.size, 0, none⟩ = some (.int .i64 S) ∧ ((w7.setCell ⟨w.heap.size + 1 + 1, 0, none⟩ A).setCell ⟨w.heap.size + 1 + 1, 1, none⟩ B).cell? ⟨w5.heap.size, 1, none⟩ = some (.slice p5 n5 c5) ∧ ((w7.setCell ⟨w.heap.size + 1 + 1, 0, none⟩ A).setCell ⟨w.heap.size + 1 + 1, 1, none⟩ B).cell? ⟨w.heap.size + 1, 1, none⟩ = some (.int .i64 n) ∧ (convert 28 9 (.slice po no co)).run Try.prog ((w7.setCell ⟨w.heap.size + 1 + 1, 0, none⟩ A).setCell ⟨w.heap.size + 1 + 1, 1, none⟩ B) = .ok (.string T) ((w7.setCell ⟨w.heap.size + 1 + 1, 0, none⟩ A).setCell ⟨w.heap.size + 1 + 1, 1, none⟩ B)) ∧ (convert 28 9 v7).run Try.prog ((w7.setCell ⟨w.heap.size + 1 + 1, 0, none⟩ A).setCell ⟨w.heap.size + 1 + 1, 1, none⟩ B) = .ok (.string T) ((w7.setCell ⟨w.heap.size + 1 + 1, 0, none⟩ A).setCell ⟨w.heap.size + 1 + 1, 1, none⟩ B) := fun A B => ⟨hE8 A B, by rw [← HTT.out]; exact conv_bytes (HV7.out.of_heap fun i hi _ => do_heap w w7 A B i (by have := HB5.out.below.size; have := boxed_size w S (.slice pv N c) kind n (.slice pb nb cb); have hi2 : w5.heap.size + 1 ≤ i := (by simpa using hi); omega))⟩
  clear hS
  refine late_take (i := 5) (some 67) rfl rfl (by kernel_rfl) (by kernel_rfl) (by kernel_rfl) (by kernel_rfl) (by kernel_rfl) (fun _ _ _ h => h) (by rfl) (v := ?v5) ?hy5 hS2 ?rest5
  case hy5 => intro w0 hSw; (try dsimp only at hSw); go_simp; try with_reducible rfl
  simp only [Act.put, List.setIfInBounds_toArray, List.set_cons_zero, List.set_cons_succ]
  refine late_take (i := 8) (some 70) rfl rfl (by kernel_rfl) (by kernel_rfl) (by kernel_rfl) (by kernel_rfl) (by kernel_rfl) (fun _ _ _ h => h) (by rfl) (v := ?v8) ?hy8 hS2 ?rest8
  case hy8 => intro w0 hSw; (try dsimp only at hSw); go_simp; try with_reducible rfl
  simp only [Act.put, List.setIfInBounds_toArray, List.set_cons_zero, List.set_cons_succ]
  refine wpAnyD_one (i := 9) (o := { dst := none, op := Op.store 30 (Operand.tmp 6) (Operand.tmp 62), type := 0, pos := "law.go:58", after := #[{ on := 0, ground := Ground.data }, { on := 4, ground := Ground.chain }, { on := 0, ground := Ground.phase }, { on := 1, ground := Ground.textOnly Departure.lateStores }, { on := 2, ground := Ground.textOnly Departure.lateStores }, { on := 3, ground := Ground.textOnly Departure.lateStores }, { on := 4, ground := Ground.textOnly Departure.lateStoresUnsure }, { on := 5, ground := Ground.textOnly Departure.lateStores }, { on := 6, ground := Ground.textOnly Departure.lateStores }, { on := 7, ground := Ground.textOnly Departure.lateStores }, { on := 8, ground := Ground.textOnly Departure.lateStores }], guard := none }) (by kernel_rfl) rfl (fun K hK => ?_)
  go_simp
  refine hK _ _ ⟨fun _ => hE9 _ _, ?_⟩
  have hS8 := hE9 (.int .i64 S) (.slice p5 n5 c5)
  clear hK K hS2
  refine late_take (i := 10) (some 7) rfl rfl (by kernel_rfl) (by kernel_rfl) (by kernel_rfl) (by kernel_rfl) (by kernel_rfl) (fun _ _ _ h => h) (by rfl) (v := ?v10) ?hy10 hS8 ?rest10
  case hy10 => intro w0 hSw; (try dsimp only at hSw); go_simp; try with_reducible rfl
  simp only [Act.put, List.setIfInBounds_toArray, List.set_cons_zero, List.set_cons_succ]
  refine late_done (by kernel_rfl) ?_ _
  refine NoPanic.normal ?_
  go_wp2
  exact bodyPost_ret (v := .tuple #[.agg #[.int .i64 S, .slice p5 n5 c5], .bool true]) (by simp [results, go_sem, d07, d17]) rfl ⟨.slice p5 n5 c5, q.drop (held n q.length), rfl, do_end HR.out.1 HR.out.2 HT7.out HH7.out HQ7.out _ _⟩
end Go.Proofs.Ytfiiiefhchbhlaa
