/- Where what comes next can't become a character any more. -/
import Derived.Test.YtkoeihliaandeaaGreatDoorFull
import Derived.Test.YtkoeihliaandeaaGreatDoorOrder
import Derived.Deep.RegionHeld3
namespace Go.Proofs.YtkoeihliaandeaaGreatDoor
open Go.RowKit

theorem ext_list (s : ByteArray) (a b : Nat) : (s.extract a b).data.toList = (s.data.toList.drop a).take (b - a) := by
  rw [ByteArray.data_extract, Array.toList_extract]
theorem ext_le (s : ByteArray) (a b : Nat) : (s.extract a b).size ≤ s.size := by
  show (s.extract a b).data.toList.length ≤ s.data.toList.length
  rw [ext_list, List.length_take, List.length_drop]
  omega
theorem full_ext {s : ByteArray} {l : B} {p j : Nat} (hd : s.data.toList.drop p = l) (hl : l ≠ []) (hm : s.size ≤ 140737488355328) (w : World) (hT : Tabs w) :
    Calls Tryz.prog 96 #[.string (s.extract p (p + j + 1))] w fun e w' => e = .returned (.bool (full (l.take (j + 1)))) ∧ Below w.heap.size w w' := by
  have e : (s.extract p (p + j + 1)).data.toList = l.take (j + 1) := by rw [ext_list, hd, show p + j + 1 - p = j + 1 by omega]
  cases l with
  | nil => exact absurd rfl hl
  | cons c t =>
    rw [List.take_succ_cons] at e ⊢
    exact full_any _ c _ e (Nat.le_trans (ext_le _ _ _) hm) w hT
theorem Rd.tabs {w w' : World} (h : Tabs w) (hb : Below w.heap.size w w') : Tabs w' := Utf8Tabs_below h hb
/-- The two cells that are read. -/
def Rd2 (w : World) (b : Nat) (s : ByteArray) (p : Nat) : Prop := w.cell? ⟨b, 0, none⟩ = some (.string s) ∧ w.cell? ⟨b, 1, none⟩ = some (.int .i64 (p : Int))
theorem At.two {w : World} {b : Nat} {s : ByteArray} {l : B} {d p : Nat} (h : At w b s l d p) : Rd2 w b s p := ⟨h.c0, h.c1⟩
theorem Rd2.below {w w' : World} {b : Nat} {s : ByteArray} {p : Nat} (h : Rd2 w b s p) (hb : Below w.heap.size w w') : Rd2 w' b s p := by
  have hlt : b < w.heap.size := by
    have := h.1
    unfold World.cell? at this
    cases e : w.heap[b]? with
    | none => simp [e] at this
    | some o => exact lt_of_heap e
  exact ⟨by rw [hb.cell (by exact hlt)]; exact h.1, by rw [hb.cell (by exact hlt)]; exact h.2⟩
set_option maxRecDepth 20000 in
set_option maxHeartbeats 4000000 in
theorem broken_any {w : World} {b : Nat} {s : ByteArray} {l : B} {d : Nat} (hT : Tabs w) (hl : l ≠ []) (h0 : (uni l).1 = 0) (p : Nat) (hA : At w b s l d p) :
    Calls Tryz.prog 86 #[.pointer (some ⟨b, 0, none⟩)] w fun e w' => e = .returned (.int .i64 ((p + (uni l).2 : Nat) : Int)) ∧ Below w.heap.size w w' := by
  obtain ⟨u1, u2, u3⟩ := uni_broken l hl h0
  obtain ⟨K0, HK⟩ : ∃ K0, Hid ((uni l).2 = K0) := ⟨_, rfl⟩
  rw [HK.out] at u1 u2 u3 ⊢
  have c1 := hA.c1
  have hm := hA.most
  have hle := hA.le
  have hlen := hA.len
  have HD := hid (And.intro hA.drop hl)
  have HU := hid (And.intro u1 u2)
  have H0 := hid hA.two
  have HT0 := hid hT
  clear u1 u2 hT hA h0 hl
  go_enter Tryz.func86, Tryz.ntmps86
  go_wp2
  go_loopg [3] (K0 + 1) (fun gk s3 wr => ∃ j, j ≤ K0 ∧ gk = K0 - j + 1 ∧ s3 = .int .i64 ((p : Int) + (j : Int)) ∧ Below w.heap.size w wr)
  case atStart => exact ⟨0, by omega, by omega, by simp, Below.refl _ _⟩
  case round =>
    obtain ⟨j, hj, rfl, rfl, hbw⟩ := hrel
    have HB := hid hbw
    have H2 := hid (H0.out.below hbw)
    have HT := hid (Rd.tabs HT0.out hbw)
    have k1 := H2.out.1
    clear hbw
    by_cases hjk : j < K0
    · have hq := HU.out.1 j hjk
      have hlt : (p : Int) + (j : Int) < (s.size : Int) := by omega
      have hwr : IntKind.i64.wrap ((p : Int) + (j : Int) + 1) = (p : Int) + (j : Int) + 1 := by rw [IntKind.wrap_i64]; omega
      have hto : ((p : Int) + (j : Int) + 1).toNat = p + j + 1 := by omega
      have HF := hid hq.2
      clear hq
      · go_wp2_with fail
        refine wp_region_noPanic ?_
        refine any_begin 22 (by kernel_rfl) (by kernel_rfl) ?_
        refine late_begin (fun U => Rd2 U b s p) (fun _ => false) (H2.out.below (below_drew (Below.refl _ _) 1)) (fun hS => ?_)
        refine late_take (i := 0) (some 8) rfl rfl (by kernel_rfl) (by kernel_rfl) (by kernel_rfl) (by kernel_rfl) (by kernel_rfl) (fun _ _ _ h => h) (by rfl) (v := ?v0a) ?hy0a hS ?rest0a
        case hy0a => intro w0 hSw; obtain ⟨k0, k1⟩ := hSw; go_simp; try with_reducible rfl
        simp only [Act.put, List.setIfInBounds_toArray, List.set_cons_zero, List.set_cons_succ]
        refine late_take (i := 1) (some 9) rfl rfl (by kernel_rfl) (by kernel_rfl) (by kernel_rfl) (by kernel_rfl) (by kernel_rfl) (fun _ _ _ h => h) (by rfl) (v := ?v1a) ?hy1a hS ?rest1a
        case hy1a => intro w0 hSw; obtain ⟨k0, k1⟩ := hSw; go_simp; try with_reducible rfl
        simp only [Act.put, List.setIfInBounds_toArray, List.set_cons_zero, List.set_cons_succ]
        refine late_take (i := 2) (some 10) rfl rfl (by kernel_rfl) (by kernel_rfl) (by kernel_rfl) (by kernel_rfl) (by kernel_rfl) (fun _ _ _ h => h) (by rfl) (v := ?v2a) ?hy2a hS ?rest2a
        case hy2a => intro w0 hSw; obtain ⟨k0, k1⟩ := hSw; go_simp; try with_reducible rfl
        simp only [Act.put, List.setIfInBounds_toArray, List.set_cons_zero, List.set_cons_succ]
        refine late_take (i := 3) (some 11) rfl rfl (by kernel_rfl) (by kernel_rfl) (by kernel_rfl) (by kernel_rfl) (by kernel_rfl) (fun _ _ _ h => h) (by rfl) (v := ?v3a) ?hy3a hS ?rest3a
        case hy3a => intro w0 hSw; obtain ⟨k0, k1⟩ := hSw; go_simp; try with_reducible rfl
        simp only [Act.put, List.setIfInBounds_toArray, List.set_cons_zero, List.set_cons_succ]
        refine late_take (i := 4) (some 12) rfl rfl (by kernel_rfl) (by kernel_rfl) (by kernel_rfl) (by kernel_rfl) (by kernel_rfl) (fun _ _ _ h => h) (by rfl) (v := ?v4a) ?hy4a hS ?rest4a
        case hy4a => intro w0 hSw; obtain ⟨k0, k1⟩ := hSw; go_simp; try with_reducible rfl
        simp only [Act.put, List.setIfInBounds_toArray, List.set_cons_zero, List.set_cons_succ]
        refine late_take (i := 5) (some 13) rfl rfl (by kernel_rfl) (by kernel_rfl) (by kernel_rfl) (by kernel_rfl) (by kernel_rfl) (fun _ _ _ h => h) (by rfl) (v := ?v5a) ?hy5a hS ?rest5a
        case hy5a => intro w0 hSw; obtain ⟨k0, k1⟩ := hSw; go_simp; try with_reducible rfl
        simp only [Act.put, List.setIfInBounds_toArray, List.set_cons_zero, List.set_cons_succ]
        refine late_take (i := 6) (some 14) rfl rfl (by kernel_rfl) (by kernel_rfl) (by kernel_rfl) (by kernel_rfl) (by kernel_rfl) (fun _ _ _ h => h) (by rfl) (v := ?v6a) ?hy6a hS ?rest6a
        case hy6a => intro w0 hSw; obtain ⟨k0, k1⟩ := hSw; go_simp; try with_reducible rfl
        simp only [Act.put, List.setIfInBounds_toArray, List.set_cons_zero, List.set_cons_succ]
        refine late_take (i := 7) (some 15) rfl rfl (by kernel_rfl) (by kernel_rfl) (by kernel_rfl) (by kernel_rfl) (by kernel_rfl) (fun _ _ _ h => h) (by rfl) (v := ?v7a) ?hy7a hS ?rest7a
        case hy7a => intro w0 hSw; obtain ⟨k0, k1⟩ := hSw; go_simp; try with_reducible rfl
        simp only [Act.put, List.setIfInBounds_toArray, List.set_cons_zero, List.set_cons_succ]
        refine late_take (i := 8) (some 16) rfl rfl (by kernel_rfl) (by kernel_rfl) (by kernel_rfl) (by kernel_rfl) (by kernel_rfl) (fun _ _ _ h => h) (by rfl) (v := ?v8a) ?hy8a hS ?rest8a
        case hy8a => intro w0 hSw; obtain ⟨k0, k1⟩ := hSw; go_simp; try with_reducible rfl
        simp only [Act.put, List.setIfInBounds_toArray, List.set_cons_zero, List.set_cons_succ]
        refine late_take (i := 9) (some 17) rfl rfl (by kernel_rfl) (by kernel_rfl) (by kernel_rfl) (by kernel_rfl) (by kernel_rfl) (fun _ _ _ h => h) (by rfl) (v := ?v9a) ?hy9a hS ?rest9a
        case hy9a => intro w0 hSw; obtain ⟨k0, k1⟩ := hSw; go_simp; try with_reducible rfl
        simp only [Act.put, List.setIfInBounds_toArray, List.set_cons_zero, List.set_cons_succ]
        refine late_take (i := 10) (some 18) rfl rfl (by kernel_rfl) (by kernel_rfl) (by kernel_rfl) (by kernel_rfl) (by kernel_rfl) (fun _ _ _ h => h) (by rfl) (v := ?v10a) ?hy10a hS ?rest10a
        case hy10a => intro w0 hSw; obtain ⟨k0, k1⟩ := hSw; go_simp; try with_reducible rfl
        simp only [Act.put, List.setIfInBounds_toArray, List.set_cons_zero, List.set_cons_succ]
        refine late_take (i := 11) (some 19) rfl rfl (by kernel_rfl) (by kernel_rfl) (by kernel_rfl) (by kernel_rfl) (by kernel_rfl) (fun _ _ _ h => h) (by rfl) (v := ?v11a) ?hy11a hS ?rest11a
        case hy11a => intro w0 hSw; obtain ⟨k0, k1⟩ := hSw; go_simp; try with_reducible rfl
        simp only [Act.put, List.setIfInBounds_toArray, List.set_cons_zero, List.set_cons_succ]
        refine late_take (i := 12) (some 20) rfl rfl (by kernel_rfl) (by kernel_rfl) (by kernel_rfl) (by kernel_rfl) (by kernel_rfl) (fun _ _ _ h => h) (by rfl) (v := ?v12a) ?hy12a hS ?rest12a
        case hy12a => intro w0 hSw; obtain ⟨k0, k1⟩ := hSw; go_simp; try with_reducible rfl
        simp only [Act.put, List.setIfInBounds_toArray, List.set_cons_zero, List.set_cons_succ]
        refine late_take (i := 13) (some 21) rfl rfl (by kernel_rfl) (by kernel_rfl) (by kernel_rfl) (by kernel_rfl) (by kernel_rfl) (fun _ _ _ h => h) (by rfl) (v := ?v13a) ?hy13a hS ?rest13a
        case hy13a => intro w0 hSw; obtain ⟨k0, k1⟩ := hSw; go_simp; try with_reducible rfl
        simp only [Act.put, List.setIfInBounds_toArray, List.set_cons_zero, List.set_cons_succ]
        refine late_take (i := 14) (some 22) rfl rfl (by kernel_rfl) (by kernel_rfl) (by kernel_rfl) (by kernel_rfl) (by kernel_rfl) (fun _ _ _ h => h) (by rfl) (v := ?v14a) ?hy14a hS ?rest14a
        case hy14a => intro w0 hSw; obtain ⟨k0, k1⟩ := hSw; go_simp; try with_reducible rfl
        simp only [Act.put, List.setIfInBounds_toArray, List.set_cons_zero, List.set_cons_succ]
        refine late_take (i := 15) (some 23) rfl rfl (by kernel_rfl) (by kernel_rfl) (by kernel_rfl) (by kernel_rfl) (by kernel_rfl) (fun _ _ _ h => h) (by rfl) (v := ?v15a) ?hy15a hS ?rest15a
        case hy15a => intro w0 hSw; obtain ⟨k0, k1⟩ := hSw; go_simp; try with_reducible rfl
        simp only [Act.put, List.setIfInBounds_toArray, List.set_cons_zero, List.set_cons_succ]
        refine late_take (i := 16) (some 24) rfl rfl (by kernel_rfl) (by kernel_rfl) (by kernel_rfl) (by kernel_rfl) (by kernel_rfl) (fun _ _ _ h => h) (by rfl) (v := ?v16a) ?hy16a hS ?rest16a
        case hy16a => intro w0 hSw; obtain ⟨k0, k1⟩ := hSw; go_simp; try with_reducible rfl
        simp only [Act.put, List.setIfInBounds_toArray, List.set_cons_zero, List.set_cons_succ]
        refine late_take (i := 17) (some 25) rfl rfl (by kernel_rfl) (by kernel_rfl) (by kernel_rfl) (by kernel_rfl) (by kernel_rfl) (fun _ _ _ h => h) (by rfl) (v := ?v17a) ?hy17a hS ?rest17a
        case hy17a => intro w0 hSw; obtain ⟨k0, k1⟩ := hSw; go_simp; try with_reducible rfl
        simp only [Act.put, List.setIfInBounds_toArray, List.set_cons_zero, List.set_cons_succ]
        refine late_take (i := 18) (some 26) rfl rfl (by kernel_rfl) (by kernel_rfl) (by kernel_rfl) (by kernel_rfl) (by kernel_rfl) (fun _ _ _ h => h) (by rfl) (v := .string (s.extract p (p + j + 1))) ?hy18a hS ?rest18a
        case hy18a => intro w0 hSw; go_simp; rw [if_pos (by omega), if_pos (by omega)]
        simp only [Act.put, List.setIfInBounds_toArray, List.set_cons_zero, List.set_cons_succ]
        refine wpAnyD_one (i := 19) (by kernel_rfl) rfl (fun K hK => ?_)
        go_simp
        go_at_call 96
        refine (full_ext HD.out.1 HD.out.2 hm _ (Rd.tabs HT.out (below_drew (Below.refl _ _) 1))).mono ?_
        rintro e w1 ⟨rfl, hb1⟩
        rw [HF.out]
        have HB1 := hid ((below_drew (Below.refl _ wr) 1).trans hb1)
        clear hb1
        refine hK _ _ ⟨fun _ => H2.out.below HB1.out, ?_⟩
        clear hK K
        replace hS := H2.out.below HB1.out
        refine late_take (i := 20) (some 28) rfl rfl (by kernel_rfl) (by kernel_rfl) (by kernel_rfl) (by kernel_rfl) (by kernel_rfl) (fun _ _ _ h => h) (by rfl) (v := ?v20a) ?hy20a hS ?rest20a
        case hy20a => intro w0 hSw; obtain ⟨k0, k1⟩ := hSw; go_simp; try with_reducible rfl
        simp only [Act.put, List.setIfInBounds_toArray, List.set_cons_zero, List.set_cons_succ]
        refine late_take (i := 21) (some 29) rfl rfl (by kernel_rfl) (by kernel_rfl) (by kernel_rfl) (by kernel_rfl) (by kernel_rfl) (fun _ _ _ h => h) (by rfl) (v := ?v21a) ?hy21a hS ?rest21a
        case hy21a => intro w0 hSw; obtain ⟨k0, k1⟩ := hSw; go_simp; try with_reducible rfl
        simp only [Act.put, List.setIfInBounds_toArray, List.set_cons_zero, List.set_cons_succ]
        refine late_done (by kernel_rfl) ?_ _
        refine NoPanic.normal ?_
        clear hS
        go_wp2
        go_roundg (K0 - (j + 1) + 1)
        case measure => omega
        case rel => exact ⟨j + 1, by omega, rfl, by (congr 1) <;> (push_cast; omega), HB.out.trans (HB1.out.mono HB.out.size)⟩
    · obtain rfl : j = K0 := by omega
      by_cases hjl : j < l.length
      · have hq := HU.out.2 hjl
        have hlt : (p : Int) + (j : Int) < (s.size : Int) := by omega
        have hwr : IntKind.i64.wrap ((p : Int) + (j : Int) + 1) = (p : Int) + (j : Int) + 1 := by rw [IntKind.wrap_i64]; omega
        have hto : ((p : Int) + (j : Int) + 1).toNat = p + j + 1 := by omega
        have HF := hid hq
        clear hq
        go_wp2_with fail
        refine wp_region_noPanic ?_
        refine any_begin 22 (by kernel_rfl) (by kernel_rfl) ?_
        refine late_begin (fun U => Rd2 U b s p) (fun _ => false) (H2.out.below (below_drew (Below.refl _ _) 1)) (fun hS => ?_)
        refine late_take (i := 0) (some 8) rfl rfl (by kernel_rfl) (by kernel_rfl) (by kernel_rfl) (by kernel_rfl) (by kernel_rfl) (fun _ _ _ h => h) (by rfl) (v := ?v0b) ?hy0b hS ?rest0b
        case hy0b => intro w0 hSw; obtain ⟨k0, k1⟩ := hSw; go_simp; try with_reducible rfl
        simp only [Act.put, List.setIfInBounds_toArray, List.set_cons_zero, List.set_cons_succ]
        refine late_take (i := 1) (some 9) rfl rfl (by kernel_rfl) (by kernel_rfl) (by kernel_rfl) (by kernel_rfl) (by kernel_rfl) (fun _ _ _ h => h) (by rfl) (v := ?v1b) ?hy1b hS ?rest1b
        case hy1b => intro w0 hSw; obtain ⟨k0, k1⟩ := hSw; go_simp; try with_reducible rfl
        simp only [Act.put, List.setIfInBounds_toArray, List.set_cons_zero, List.set_cons_succ]
        refine late_take (i := 2) (some 10) rfl rfl (by kernel_rfl) (by kernel_rfl) (by kernel_rfl) (by kernel_rfl) (by kernel_rfl) (fun _ _ _ h => h) (by rfl) (v := ?v2b) ?hy2b hS ?rest2b
        case hy2b => intro w0 hSw; obtain ⟨k0, k1⟩ := hSw; go_simp; try with_reducible rfl
        simp only [Act.put, List.setIfInBounds_toArray, List.set_cons_zero, List.set_cons_succ]
        refine late_take (i := 3) (some 11) rfl rfl (by kernel_rfl) (by kernel_rfl) (by kernel_rfl) (by kernel_rfl) (by kernel_rfl) (fun _ _ _ h => h) (by rfl) (v := ?v3b) ?hy3b hS ?rest3b
        case hy3b => intro w0 hSw; obtain ⟨k0, k1⟩ := hSw; go_simp; try with_reducible rfl
        simp only [Act.put, List.setIfInBounds_toArray, List.set_cons_zero, List.set_cons_succ]
        refine late_take (i := 4) (some 12) rfl rfl (by kernel_rfl) (by kernel_rfl) (by kernel_rfl) (by kernel_rfl) (by kernel_rfl) (fun _ _ _ h => h) (by rfl) (v := ?v4b) ?hy4b hS ?rest4b
        case hy4b => intro w0 hSw; obtain ⟨k0, k1⟩ := hSw; go_simp; try with_reducible rfl
        simp only [Act.put, List.setIfInBounds_toArray, List.set_cons_zero, List.set_cons_succ]
        refine late_take (i := 5) (some 13) rfl rfl (by kernel_rfl) (by kernel_rfl) (by kernel_rfl) (by kernel_rfl) (by kernel_rfl) (fun _ _ _ h => h) (by rfl) (v := ?v5b) ?hy5b hS ?rest5b
        case hy5b => intro w0 hSw; obtain ⟨k0, k1⟩ := hSw; go_simp; try with_reducible rfl
        simp only [Act.put, List.setIfInBounds_toArray, List.set_cons_zero, List.set_cons_succ]
        refine late_take (i := 6) (some 14) rfl rfl (by kernel_rfl) (by kernel_rfl) (by kernel_rfl) (by kernel_rfl) (by kernel_rfl) (fun _ _ _ h => h) (by rfl) (v := ?v6b) ?hy6b hS ?rest6b
        case hy6b => intro w0 hSw; obtain ⟨k0, k1⟩ := hSw; go_simp; try with_reducible rfl
        simp only [Act.put, List.setIfInBounds_toArray, List.set_cons_zero, List.set_cons_succ]
        refine late_take (i := 7) (some 15) rfl rfl (by kernel_rfl) (by kernel_rfl) (by kernel_rfl) (by kernel_rfl) (by kernel_rfl) (fun _ _ _ h => h) (by rfl) (v := ?v7b) ?hy7b hS ?rest7b
        case hy7b => intro w0 hSw; obtain ⟨k0, k1⟩ := hSw; go_simp; try with_reducible rfl
        simp only [Act.put, List.setIfInBounds_toArray, List.set_cons_zero, List.set_cons_succ]
        refine late_take (i := 8) (some 16) rfl rfl (by kernel_rfl) (by kernel_rfl) (by kernel_rfl) (by kernel_rfl) (by kernel_rfl) (fun _ _ _ h => h) (by rfl) (v := ?v8b) ?hy8b hS ?rest8b
        case hy8b => intro w0 hSw; obtain ⟨k0, k1⟩ := hSw; go_simp; try with_reducible rfl
        simp only [Act.put, List.setIfInBounds_toArray, List.set_cons_zero, List.set_cons_succ]
        refine late_take (i := 9) (some 17) rfl rfl (by kernel_rfl) (by kernel_rfl) (by kernel_rfl) (by kernel_rfl) (by kernel_rfl) (fun _ _ _ h => h) (by rfl) (v := ?v9b) ?hy9b hS ?rest9b
        case hy9b => intro w0 hSw; obtain ⟨k0, k1⟩ := hSw; go_simp; try with_reducible rfl
        simp only [Act.put, List.setIfInBounds_toArray, List.set_cons_zero, List.set_cons_succ]
        refine late_take (i := 10) (some 18) rfl rfl (by kernel_rfl) (by kernel_rfl) (by kernel_rfl) (by kernel_rfl) (by kernel_rfl) (fun _ _ _ h => h) (by rfl) (v := ?v10b) ?hy10b hS ?rest10b
        case hy10b => intro w0 hSw; obtain ⟨k0, k1⟩ := hSw; go_simp; try with_reducible rfl
        simp only [Act.put, List.setIfInBounds_toArray, List.set_cons_zero, List.set_cons_succ]
        refine late_take (i := 11) (some 19) rfl rfl (by kernel_rfl) (by kernel_rfl) (by kernel_rfl) (by kernel_rfl) (by kernel_rfl) (fun _ _ _ h => h) (by rfl) (v := ?v11b) ?hy11b hS ?rest11b
        case hy11b => intro w0 hSw; obtain ⟨k0, k1⟩ := hSw; go_simp; try with_reducible rfl
        simp only [Act.put, List.setIfInBounds_toArray, List.set_cons_zero, List.set_cons_succ]
        refine late_take (i := 12) (some 20) rfl rfl (by kernel_rfl) (by kernel_rfl) (by kernel_rfl) (by kernel_rfl) (by kernel_rfl) (fun _ _ _ h => h) (by rfl) (v := ?v12b) ?hy12b hS ?rest12b
        case hy12b => intro w0 hSw; obtain ⟨k0, k1⟩ := hSw; go_simp; try with_reducible rfl
        simp only [Act.put, List.setIfInBounds_toArray, List.set_cons_zero, List.set_cons_succ]
        refine late_take (i := 13) (some 21) rfl rfl (by kernel_rfl) (by kernel_rfl) (by kernel_rfl) (by kernel_rfl) (by kernel_rfl) (fun _ _ _ h => h) (by rfl) (v := ?v13b) ?hy13b hS ?rest13b
        case hy13b => intro w0 hSw; obtain ⟨k0, k1⟩ := hSw; go_simp; try with_reducible rfl
        simp only [Act.put, List.setIfInBounds_toArray, List.set_cons_zero, List.set_cons_succ]
        refine late_take (i := 14) (some 22) rfl rfl (by kernel_rfl) (by kernel_rfl) (by kernel_rfl) (by kernel_rfl) (by kernel_rfl) (fun _ _ _ h => h) (by rfl) (v := ?v14b) ?hy14b hS ?rest14b
        case hy14b => intro w0 hSw; obtain ⟨k0, k1⟩ := hSw; go_simp; try with_reducible rfl
        simp only [Act.put, List.setIfInBounds_toArray, List.set_cons_zero, List.set_cons_succ]
        refine late_take (i := 15) (some 23) rfl rfl (by kernel_rfl) (by kernel_rfl) (by kernel_rfl) (by kernel_rfl) (by kernel_rfl) (fun _ _ _ h => h) (by rfl) (v := ?v15b) ?hy15b hS ?rest15b
        case hy15b => intro w0 hSw; obtain ⟨k0, k1⟩ := hSw; go_simp; try with_reducible rfl
        simp only [Act.put, List.setIfInBounds_toArray, List.set_cons_zero, List.set_cons_succ]
        refine late_take (i := 16) (some 24) rfl rfl (by kernel_rfl) (by kernel_rfl) (by kernel_rfl) (by kernel_rfl) (by kernel_rfl) (fun _ _ _ h => h) (by rfl) (v := ?v16b) ?hy16b hS ?rest16b
        case hy16b => intro w0 hSw; obtain ⟨k0, k1⟩ := hSw; go_simp; try with_reducible rfl
        simp only [Act.put, List.setIfInBounds_toArray, List.set_cons_zero, List.set_cons_succ]
        refine late_take (i := 17) (some 25) rfl rfl (by kernel_rfl) (by kernel_rfl) (by kernel_rfl) (by kernel_rfl) (by kernel_rfl) (fun _ _ _ h => h) (by rfl) (v := ?v17b) ?hy17b hS ?rest17b
        case hy17b => intro w0 hSw; obtain ⟨k0, k1⟩ := hSw; go_simp; try with_reducible rfl
        simp only [Act.put, List.setIfInBounds_toArray, List.set_cons_zero, List.set_cons_succ]
        refine late_take (i := 18) (some 26) rfl rfl (by kernel_rfl) (by kernel_rfl) (by kernel_rfl) (by kernel_rfl) (by kernel_rfl) (fun _ _ _ h => h) (by rfl) (v := .string (s.extract p (p + j + 1))) ?hy18b hS ?rest18b
        case hy18b => intro w0 hSw; go_simp; rw [if_pos (by omega), if_pos (by omega)]
        simp only [Act.put, List.setIfInBounds_toArray, List.set_cons_zero, List.set_cons_succ]
        refine wpAnyD_one (i := 19) (by kernel_rfl) rfl (fun K hK => ?_)
        go_simp
        go_at_call 96
        refine (full_ext HD.out.1 HD.out.2 hm _ (Rd.tabs HT.out (below_drew (Below.refl _ _) 1))).mono ?_
        rintro e w1 ⟨rfl, hb1⟩
        rw [HF.out]
        have HB1 := hid ((below_drew (Below.refl _ wr) 1).trans hb1)
        clear hb1
        refine hK _ _ ⟨fun _ => H2.out.below HB1.out, ?_⟩
        clear hK K
        replace hS := H2.out.below HB1.out
        refine late_take (i := 20) (some 28) rfl rfl (by kernel_rfl) (by kernel_rfl) (by kernel_rfl) (by kernel_rfl) (by kernel_rfl) (fun _ _ _ h => h) (by rfl) (v := ?v20b) ?hy20b hS ?rest20b
        case hy20b => intro w0 hSw; obtain ⟨k0, k1⟩ := hSw; go_simp; try with_reducible rfl
        simp only [Act.put, List.setIfInBounds_toArray, List.set_cons_zero, List.set_cons_succ]
        refine late_take (i := 21) (some 29) rfl rfl (by kernel_rfl) (by kernel_rfl) (by kernel_rfl) (by kernel_rfl) (by kernel_rfl) (fun _ _ _ h => h) (by rfl) (v := ?v21b) ?hy21b hS ?rest21b
        case hy21b => intro w0 hSw; obtain ⟨k0, k1⟩ := hSw; go_simp; try with_reducible rfl
        simp only [Act.put, List.setIfInBounds_toArray, List.set_cons_zero, List.set_cons_succ]
        refine late_done (by kernel_rfl) ?_ _
        refine NoPanic.normal ?_
        clear hS
        go_wp2
        go_ret
        exact ⟨by push_cast; rfl, HB.out.trans (HB1.out.mono HB.out.size)⟩
      · have hlt : decide ((p : Int) + (j : Int) < (s.size : Int)) = false := by simp only [decide_eq_false_iff_not]; omega
        go_wp2
        go_quiet (fail)
        go_wp2
        go_ret
        exact ⟨by push_cast; rfl, below_drew HB.out _⟩
end Go.Proofs.YtkoeihliaandeaaGreatDoor
