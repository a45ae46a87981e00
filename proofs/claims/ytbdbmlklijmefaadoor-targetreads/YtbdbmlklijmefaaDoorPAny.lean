/- The library's IndexAny of a slash and a question mark, of every text. -/
import Derived.Test.YtbdbmlklijmefaaDoorPLow
import Derived.Laws.RangeAny
import Derived.Laws.Runes
import Derived.Lib.OthersKept
import Derived.WalkMore
namespace Go.Proofs.YtbdbmlklijmefaaDoor
open Go.RowKit

theorem decode_in (s : ByteArray) (pos : Nat) (h : pos < s.size) (ha : 128 ≤ (s[pos]'h).toNat) : Utf8.valid ((Utf8.decode s pos).1 : Int) = true ∧ ∀ i, i < (Utf8.decode s pos).2 → pos + i < s.size ∧ 128 ≤ (s.get! (pos + i)).toNat := by
  have hn : ¬ (s[pos]'h).toNat < 128 := by omega
  have h0 : 128 ≤ (s.get! (pos + 0)).toNat := by rw [get_at s pos h]; exact ha
  have hz : ∀ i, i < 1 → pos + i < s.size ∧ 128 ≤ (s.get! (pos + i)).toNat := fun i hi => by
    obtain rfl : i = 0 := by omega
    exact ⟨h, h0⟩
  have hv : Utf8.valid (Utf8.runeError : Int) = true := by decide
  simp only [Utf8.decode]
  rw [if_neg (by omega)]
  split
  · rename_i q
    simp only [Bool.and_eq_true, decide_eq_true_eq, beq_iff_eq] at q
    split
    · refine ⟨by unfold Utf8.valid; simp; omega, fun i hi => ?_⟩
      rcases (by omega : i = 0 ∨ i = 1) with rfl | rfl
      · exact ⟨h, h0⟩
      · exact ⟨q.2.1, by omega⟩
    · exact ⟨hv, hz⟩
  split
  · rename_i q
    simp only [Bool.and_eq_true, decide_eq_true_eq, beq_iff_eq] at q
    split
    · rename_i q2
      simp only [Bool.and_eq_true, decide_eq_true_eq] at q2
      refine ⟨q2.2, fun i hi => ?_⟩
      rcases (by omega : i = 0 ∨ i = 1 ∨ i = 2) with rfl | rfl | rfl
      · exact ⟨h, h0⟩
      · exact ⟨q.1.2.1, by omega⟩
      · exact ⟨q.2.1, by omega⟩
    · exact ⟨hv, hz⟩
  split
  · rename_i q
    simp only [Bool.and_eq_true, decide_eq_true_eq, beq_iff_eq] at q
    split
    · rename_i q2
      simp only [Bool.and_eq_true, decide_eq_true_eq] at q2
      refine ⟨q2.2, fun i hi => ?_⟩
      rcases (by omega : i = 0 ∨ i = 1 ∨ i = 2 ∨ i = 3) with rfl | rfl | rfl | rfl
      · exact ⟨h, h0⟩
      · exact ⟨q.1.1.2.1, by omega⟩
      · exact ⟨q.1.2.1, by omega⟩
      · exact ⟨q.2.1, by omega⟩
    · exact ⟨hv, hz⟩
  · exact ⟨hv, hz⟩
abbrev ends : ByteArray := ⟨#[47, 63]⟩
theorem valid_cases {r : Int} (h : Utf8.valid r = true) : (0 ≤ r ∧ r < 55296) ∨ (57344 ≤ r ∧ r ≤ 1114111) := by
  unfold Utf8.valid at h
  simp at h
  omega
set_option maxRecDepth 100000 in
set_option maxHeartbeats 8000000 in
theorem irune_err (w : World) : Calls Tryd.prog 87 #[.string ends, .int .i32 65533] w fun e w' => e = .returned (.int .i64 (-1)) ∧ Below w.heap.size w w' := by
  go_enter Tryd.func87, Tryd.ntmps87
  go_wp2
  go_loopg [5, 6] 3 (fun g _ _ wx => ∃ i : Nat, i ≤ 2 ∧ g = 2 - i + 1 ∧ wx = w.iter ends i)
  case atStart => exact ⟨0, by omega, rfl, rfl⟩
  case round =>
    obtain ⟨i, hi, rfl, rfl⟩ := hrel
    rcases (by omega : i = 0 ∨ i = 1 ∨ i = 2) with rfl | rfl | rfl
    · have hnx := fun ty => run_next_ascii (P := Tryd.prog) w ends 0 ty (by decide) (by decide)
      go_wp2
      go_roundg 2
      case measure => omega
      case rel => exact ⟨1, by omega, rfl, rfl⟩
    · have hnx := fun ty => run_next_ascii (P := Tryd.prog) w ends 1 ty (by decide) (by decide)
      go_wp2
      go_roundg 1
      case measure => omega
      case rel => exact ⟨2, by omega, rfl, rfl⟩
    · have hnx := fun ty => run_next_end (P := Tryd.prog) w ends 2 ty (by decide)
      go_wp2
      go_ret
      exact ⟨rfl, below_new _ _⟩
/-! A rune of more bytes. -/
set_option maxRecDepth 20000 in
set_option maxHeartbeats 8000000 in
theorem irune_high (r : Int) (hv : Utf8.valid r = true) (h128 : 128 ≤ r) (hne : ¬ r = 65533) (w : World) : Calls Tryd.prog 87 #[.string ends, .int .i32 r] w fun e w' => e = .returned (.int .i64 (-1)) ∧ Below w.heap.size w w' := by
  obtain ⟨f1, f2, f3⟩ := encode_facts r hv h128
  obtain ⟨E, hE⟩ : ∃ E, Utf8.encode r = E := ⟨_, rfl⟩
  rw [hE] at f1 f2 f3
  obtain ⟨m, hm⟩ : ∃ m, E.size = m := ⟨_, rfl⟩
  rw [hm] at f1 f2
  obtain ⟨S, hS⟩ : ∃ S, ends = S := ⟨_, rfl⟩
  have hS2 : S.size = 2 := by rw [← hS]; rfl
  have hb1 : ∀ h : 1 < S.size, (S[1]'h).toNat = 63 := fun h => by subst hS; rfl
  have hx2 : S.extract 2 2 = ⟨#[]⟩ := by rw [← hS]; rfl
  have hne2 : (r == 65533) = false := by simpa using hne
  rw [hS]
  clear hS
  have hval := valid_cases hv
  clear hv
  by_cases h2 : m = 2
  · subst h2
    obtain ⟨L, hL⟩ : ∃ L : Nat, ∀ h : 1 < E.size, (E[1]'h).toNat = L := ⟨(E[1]'(by omega)).toNat, fun _ => rfl⟩
    have hL128 : 128 ≤ L := by
      have h9 := f3 (by omega)
      simp only [hm] at h9
      rw [← hL (by omega)]
      exact h9
    have hLne : ((63 : Int) != (L : Int)) = true := by
      rw [bne_iff_ne]
      omega
    have HIb := hid (show ∀ w, Calls Tryd.prog 98 #[.string ⟨#[]⟩, .int .u8 (L : Int)] w fun e w' => e = .returned (.int .i64 (-1)) ∧ w' = w from Tryd.strings_IndexByte ⟨#[]⟩ (L : Int))
    have hw2 : IntKind.i64.wrap 2 = 2 := by decide
    clear f1 f2 f3
    rcases hval with ⟨hv1, hv2⟩ | ⟨hv1, hv2⟩
    · go_enter Tryd.func87, Tryd.ntmps87
      go_wp2
      go_step3
      go_wp2
      go_loopg [9, 10] 1 (fun gk s9 s10 wr => gk = 1 ∧ s9 = .int .i64 1 ∧ s10 = .int .i64 0 ∧ wr = w)
      case atStart => exact ⟨rfl, rfl, rfl, rfl⟩
      case round =>
        obtain ⟨rfl, rfl, rfl, rfl⟩ := hrel
        go_wp2
        go_step3
        go_wp2
        refine wp_region_noPanic ?_
        refine any_begin 7 (by kernel_rfl) (by kernel_rfl) ?_
        refine any_take (i := 0) (some 27) rfl rfl (by kernel_rfl) (by kernel_rfl) (by kernel_rfl) (fun _ _ _ h => h) (by rfl) (v := ?v0a) ?hy0a ?rest0a
        case hy0a => intro w0; go_simp; try with_reducible rfl
        simp only [Act.put, List.setIfInBounds_toArray, List.set_cons_zero, List.set_cons_succ]
        refine any_take (i := 1) (some 28) rfl rfl (by kernel_rfl) (by kernel_rfl) (by kernel_rfl) (fun _ _ _ h => h) (by rfl) (v := ?v1a) ?hy1a ?rest1a
        case hy1a => intro w0; go_simp; try with_reducible rfl
        simp only [Act.put, List.setIfInBounds_toArray, List.set_cons_zero, List.set_cons_succ]
        refine any_take (i := 2) (some 29) rfl rfl (by kernel_rfl) (by kernel_rfl) (by kernel_rfl) (fun _ _ _ h => h) (by rfl) (v := ?v2a) ?hy2a ?rest2a
        case hy2a => intro w0; go_simp; try with_reducible rfl
        simp only [Act.put, List.setIfInBounds_toArray, List.set_cons_zero, List.set_cons_succ]
        refine any_take (i := 3) (some 30) rfl rfl (by kernel_rfl) (by kernel_rfl) (by kernel_rfl) (fun _ _ _ h => h) (by rfl) (v := ?v3a) ?hy3a ?rest3a
        case hy3a => intro w0; go_simp; try with_reducible rfl
        simp only [Act.put, List.setIfInBounds_toArray, List.set_cons_zero, List.set_cons_succ]
        refine any_take (i := 4) (some 31) rfl rfl (by kernel_rfl) (by kernel_rfl) (by kernel_rfl) (fun _ _ _ h => h) (by rfl) (v := ?v4a) ?hy4a ?rest4a
        case hy4a => intro w0; go_simp; try with_reducible rfl
        simp only [Act.put, List.setIfInBounds_toArray, List.set_cons_zero, List.set_cons_succ]
        refine any_take (i := 5) (some 32) rfl rfl (by kernel_rfl) (by kernel_rfl) (by kernel_rfl) (fun _ _ _ h => h) (by rfl) (v := ?v5a) ?hy5a ?rest5a
        case hy5a => intro w0; go_simp; try with_reducible rfl
        simp only [Act.put, List.setIfInBounds_toArray, List.set_cons_zero, List.set_cons_succ]
        refine any_take (i := 6) (some 33) rfl rfl (by kernel_rfl) (by kernel_rfl) (by kernel_rfl) (fun _ _ _ h => h) (by rfl) (v := ?v6a) ?hy6a ?rest6a
        case hy6a => intro w0; go_simp; try with_reducible rfl
        simp only [Act.put, List.setIfInBounds_toArray, List.set_cons_zero, List.set_cons_succ]
        refine any_done (by kernel_rfl) ?_ _
        refine NoPanic.normal ?_
        go_wp2
        refine wp_region_noPanic ?_
        refine any_begin 9 (by kernel_rfl) (by kernel_rfl) ?_
        refine any_take (i := 0) (some 34) rfl rfl (by kernel_rfl) (by kernel_rfl) (by kernel_rfl) (fun _ _ _ h => h) (by rfl) (v := ?v0b) ?hy0b ?rest0b
        case hy0b => intro w0; go_simp; try with_reducible rfl
        simp only [Act.put, List.setIfInBounds_toArray, List.set_cons_zero, List.set_cons_succ]
        refine any_take (i := 1) (some 35) rfl rfl (by kernel_rfl) (by kernel_rfl) (by kernel_rfl) (fun _ _ _ h => h) (by rfl) (v := ?v1b) ?hy1b ?rest1b
        case hy1b => intro w0; go_simp; try with_reducible rfl
        simp only [Act.put, List.setIfInBounds_toArray, List.set_cons_zero, List.set_cons_succ]
        refine any_take (i := 2) (some 36) rfl rfl (by kernel_rfl) (by kernel_rfl) (by kernel_rfl) (fun _ _ _ h => h) (by rfl) (v := ?v2b) ?hy2b ?rest2b
        case hy2b => intro w0; go_simp; try with_reducible rfl
        simp only [Act.put, List.setIfInBounds_toArray, List.set_cons_zero, List.set_cons_succ]
        refine any_take (i := 3) (some 37) rfl rfl (by kernel_rfl) (by kernel_rfl) (by kernel_rfl) (fun _ _ _ h => h) (by rfl) (v := ?v3b) ?hy3b ?rest3b
        case hy3b => intro w0; go_simp; try with_reducible rfl
        simp only [Act.put, List.setIfInBounds_toArray, List.set_cons_zero, List.set_cons_succ]
        refine any_take (i := 4) (some 38) rfl rfl (by kernel_rfl) (by kernel_rfl) (by kernel_rfl) (fun _ _ _ h => h) (by rfl) (v := ?v4b) ?hy4b ?rest4b
        case hy4b => intro w0; go_simp; try with_reducible rfl
        simp only [Act.put, List.setIfInBounds_toArray, List.set_cons_zero, List.set_cons_succ]
        refine any_take (i := 5) (some 39) rfl rfl (by kernel_rfl) (by kernel_rfl) (by kernel_rfl) (fun _ _ _ h => h) (by rfl) (v := ?v5b) ?hy5b ?rest5b
        case hy5b => intro w0; go_simp; try with_reducible rfl
        simp only [Act.put, List.setIfInBounds_toArray, List.set_cons_zero, List.set_cons_succ]
        refine any_take (i := 6) (some 40) rfl rfl (by kernel_rfl) (by kernel_rfl) (by kernel_rfl) (fun _ _ _ h => h) (by rfl) (v := ?v6b) ?hy6b ?rest6b
        case hy6b => intro w0; go_simp; try with_reducible rfl
        simp only [Act.put, List.setIfInBounds_toArray, List.set_cons_zero, List.set_cons_succ]
        refine any_one (i := 7) (by kernel_rfl) rfl (fun K hK => ?_)
        go_simp
        go_at_call 98
        refine (HIb.out _).mono ?_
        rintro e w5 ⟨rfl, rfl⟩
        refine hK _ _ ?_
        clear hK K
        refine any_take (i := 8) (some 11) rfl rfl (by kernel_rfl) (by kernel_rfl) (by kernel_rfl) (fun _ _ _ h => h) (by rfl) (v := ?v8b) ?hy8b ?rest8b
        case hy8b => intro w0; go_simp; try with_reducible rfl
        simp only [Act.put, List.setIfInBounds_toArray, List.set_cons_zero, List.set_cons_succ]
        refine any_done (by kernel_rfl) ?_ _
        refine NoPanic.normal ?_
        go_wp2
        (simp only [Exit.noGoto_ret, Exit.inBlock, Exit.then])
        go_ret
        exact ⟨rfl, ⟨rfl, rfl, rfl, Nat.le_refl _, fun _ _ => rfl⟩⟩
    · go_enter Tryd.func87, Tryd.ntmps87
      go_wp2
      go_step3
      go_wp2
      go_loopg [9, 10] 1 (fun gk s9 s10 wr => gk = 1 ∧ s9 = .int .i64 1 ∧ s10 = .int .i64 0 ∧ wr = w)
      case atStart => exact ⟨rfl, rfl, rfl, rfl⟩
      case round =>
        obtain ⟨rfl, rfl, rfl, rfl⟩ := hrel
        go_wp2
        go_step3
        go_wp2
        refine wp_region_noPanic ?_
        refine any_begin 7 (by kernel_rfl) (by kernel_rfl) ?_
        refine any_take (i := 0) (some 27) rfl rfl (by kernel_rfl) (by kernel_rfl) (by kernel_rfl) (fun _ _ _ h => h) (by rfl) (v := ?v0az) ?hy0az ?rest0az
        case hy0az => intro w0; go_simp; try with_reducible rfl
        simp only [Act.put, List.setIfInBounds_toArray, List.set_cons_zero, List.set_cons_succ]
        refine any_take (i := 1) (some 28) rfl rfl (by kernel_rfl) (by kernel_rfl) (by kernel_rfl) (fun _ _ _ h => h) (by rfl) (v := ?v1az) ?hy1az ?rest1az
        case hy1az => intro w0; go_simp; try with_reducible rfl
        simp only [Act.put, List.setIfInBounds_toArray, List.set_cons_zero, List.set_cons_succ]
        refine any_take (i := 2) (some 29) rfl rfl (by kernel_rfl) (by kernel_rfl) (by kernel_rfl) (fun _ _ _ h => h) (by rfl) (v := ?v2az) ?hy2az ?rest2az
        case hy2az => intro w0; go_simp; try with_reducible rfl
        simp only [Act.put, List.setIfInBounds_toArray, List.set_cons_zero, List.set_cons_succ]
        refine any_take (i := 3) (some 30) rfl rfl (by kernel_rfl) (by kernel_rfl) (by kernel_rfl) (fun _ _ _ h => h) (by rfl) (v := ?v3az) ?hy3az ?rest3az
        case hy3az => intro w0; go_simp; try with_reducible rfl
        simp only [Act.put, List.setIfInBounds_toArray, List.set_cons_zero, List.set_cons_succ]
        refine any_take (i := 4) (some 31) rfl rfl (by kernel_rfl) (by kernel_rfl) (by kernel_rfl) (fun _ _ _ h => h) (by rfl) (v := ?v4az) ?hy4az ?rest4az
        case hy4az => intro w0; go_simp; try with_reducible rfl
        simp only [Act.put, List.setIfInBounds_toArray, List.set_cons_zero, List.set_cons_succ]
        refine any_take (i := 5) (some 32) rfl rfl (by kernel_rfl) (by kernel_rfl) (by kernel_rfl) (fun _ _ _ h => h) (by rfl) (v := ?v5az) ?hy5az ?rest5az
        case hy5az => intro w0; go_simp; try with_reducible rfl
        simp only [Act.put, List.setIfInBounds_toArray, List.set_cons_zero, List.set_cons_succ]
        refine any_take (i := 6) (some 33) rfl rfl (by kernel_rfl) (by kernel_rfl) (by kernel_rfl) (fun _ _ _ h => h) (by rfl) (v := ?v6az) ?hy6az ?rest6az
        case hy6az => intro w0; go_simp; try with_reducible rfl
        simp only [Act.put, List.setIfInBounds_toArray, List.set_cons_zero, List.set_cons_succ]
        refine any_done (by kernel_rfl) ?_ _
        refine NoPanic.normal ?_
        go_wp2
        refine wp_region_noPanic ?_
        refine any_begin 9 (by kernel_rfl) (by kernel_rfl) ?_
        refine any_take (i := 0) (some 34) rfl rfl (by kernel_rfl) (by kernel_rfl) (by kernel_rfl) (fun _ _ _ h => h) (by rfl) (v := ?v0bz) ?hy0bz ?rest0bz
        case hy0bz => intro w0; go_simp; try with_reducible rfl
        simp only [Act.put, List.setIfInBounds_toArray, List.set_cons_zero, List.set_cons_succ]
        refine any_take (i := 1) (some 35) rfl rfl (by kernel_rfl) (by kernel_rfl) (by kernel_rfl) (fun _ _ _ h => h) (by rfl) (v := ?v1bz) ?hy1bz ?rest1bz
        case hy1bz => intro w0; go_simp; try with_reducible rfl
        simp only [Act.put, List.setIfInBounds_toArray, List.set_cons_zero, List.set_cons_succ]
        refine any_take (i := 2) (some 36) rfl rfl (by kernel_rfl) (by kernel_rfl) (by kernel_rfl) (fun _ _ _ h => h) (by rfl) (v := ?v2bz) ?hy2bz ?rest2bz
        case hy2bz => intro w0; go_simp; try with_reducible rfl
        simp only [Act.put, List.setIfInBounds_toArray, List.set_cons_zero, List.set_cons_succ]
        refine any_take (i := 3) (some 37) rfl rfl (by kernel_rfl) (by kernel_rfl) (by kernel_rfl) (fun _ _ _ h => h) (by rfl) (v := ?v3bz) ?hy3bz ?rest3bz
        case hy3bz => intro w0; go_simp; try with_reducible rfl
        simp only [Act.put, List.setIfInBounds_toArray, List.set_cons_zero, List.set_cons_succ]
        refine any_take (i := 4) (some 38) rfl rfl (by kernel_rfl) (by kernel_rfl) (by kernel_rfl) (fun _ _ _ h => h) (by rfl) (v := ?v4bz) ?hy4bz ?rest4bz
        case hy4bz => intro w0; go_simp; try with_reducible rfl
        simp only [Act.put, List.setIfInBounds_toArray, List.set_cons_zero, List.set_cons_succ]
        refine any_take (i := 5) (some 39) rfl rfl (by kernel_rfl) (by kernel_rfl) (by kernel_rfl) (fun _ _ _ h => h) (by rfl) (v := ?v5bz) ?hy5bz ?rest5bz
        case hy5bz => intro w0; go_simp; try with_reducible rfl
        simp only [Act.put, List.setIfInBounds_toArray, List.set_cons_zero, List.set_cons_succ]
        refine any_take (i := 6) (some 40) rfl rfl (by kernel_rfl) (by kernel_rfl) (by kernel_rfl) (fun _ _ _ h => h) (by rfl) (v := ?v6bz) ?hy6bz ?rest6bz
        case hy6bz => intro w0; go_simp; try with_reducible rfl
        simp only [Act.put, List.setIfInBounds_toArray, List.set_cons_zero, List.set_cons_succ]
        refine any_one (i := 7) (by kernel_rfl) rfl (fun K hK => ?_)
        go_simp
        go_at_call 98
        refine (HIb.out _).mono ?_
        rintro e w5 ⟨rfl, rfl⟩
        refine hK _ _ ?_
        clear hK K
        refine any_take (i := 8) (some 11) rfl rfl (by kernel_rfl) (by kernel_rfl) (by kernel_rfl) (fun _ _ _ h => h) (by rfl) (v := ?v8bz) ?hy8bz ?rest8bz
        case hy8bz => intro w0; go_simp; try with_reducible rfl
        simp only [Act.put, List.setIfInBounds_toArray, List.set_cons_zero, List.set_cons_succ]
        refine any_done (by kernel_rfl) ?_ _
        refine NoPanic.normal ?_
        go_wp2
        (simp only [Exit.noGoto_ret, Exit.inBlock, Exit.then])
        go_ret
        exact ⟨rfl, ⟨rfl, rfl, rfl, Nat.le_refl _, fun _ _ => rfl⟩⟩
  · have hm3 : 3 ≤ m := by omega
    have hl1 : ¬ ((m : Int) - 1 < 2) := by omega
    clear f3 h2
    rcases hval with ⟨hv1, hv2⟩ | ⟨hv1, hv2⟩
    · go_enter Tryd.func87, Tryd.ntmps87
      go_wp2
      go_step3
      go_wp2
      go_loopg [9, 10] 1 (fun gk s9 s10 wr => gk = 1 ∧ s9 = .int .i64 ((m : Int) - 1) ∧ s10 = .int .i64 0 ∧ wr = w)
      case atStart => exact ⟨rfl, by go_num, rfl, rfl⟩
      case round =>
        obtain ⟨rfl, rfl, rfl, rfl⟩ := hrel
        go_wp2
        try rw [Exit.noGoto_ret]
        go_ret
        exact ⟨rfl, Below.refl _ _⟩
    · go_enter Tryd.func87, Tryd.ntmps87
      go_wp2
      go_step3
      go_wp2
      go_loopg [9, 10] 1 (fun gk s9 s10 wr => gk = 1 ∧ s9 = .int .i64 ((m : Int) - 1) ∧ s10 = .int .i64 0 ∧ wr = w)
      case atStart => exact ⟨rfl, by go_num, rfl, rfl⟩
      case round =>
        obtain ⟨rfl, rfl, rfl, rfl⟩ := hrel
        go_wp2
        try rw [Exit.noGoto_ret]
        go_ret
        exact ⟨rfl, Below.refl _ _⟩
end Go.Proofs.YtbdbmlklijmefaaDoor
