/- Where a host ends; which texts are hosts. -/
import Derived.Test.YtbdbmlklijmefaaDoorPAny
namespace Go.Proofs.YtbdbmlklijmefaaDoor
open Go.RowKit

theorem ends_list : ends.data.toList = [47, 63] := rfl
theorem stop_ends (b : UInt8) : ([47, 63] : B).contains b = !stopC b := by
  unfold stopC
  simp only [List.contains_cons, List.contains_nil, Bool.or_false]
  rw [Bool.eq_iff_iff]
  simp only [Bool.or_eq_true, beq_iff_eq, Bool.not_eq_true', Bool.and_eq_false_iff, decide_eq_false_iff_not, ne_eq, Decidable.not_not]
theorem high_stop {b : UInt8} (h : 128 ≤ b.toNat) : ([47, 63] : B).contains b = false := by
  rw [stop_ends]
  unfold stopC
  have h1 : b ≠ 47 := fun e => by rw [e] at h; exact absurd h (by decide)
  have h2 : b ≠ 63 := fun e => by rw [e] at h; exact absurd h (by decide)
  simp [h1, h2]
theorem any_tw : ∀ s : B, Lib.indexAny s [47, 63] = if (s.takeWhile stopC).length < s.length then ((s.takeWhile stopC).length : Int) else -1
  | [] => rfl
  | b :: l => by
    have ih := any_tw l
    rw [Lib.indexAny, stop_ends]
    cases h : stopC b with
    | false => simp [h]
    | true =>
      rw [List.takeWhile_cons, if_pos h, ih]
      simp only [Bool.not_true, Bool.false_eq_true, if_false, List.length_cons, Nat.add_lt_add_iff_right]
      by_cases q : (l.takeWhile stopC).length < l.length
      · rw [if_pos q, if_pos q, if_neg (by simp)]
        push_cast
        rfl
      · rw [if_neg q, if_neg q]
        rfl
theorem tw_take (f : UInt8 → Bool) : ∀ s : B, s.takeWhile f = s.take (s.takeWhile f).length ∧ s.dropWhile f = s.drop (s.takeWhile f).length
  | [] => ⟨rfl, rfl⟩
  | b :: l => by
    obtain ⟨h1, h2⟩ := tw_take f l
    cases h : f b with
    | false => rw [List.takeWhile_cons, if_neg (by rw [h]; simp), List.dropWhile_cons, if_neg (by rw [h]; simp)]; exact ⟨rfl, rfl⟩
    | true =>
      rw [List.takeWhile_cons, if_pos h, List.dropWhile_cons, if_pos h]
      exact ⟨by rw [List.length_cons, List.take_succ_cons, ← h1], by rw [List.length_cons, List.drop_succ_cons, ← h2]⟩
theorem tw_le (f : UInt8 → Bool) (s : B) : (s.takeWhile f).length ≤ s.length := by
  have := congrArg List.length (tw_take f s).1
  rw [List.length_take] at this
  omega
theorem no_span {s : B} {i k : Nat} (h : Lib.NoAny s [47, 63] i) (hk : ∀ j, j < k → ∀ b, s[i + j]? = some b → 128 ≤ b.toNat) : Lib.NoAny s [47, 63] (i + k) := by
  intro j b hj hb
  by_cases hij : j < i
  · exact h j b hij hb
  · obtain ⟨d, rfl⟩ : ∃ d, j = i + d := ⟨j - i, by omega⟩
    exact high_stop (hk d (by omega) b hb)
theorem irune_any (r : Int) (hv : Utf8.valid r = true) (h128 : 128 ≤ r) (w : World) : Calls Tryd.prog 87 #[.string ends, .int .i32 r] w fun e w' => e = .returned (.int .i64 (-1)) ∧ Below w.heap.size w w' := by
  by_cases h : r = 65533
  · subst h; exact irune_err w
  · exact irune_high r hv h128 h w
set_option maxRecDepth 20000 in
set_option maxHeartbeats 8000000 in
theorem iany_short (s : B) (hs : s.length ≤ 8) (w : World) : Calls Tryd.prog 76 #[.string (str s), .string ends] w fun e w' => e = .returned (.int .i64 (Lib.indexAny s [47, 63])) ∧ Below w.heap.size w w' := by
  obtain ⟨n, hn⟩ : ∃ n, s.length = n := ⟨_, rfl⟩
  have HN := hid hn
  obtain ⟨S, hS⟩ : ∃ S, str s = S := ⟨_, rfl⟩
  have hSn : S.size = n := by rw [← hS, str_size, hn]
  have HByte := hid (show ∀ (k : Nat) (h : k < s.length) (h2 : k < S.size), S[k]'h2 = s[k]'h from fun k h h2 => by subst hS; rfl)
  have HSh := hid (show ∀ w, Calls Tryd.prog 88 #[.int .i64 (n : Int)] w fun e w' => e = .returned (.bool false) ∧ w' = w from fun w => by
    refine (Tryd.strings_shouldUseASCIISet (n : Int) w).mono ?_
    rintro e w' ⟨rfl, rfl⟩
    rw [decide_eq_false (by omega)]
    exact ⟨rfl, rfl⟩)
  obtain ⟨R, hR⟩ : ∃ R, Lib.indexAny s [47, 63] = R := ⟨_, rfl⟩
  have HRn := hid (show Lib.NoAny s [47, 63] n → R = -1 from fun h => by rw [← hR]; exact Lib.indexAny_none (by rw [hn]; exact h))
  have HRh := hid (show ∀ (i : Nat) (x : UInt8), Lib.NoAny s [47, 63] i → s[i]? = some x → ([47, 63] : B).contains x = true → R = (i : Int) from fun i x h1 h2 h3 => by rw [← hR]; exact Lib.indexAny_hit h1 h2 h3)
  have HSd := hid (show ∀ (i : Nat) (h : i < S.size), 128 ≤ (S[i]'h).toNat → Utf8.valid ((Utf8.decode S i).1 : Int) = true ∧ 128 ≤ (Utf8.decode S i).1 ∧ 1 ≤ (Utf8.decode S i).2 ∧ i + (Utf8.decode S i).2 ≤ n ∧ ∀ j, j < (Utf8.decode S i).2 → ∀ b, s[i + j]? = some b → 128 ≤ b.toNat from fun i h h1 => by
    obtain ⟨a1, a2⟩ := decode_in S i h h1
    obtain ⟨a3, a4⟩ := decode_high S i h h1
    refine ⟨a1, a3, a4, ?_, ?_⟩
    · have := (a2 ((Utf8.decode S i).2 - 1) (by omega)).1
      omega
    · intro j hj b hb
      obtain ⟨c1, c2⟩ := a2 j hj
      have h9 := get_at S (i + j) c1
      rw [Nat.add_zero] at h9
      rw [h9, HByte.out (i + j) (by rw [hn, ← hSn]; exact c1) c1] at c2
      have hb2 : s[i + j]'(by rw [hn, ← hSn]; exact c1) = b := by rw [List.getElem?_eq_getElem (by rw [hn, ← hSn]; exact c1)] at hb; exact Option.some.inj hb
      rw [← hb2]
      exact c2)
  rw [hn] at hs
  rw [hS, hR]
  obtain ⟨Ed, hEd⟩ : ∃ Ed, ends = Ed := ⟨_, rfl⟩
  have HEd := hid hEd
  have hemp : Ed.toList.isEmpty = false := by rw [← hEd, Lib.toList_data]; rfl
  have hed2 : Ed.size = 2 := by rw [← hEd]; rfl
  have HRu := hid (show ∀ (r : Int), Utf8.valid r = true → 128 ≤ r → ∀ w, _ from irune_any)
  rw [hEd] at HRu ⊢
  clear hn hS hR hEd
  go_enter Tryd.func76, Tryd.ntmps76
  go_wp2_with (go_at_call 88; (with_reducible refine (HSh.out _).mono ?_); rintro e w1 ⟨rfl, hw1⟩; subst w1)
  go_loopg [9, 10] (n + 1) (fun gk _ _ wx => ∃ i : Nat, i ≤ n ∧ gk = n - i + 1 ∧ wx.heap[w.heap.size]? = some (.stringIter S i) ∧ Below w.heap.size w wx ∧ Lib.NoAny s [47, 63] i)
  case atStart => exact ⟨0, by omega, rfl, World.iter_heap _ _ _, below_new _ _, Lib.NoAny.zero _ _⟩
  case round =>
    obtain ⟨i, hi, rfl, hit, hb, hno⟩ := hrel
    have HNo := hid hno
    have HB := hid hb
    clear hno hb
    by_cases hin : i < n
    · have hi1 : i < s.length := by rw [HN.out]; exact hin
      obtain ⟨y, hy⟩ : ∃ y, s[i] = y := ⟨_, rfl⟩
      have hiS : i < S.size := by rw [hSn]; exact hin
      have hyS : S[i]'hiS = y := by rw [HByte.out i hi1 hiS, hy]
      have HY := hid (show s[i]? = some y from by rw [List.getElem?_eq_getElem hi1, hy])
      clear hy hi1
      by_cases hlow : y.toNat < 128
      · have hnx := fun ty => Lib.run_next_ascii_at (P := Tryd.prog) wr w.heap.size S i ty hit hiS (by rw [hyS]; exact hlow)
        rw [hyS] at hnx
        have HIt := hid (Lib.iterAt_heap wr w.heap.size S i (i + 1) hit)
        have HB1 := hid (Lib.below_iterAt HB.out (Nat.le_refl _) S (i + 1))
        have HRa := hid (show ∀ w, _ from fun w => Tryd.strings_IndexRune_ascii Ed (y.toNat : Int) w (by omega) (by omega))
        rw [show ((y.toNat : Int)).toNat.toUInt8 = y from by simp] at HRa
        have hcon := Lib.contains_iff_indexByte [47, 63] y
        rw [← HEd.out, ends_list, HEd.out] at HRa
        obtain ⟨W1, hW1⟩ : ∃ W1, wr.iterAt w.heap.size S (i + 1) = W1 := ⟨_, rfl⟩
        rw [hW1] at hnx HIt HB1
        clear hW1 hit hiS hyS
        cases hc : ([47, 63] : B).contains y with
        | false =>
          have HNx := hid (HNo.out.succ HY.out hc)
          rw [hc] at hcon
          have hlt : ¬ ((0 : Int) ≤ Lib.indexByte [47, 63] y) := of_decide_eq_false hcon.symm
          obtain ⟨q, hq⟩ : ∃ q, Lib.indexByte [47, 63] y = q := ⟨_, rfl⟩
          rw [hq] at HRa hlt
          clear hcon hq hc
          go_wp2_with (go_at_call 87; (with_reducible refine (HRa.out _).mono ?_); rintro e w2 ⟨rfl, hw2⟩; subst hw2)
          go_roundg (n - (i + 1) + 1)
          case measure => omega
          case rel => exact ⟨i + 1, by omega, rfl, HIt.out, HB1.out, HNx.out⟩
        | true =>
          have HV := hid (HRh.out i y HNo.out HY.out hc)
          rw [hc] at hcon
          have hlt : ((0 : Int) ≤ Lib.indexByte [47, 63] y) := of_decide_eq_true hcon.symm
          obtain ⟨q, hq⟩ : ∃ q, Lib.indexByte [47, 63] y = q := ⟨_, rfl⟩
          rw [hq] at HRa hlt
          clear hcon hq hc
          go_wp2_with (go_at_call 87; (with_reducible refine (HRa.out _).mono ?_); rintro e w2 ⟨rfl, hw2⟩; subst hw2)
          go_ret
          exact ⟨by rw [HV.out]; rfl, HB1.out⟩
      · have hnx := fun ty => Lib.run_next_any_at (P := Tryd.prog) wr w.heap.size S i ty hit hiS
        obtain ⟨d1, d2, d3, d4, d5⟩ := HSd.out i hiS (by rw [hyS]; omega)
        obtain ⟨rr, hrr⟩ : ∃ rr, (Utf8.decode S i).1 = rr := ⟨_, rfl⟩
        obtain ⟨kk, hkk⟩ : ∃ kk, (Utf8.decode S i).2 = kk := ⟨_, rfl⟩
        rw [hrr, hkk] at hnx
        rw [hrr] at d1 d2
        rw [hkk] at d3 d4 d5
        have HNx := hid (no_span HNo.out d5)
        have HRi := hid (HRu.out (rr : Int) d1 (by omega))
        have HIt := hid (Lib.iterAt_heap wr w.heap.size S i (i + kk) hit)
        have HB1 := hid (Lib.below_iterAt HB.out (Nat.le_refl _) S (i + kk))
        obtain ⟨W1, hW1⟩ : ∃ W1, wr.iterAt w.heap.size S (i + kk) = W1 := ⟨_, rfl⟩
        rw [hW1] at hnx HIt HB1
        clear hW1 hit hiS hyS d1 d5 hrr hkk
        go_wp2_with (go_at_call 87; (with_reducible refine (HRi.out _).mono ?_); rintro e w2 ⟨rfl, hb2⟩; have HB2 := hid (below_out HB1.out hb2); have HIt2 := hid ((hb2.block _ (lt_of_heap HIt.out)).trans HIt.out); clear hb2)
        go_roundg (n - (i + kk) + 1)
        case measure => omega
        case rel => exact ⟨i + kk, by omega, rfl, HIt2.out, HB2.out, HNx.out⟩
    · obtain rfl : n = i := by omega
      have HV := hid (HRn.out HNo.out)
      have hnx := fun ty => Lib.run_next_end_at (P := Tryd.prog) wr w.heap.size S n ty hit (by omega)
      go_wp2
      go_ret
      exact ⟨by rw [HV.out]; rfl, HB.out⟩
theorem iany_any (s : B) (hs : s.length ≤ 4294967280) (w : World) : Calls Tryd.prog 76 #[.string (str s), .string ends] w fun e w' => e = .returned (.int .i64 (Lib.indexAny s [47, 63])) ∧ Below w.heap.size w w' := by
  by_cases h : s.length ≤ 8
  · exact iany_short s h w
  · refine (Tryd.strings_IndexAny_long (zero_of_info (P := Tryd.prog) (t := 95) (n := 256) (by kernel_rfl)).1 (str s) ends w (by decide) (by rw [str_size]; omega) (by rw [str_size]; omega) (by decide) (fun j b hb => by
      rw [ends_list] at hb
      have : b ∈ ([47, 63] : B) := List.mem_of_getElem? hb
      simp only [List.mem_cons, List.not_mem_nil, or_false] at this
      rcases this with rfl | rfl <;> decide)).mono ?_
    rintro e w' ⟨rfl, rfl⟩
    exact ⟨rfl, (below_new w _).alloc (below_new w _).size _⟩
set_option maxRecDepth 20000 in
set_option maxHeartbeats 8000000 in
theorem cuthost_any (s : B) (hs : s.length ≤ 4294967280) (w : World) : Calls Tryd.prog 56 #[.string (str s)] w fun e w' => e = .returned (.tuple #[.string (str (s.takeWhile stopC)), .string (str (s.dropWhile stopC))]) ∧ Below w.heap.size w w' := by
  obtain ⟨n, hn⟩ : ∃ n, s.length = n := ⟨_, rfl⟩
  have HIa := hid (iany_any s hs)
  rw [any_tw] at HIa
  obtain ⟨h1, h2⟩ := tw_take stopC s
  have hle := tw_le stopC s
  obtain ⟨k, hk⟩ : ∃ k, (s.takeWhile stopC).length = k := ⟨_, rfl⟩
  rw [hk] at HIa h1 h2 hle
  rw [hn] at HIa hle hs
  obtain ⟨S, hS⟩ : ∃ S, str s = S := ⟨_, rfl⟩
  have hSn : S.size = n := by rw [← hS, str_size, hn]
  have hx1 : S.extract 0 k = str (s.takeWhile stopC) := by rw [← hS, ext_str, h1]; simp
  have hx2 : S.extract k n = str (s.dropWhile stopC) := by rw [← hS, ext_drop s k n hn, h2]
  rw [hS] at HIa ⊢
  obtain ⟨Ta, hTa⟩ : ∃ Ta, str (s.takeWhile stopC) = Ta := ⟨_, rfl⟩
  obtain ⟨Tb, hTb⟩ : ∃ Tb, str (s.dropWhile stopC) = Tb := ⟨_, rfl⟩
  rw [hTa] at hx1 ⊢
  rw [hTb] at hx2 ⊢
  have HTb := hid (show n ≤ k → Tb = ByteArray.empty from fun h => by rw [← hTb, h2, List.drop_of_length_le (by omega)]; rfl)
  clear h1 h2 hk hS hTa hTb hn
  by_cases hlt : k < n
  · rw [if_pos hlt] at HIa
    have hk0 : ¬ (k : Int) < 0 := by omega
    have hk1 : (0 : Int) ≤ (k : Int) ∧ (k : Int) ≤ (n : Int) := by omega
    go_enter Tryd.func56, Tryd.ntmps56
    go_wp2_with (go_at_call 76; (with_reducible refine (HIa.out _).mono ?_); rintro e w1 ⟨rfl, hb⟩; have HB1 := hid hb; clear hb)
    refine wp_region_noPanic ?_
    refine any_begin 8 (by kernel_rfl) (by kernel_rfl) ?_
    refine any_take (i := 0) (some 11) rfl rfl (by kernel_rfl) (by kernel_rfl) (by kernel_rfl) (fun _ _ _ h => h) (by rfl) (v := ?v0h) ?hy0h ?rest0h
    case hy0h => intro w0; go_simp; try with_reducible rfl
    simp only [Act.put, List.setIfInBounds_toArray, List.set_cons_zero, List.set_cons_succ]
    refine any_take (i := 1) (some 12) rfl rfl (by kernel_rfl) (by kernel_rfl) (by kernel_rfl) (fun _ _ _ h => h) (by rfl) (v := ?v1h) ?hy1h ?rest1h
    case hy1h => intro w0; go_simp; try with_reducible rfl
    simp only [Act.put, List.setIfInBounds_toArray, List.set_cons_zero, List.set_cons_succ]
    refine any_take (i := 2) (some 13) rfl rfl (by kernel_rfl) (by kernel_rfl) (by kernel_rfl) (fun _ _ _ h => h) (by rfl) (v := ?v2h) ?hy2h ?rest2h
    case hy2h => intro w0; go_simp; try with_reducible rfl
    simp only [Act.put, List.setIfInBounds_toArray, List.set_cons_zero, List.set_cons_succ]
    refine any_take (i := 3) (some 14) rfl rfl (by kernel_rfl) (by kernel_rfl) (by kernel_rfl) (fun _ _ _ h => h) (by rfl) (v := ?v3h) ?hy3h ?rest3h
    case hy3h => intro w0; go_simp; try with_reducible rfl
    simp only [Act.put, List.setIfInBounds_toArray, List.set_cons_zero, List.set_cons_succ]
    refine any_take (i := 4) (some 15) rfl rfl (by kernel_rfl) (by kernel_rfl) (by kernel_rfl) (fun _ _ _ h => h) (by rfl) (v := ?v4h) ?hy4h ?rest4h
    case hy4h => intro w0; go_simp; try with_reducible rfl
    simp only [Act.put, List.setIfInBounds_toArray, List.set_cons_zero, List.set_cons_succ]
    refine any_take (i := 5) (some 16) rfl rfl (by kernel_rfl) (by kernel_rfl) (by kernel_rfl) (fun _ _ _ h => h) (by rfl) (v := ?v5h) ?hy5h ?rest5h
    case hy5h => intro w0; go_simp; try with_reducible rfl
    simp only [Act.put, List.setIfInBounds_toArray, List.set_cons_zero, List.set_cons_succ]
    refine any_take (i := 6) (some 2) rfl rfl (by kernel_rfl) (by kernel_rfl) (by kernel_rfl) (fun _ _ _ h => h) (by rfl) (v := ?v6h) ?hy6h ?rest6h
    case hy6h => intro w0; go_simp; try with_reducible rfl
    simp only [Act.put, List.setIfInBounds_toArray, List.set_cons_zero, List.set_cons_succ]
    refine any_take (i := 7) (some 3) rfl rfl (by kernel_rfl) (by kernel_rfl) (by kernel_rfl) (fun _ _ _ h => h) (by rfl) (v := ?v7h) ?hy7h ?rest7h
    case hy7h => intro w0; go_simp; try with_reducible rfl
    simp only [Act.put, List.setIfInBounds_toArray, List.set_cons_zero, List.set_cons_succ]
    refine any_done (by kernel_rfl) ?_ _
    refine NoPanic.normal ?_
    go_wp2
    go_ret2
    exact ⟨rfl, ⟨HB1.out.os, HB1.out.tape, HB1.out.output, HB1.out.size, HB1.out.block⟩⟩
  · obtain rfl : k = n := by omega
    rw [if_neg hlt] at HIa
    have hTe := HTb.out (Nat.le_refl _)
    subst hTe
    go_enter Tryd.func56, Tryd.ntmps56
    go_wp2_with (go_at_call 76; (with_reducible refine (HIa.out _).mono ?_); rintro e w1 ⟨rfl, hb⟩; have HB1 := hid hb; clear hb)
    refine wp_region_noPanic ?_
    refine any_begin 8 (by kernel_rfl) (by kernel_rfl) ?_
    refine any_take (i := 0) (some 11) rfl rfl (by kernel_rfl) (by kernel_rfl) (by kernel_rfl) (fun _ _ _ h => h) (by rfl) (v := ?v0k) ?hy0k ?rest0k
    case hy0k => intro w0; go_simp; try with_reducible rfl
    simp only [Act.put, List.setIfInBounds_toArray, List.set_cons_zero, List.set_cons_succ]
    refine any_take (i := 1) (some 12) rfl rfl (by kernel_rfl) (by kernel_rfl) (by kernel_rfl) (fun _ _ _ h => h) (by rfl) (v := ?v1k) ?hy1k ?rest1k
    case hy1k => intro w0; go_simp; try with_reducible rfl
    simp only [Act.put, List.setIfInBounds_toArray, List.set_cons_zero, List.set_cons_succ]
    refine any_take (i := 2) (some 13) rfl rfl (by kernel_rfl) (by kernel_rfl) (by kernel_rfl) (fun _ _ _ h => h) (by rfl) (v := ?v2k) ?hy2k ?rest2k
    case hy2k => intro w0; go_simp; try with_reducible rfl
    simp only [Act.put, List.setIfInBounds_toArray, List.set_cons_zero, List.set_cons_succ]
    refine any_take (i := 3) (some 14) rfl rfl (by kernel_rfl) (by kernel_rfl) (by kernel_rfl) (fun _ _ _ h => h) (by rfl) (v := ?v3k) ?hy3k ?rest3k
    case hy3k => intro w0; go_simp; try with_reducible rfl
    simp only [Act.put, List.setIfInBounds_toArray, List.set_cons_zero, List.set_cons_succ]
    refine any_take (i := 4) (some 15) rfl rfl (by kernel_rfl) (by kernel_rfl) (by kernel_rfl) (fun _ _ _ h => h) (by rfl) (v := ?v4k) ?hy4k ?rest4k
    case hy4k => intro w0; go_simp; try with_reducible rfl
    simp only [Act.put, List.setIfInBounds_toArray, List.set_cons_zero, List.set_cons_succ]
    refine any_take (i := 5) (some 16) rfl rfl (by kernel_rfl) (by kernel_rfl) (by kernel_rfl) (fun _ _ _ h => h) (by rfl) (v := ?v5k) ?hy5k ?rest5k
    case hy5k => intro w0; go_simp; try with_reducible rfl
    simp only [Act.put, List.setIfInBounds_toArray, List.set_cons_zero, List.set_cons_succ]
    refine any_take (i := 6) (some 2) rfl rfl (by kernel_rfl) (by kernel_rfl) (by kernel_rfl) (fun _ _ _ h => h) (by rfl) (v := ?v6k) ?hy6k ?rest6k
    case hy6k => intro w0; go_simp; try with_reducible rfl
    simp only [Act.put, List.setIfInBounds_toArray, List.set_cons_zero, List.set_cons_succ]
    refine any_take (i := 7) (some 3) rfl rfl (by kernel_rfl) (by kernel_rfl) (by kernel_rfl) (fun _ _ _ h => h) (by rfl) (v := ?v7k) ?hy7k ?rest7k
    case hy7k => intro w0; go_simp; try with_reducible rfl
    simp only [Act.put, List.setIfInBounds_toArray, List.set_cons_zero, List.set_cons_succ]
    refine any_done (by kernel_rfl) ?_ _
    refine NoPanic.normal ?_
    go_wp2
    go_ret2
    exact ⟨rfl, ⟨HB1.out.os, HB1.out.tape, HB1.out.output, HB1.out.size, HB1.out.block⟩⟩
set_option maxRecDepth 20000 in
set_option maxHeartbeats 8000000 in
theorem ishost_any (s : B) (hs : s.length ≤ 4294967280) (w : World) : Calls Tryd.prog 57 #[.string (str s)] w fun e w' => e = .returned (.bool (isHostB s)) ∧ w' = w := by
  obtain ⟨n, hn⟩ : ∃ n, s.length = n := ⟨_, rfl⟩
  have HN := hid hn
  obtain ⟨S, hS⟩ : ∃ S, str s = S := ⟨_, rfl⟩
  have hSn : S.size = n := by rw [← hS, str_size, hn]
  have HByte := hid (show ∀ (k : Nat) (h : k < s.length) (h2 : k < S.size), S[k]'h2 = s[k]'h from fun k h h2 => by subst hS; rfl)
  have HH := hid (show ∀ (c : UInt8) (w : World), _ from phost_any)
  have HR0 := hid (show isHostB s = (s.all hostB && decide (s ≠ []) && decide (s.length ≤ 255)) from rfl)
  obtain ⟨R, hR⟩ : ∃ R, isHostB s = R := ⟨_, rfl⟩
  rw [hR, hn] at HR0
  have HEm := hid (show (decide (s ≠ []) : Bool) = decide (n ≠ 0) from by rw [← hn]; cases s <;> simp)
  have HEq := hid (show ∀ b : Bool, (S.toList == (⟨#[]⟩ : ByteArray).toList) = b ↔ decide (n = 0) = b from fun b => by
    have : (S.toList == (⟨#[]⟩ : ByteArray).toList) = decide (n = 0) := by
      rw [← hS, ← hn, Lib.toList_data, Lib.toList_data]
      cases s with
      | nil => rfl
      | cons c l =>
        simp only [List.length_cons, Nat.add_eq_zero_iff, Nat.one_ne_zero, and_false, decide_false]
        rfl
    rw [this])
  rw [hn] at hs
  rw [hS, hR]
  clear hn hS hR
  go_enter Tryd.func57, Tryd.ntmps57
  go_wp2
  go_loopg [6] (n + 1) (fun gk s6 wr => ∃ i : Nat, i ≤ n ∧ gk = n - i + 1 ∧ s6 = .int .i64 (i : Int) ∧ (s.take i).all hostB = true ∧ wr = w)
  case atStart => exact ⟨0, by omega, rfl, rfl, rfl, rfl⟩
  case round =>
    obtain ⟨i, hi, rfl, rfl, hal, rfl⟩ := hrel
    have HAl := hid hal
    clear hal
    by_cases hin : i < n
    · have hi1 : i < s.length := by rw [HN.out]; exact hin
      obtain ⟨y, hy⟩ : ∃ y, s[i] = y := ⟨_, rfl⟩
      obtain ⟨Y, hY⟩ : ∃ Y : Nat, y.toNat = Y := ⟨_, rfl⟩
      have hY256 : Y < 256 := by rw [← hY]; exact y.toNat_lt
      have hbyte : ∀ h : i < S.size, (S[i]'h).toNat = Y := fun h => by rw [HByte.out i hi1 h, hy, hY]
      have HTk := hid (show (s.take (i + 1)).all hostB = hostB y from by rw [List.take_add_one, List.getElem?_eq_getElem hi1, hy, List.all_append, HAl.out]; simp)
      have HFa := hid (show hostB y = false → R = false from fun h => by
        rw [HR0.out]
        have : s.all hostB = false := by
          rw [List.all_eq_false]
          exact ⟨y, by rw [← hy]; exact List.getElem_mem hi1, by rw [h]; simp⟩
        rw [this]; rfl)
      have HHy := hid (HH.out y)
      unfold byteV at HHy
      rw [hY] at HHy
      clear hy hi1 hY
      cases hh : hostB y with
      | true =>
        rw [hh] at HHy HTk
        clear hh
        go_wp2_with (go_at_call 77; (with_reducible refine (HHy.out _).mono ?_); rintro e w1 ⟨rfl, rfl⟩)
        go_roundg (n - (i + 1) + 1)
        case measure => omega
        case rel => exact ⟨i + 1, by omega, rfl, by push_cast; go_num, HTk.out, rfl⟩
      | false =>
        rw [hh] at HHy
        have HV := hid (HFa.out hh)
        clear hh
        go_wp2_with (go_at_call 77; (with_reducible refine (HHy.out _).mono ?_); rintro e w1 ⟨rfl, rfl⟩)
        go_ret
        exact ⟨by rw [HV.out]; rfl, rfl⟩
    · obtain rfl : n = i := by omega
      have HV := hid (show R = (decide (n ≠ 0) && decide (n ≤ 255)) from by rw [HR0.out, HEm.out]; rw [List.take_of_length_le (by rw [HN.out]; exact Nat.le_refl _)] at HAl; rw [HAl.out]; rfl)
      by_cases h0 : n = 0
      · have e1 : (S.toList == (⟨#[]⟩ : ByteArray).toList) = true := (HEq.out true).2 (decide_eq_true h0)
        have e2 : S.toList.isEmpty = true := by
          have := beq_iff_eq.1 e1
          rw [this, Lib.toList_data]; rfl
        have HV2 := hid (show R = false from by rw [HV.out]; simp [h0])
        go_wp2
        go_ret
        exact ⟨by rw [HV2.out]; rfl, rfl⟩
      · have e1 : (S.toList == (⟨#[]⟩ : ByteArray).toList) = false := (HEq.out false).2 (decide_eq_false h0)
        have e2 : S.toList.isEmpty = false := by
          cases hq : S.toList with
          | nil => rw [hq, Lib.toList_data] at e1; exact absurd e1 (by decide)
          | cons c l => rfl
        by_cases h255 : n ≤ 255
        · have HV2 := hid (show R = true from by rw [HV.out]; simp [h0, h255])
          have h255i : (n : Int) ≤ 255 := by omega
          go_wp2
          go_ret
          exact ⟨by rw [HV2.out]; simp, rfl⟩
        · have HV2 := hid (show R = false from by rw [HV.out]; simp [h255])
          have h255i : ¬ (n : Int) ≤ 255 := by omega
          go_wp2
          go_ret
          exact ⟨by rw [HV2.out]; simp, rfl⟩
end Go.Proofs.YtbdbmlklijmefaaDoor
