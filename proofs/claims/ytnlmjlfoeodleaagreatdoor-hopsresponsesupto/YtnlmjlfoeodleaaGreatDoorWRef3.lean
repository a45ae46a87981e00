/- The document's own: classes of texts, fields that may be written. -/
import Derived.Test.YtnlmjlfoeodleaaGreatDoorWRowM
import Derived.Test.YtnlmjlfoeodleaaGreatDoorWThree
namespace Go.Proofs.YtnlmjlfoeodleaaGreatDoor
open Go.RowKit

theorem rblank10_any (c : Int) (w : World) : Calls Tryz.prog 126 #[.int .u8 c] w fun e w' => e = .returned (.bool (blankB c)) ∧ w' = w := by
  by_cases h0 : c = 32
  · subst h0
    go_enter Tryz.func126, Tryz.ntmps126
    go_wp2
    go_ret
    exact ⟨rfl, rfl⟩
  by_cases h1 : c = 9
  · subst h1
    go_enter Tryz.func126, Tryz.ntmps126
    go_wp2
    go_ret
    exact ⟨rfl, rfl⟩
  · have HV := hid (show blankB c = false from by unfold blankB; rw [decide_eq_false]; simp [h0, h1])
    have e0 : (c == 32) = false := by simpa using h0
    have e1 : (c == 9) = false := by simpa using h1
    go_enter Tryz.func126, Tryz.ntmps126
    go_wp2
    go_ret
    exact ⟨ret_bool HV.out.symm, rfl⟩
set_option maxRecDepth 20000 in
set_option maxHeartbeats 8000000 in
theorem rvis10_any (s : B) (hs : s.length ≤ 70368744177664) (w : World) : Calls Tryz.prog 94 #[.string (str s)] w fun e w' => e = .returned (.bool (tarB s)) ∧ w' = w := by
  obtain ⟨n, hn⟩ : ∃ n, s.length = n := ⟨_, rfl⟩
  have HN := hid hn
  obtain ⟨S, hS⟩ : ∃ S, str s = S := ⟨_, rfl⟩
  have hSn : S.size = n := by rw [← hS, str_size, hn]
  have HByte := hid (show ∀ (k : Nat) (h : k < s.length) (h2 : k < S.size), S[k]'h2 = s[k]'h from fun k h h2 => by subst hS; rfl)
  have HEm := hid (show n ≠ 0 → S.toList.isEmpty = false from fun h => by
    rw [← hS]
    exact (str_empty (fun e => h (by rw [← hn, e]; rfl))).2)
  have HE0 := hid (show n = 0 → S = ⟨#[]⟩ from fun h => by
    rw [← hS, show s = [] from List.eq_nil_of_length_eq_zero (by omega)])
  obtain ⟨R, hR⟩ : ∃ R, tarB s = R := ⟨_, rfl⟩
  have HRf := hid (show ∀ y ∈ s, clsB 1 y = false → R = false from fun y hy h => by
    rw [← hR]
    unfold tarB allB
    rw [List.all_eq_false.2 ⟨y, hy, by rw [h]; simp⟩]; simp)
  have HRt := hid (show (∀ y ∈ s, clsB 1 y = true) → R = decide (n ≠ 0) from fun h => by rw [← hR]; unfold tarB allB; rw [List.all_eq_true.2 h]; rw [Bool.and_true]; simp [← hn])
  rw [hn] at hs
  rw [hS, hR]
  clear hn hS hR
  go_enter Tryz.func94, Tryz.ntmps94
  go_wp2
  go_loopg [3] (n + 1) (fun gk s3 wr => ∃ i : Nat, i ≤ n ∧ gk = n - i + 1 ∧ s3 = .int .i64 (i : Int) ∧ (∀ y ∈ s.take i, clsB 1 y = true) ∧ wr = w)
  case atStart => exact ⟨0, by omega, rfl, rfl, fun y hy => by simp at hy, rfl⟩
  case round =>
      obtain ⟨i, hi, rfl, rfl, hno, rfl⟩ := hrel
      have HNo := hid hno
      clear hno
      by_cases hin : i < n
      · have hi1 : i < s.length := by rw [HN.out]; exact hin
        obtain ⟨y, hy⟩ : ∃ y, s[i] = y := ⟨_, rfl⟩
        have hbyte : ∀ h : i < S.size, (S[i]'h).toNat = y.toNat := fun h => by rw [HByte.out i hi1 h, hy]
        have HI := hid (show s[i]? = some y from by rw [List.getElem?_eq_getElem hi1, hy])
        have HMe := hid (show y ∈ s from by rw [← hy]; exact List.getElem_mem hi1)
        have HT := hid (show ∀ z ∈ s.take (i + 1), z ∈ s.take i ∨ z = y from fun z hz => by
          rw [List.take_add_one, HI.out] at hz
          rcases List.mem_append.1 hz with h | h
          · exact .inl h
          · exact .inr (by simpa using h))
        have HRy := hid (HRf.out y HMe.out)
        have HNy := hid (show clsB 1 y = true → ∀ z ∈ s.take (i + 1), clsB 1 z = true from fun h z hz => by
          rcases HT.out z hz with q | q
          · exact HNo.out z q
          · rw [q]; exact h)
        have HCl := hid (show clsB 1 y = visB (y.toNat : Int) from rfl)
        have hy255 : y.toNat ≤ 255 := by have := y.toNat_lt; omega
        obtain ⟨N, hN⟩ : ∃ N, y.toNat = N := ⟨_, rfl⟩
        rw [hN] at HCl hbyte hy255
        clear hy hi1 hN
        by_cases hA : N < 33
        · have HV := hid (HRy.out (by rw [HCl.out]; exact decide_eq_false (by omega)))
          go_wp2
          go_ret
          exact ⟨by rw [HV.out]; rfl, rfl⟩
        by_cases hB : 126 < N
        · have HV := hid (HRy.out (by rw [HCl.out]; exact decide_eq_false (by omega)))
          go_wp2
          go_ret
          exact ⟨by rw [HV.out]; rfl, rfl⟩
        have HX := hid (HNy.out (by rw [HCl.out]; exact decide_eq_true (by omega)))
        go_wp2
        go_roundg (n - (i + 1) + 1)
        case measure => omega
        case rel => exact ⟨i + 1, by omega, rfl, by push_cast; rfl, HX.out, rfl⟩
      · obtain rfl : n = i := by omega
        have HV := hid (HRt.out (by have h9 := HNo.out; rw [List.take_of_length_le (by rw [HN.out]; exact Nat.le_refl _)] at h9; exact h9))
        by_cases h0 : n = 0
        · obtain rfl := HE0.out h0
          subst h0
          go_wp2
          go_ret
          exact ⟨by rw [HV.out]; rfl, rfl⟩
        · have hem := HEm.out h0
          rw [decide_eq_true (by omega)] at HV
          go_wp2
          go_ret
          exact ⟨by rw [HV.out]; rfl, rfl⟩
set_option maxRecDepth 20000 in
set_option maxHeartbeats 8000000 in
theorem words_any (s : B) (hs : s.length ≤ 70368744177664) (w : World) : Calls Tryz.prog 103 #[.string (str s)] w fun e w' => e = .returned (.bool (allB 2 s)) ∧ w' = w := by
  obtain ⟨n, hn⟩ : ∃ n, s.length = n := ⟨_, rfl⟩
  have HN := hid hn
  obtain ⟨S, hS⟩ : ∃ S, str s = S := ⟨_, rfl⟩
  have hSn : S.size = n := by rw [← hS, str_size, hn]
  have HByte := hid (show ∀ (k : Nat) (h : k < s.length) (h2 : k < S.size), S[k]'h2 = s[k]'h from fun k h h2 => by subst hS; rfl)
  have HEm := hid (show n ≠ 0 → S.toList.isEmpty = false from fun h => by
    rw [← hS]
    exact (str_empty (fun e => h (by rw [← hn, e]; rfl))).2)
  have HE0 := hid (show n = 0 → S = ⟨#[]⟩ from fun h => by
    rw [← hS, show s = [] from List.eq_nil_of_length_eq_zero (by omega)])
  obtain ⟨R, hR⟩ : ∃ R, allB 2 s = R := ⟨_, rfl⟩
  have HRf := hid (show ∀ y ∈ s, clsB 2 y = false → R = false from fun y hy h => by
    rw [← hR]
    unfold allB
    rw [List.all_eq_false.2 ⟨y, hy, by rw [h]; simp⟩])
  have HRt := hid (show (∀ y ∈ s, clsB 2 y = true) → R = true from fun h => by rw [← hR]; unfold allB; rw [List.all_eq_true.2 h])
  rw [hn] at hs
  rw [hS, hR]
  clear hn hS hR
  go_enter Tryz.func103, Tryz.ntmps103
  go_wp2
  go_loopg [3] (n + 1) (fun gk s3 wr => ∃ i : Nat, i ≤ n ∧ gk = n - i + 1 ∧ s3 = .int .i64 (i : Int) ∧ (∀ y ∈ s.take i, clsB 2 y = true) ∧ wr = w)
  case atStart => exact ⟨0, by omega, rfl, rfl, fun y hy => by simp at hy, rfl⟩
  case round =>
      obtain ⟨i, hi, rfl, rfl, hno, rfl⟩ := hrel
      have HNo := hid hno
      clear hno
      by_cases hin : i < n
      · have hi1 : i < s.length := by rw [HN.out]; exact hin
        obtain ⟨y, hy⟩ : ∃ y, s[i] = y := ⟨_, rfl⟩
        have hbyte : ∀ h : i < S.size, (S[i]'h).toNat = y.toNat := fun h => by rw [HByte.out i hi1 h, hy]
        have HI := hid (show s[i]? = some y from by rw [List.getElem?_eq_getElem hi1, hy])
        have HMe := hid (show y ∈ s from by rw [← hy]; exact List.getElem_mem hi1)
        have HT := hid (show ∀ z ∈ s.take (i + 1), z ∈ s.take i ∨ z = y from fun z hz => by
          rw [List.take_add_one, HI.out] at hz
          rcases List.mem_append.1 hz with h | h
          · exact .inl h
          · exact .inr (by simpa using h))
        have HRy := hid (HRf.out y HMe.out)
        have HNy := hid (show clsB 2 y = true → ∀ z ∈ s.take (i + 1), clsB 2 z = true from fun h z hz => by
          rcases HT.out z hz with q | q
          · exact HNo.out z q
          · rw [q]; exact h)
        have HCl := hid (show clsB 2 y = valB (y.toNat : Int) from rfl)
        have hy255 : y.toNat ≤ 255 := by have := y.toNat_lt; omega
        obtain ⟨N, hN⟩ : ∃ N, y.toNat = N := ⟨_, rfl⟩
        rw [hN] at HCl hbyte hy255
        clear hy hi1 hN
        by_cases hA : N = 9
        · have HX := hid (HNy.out (by rw [HCl.out]; exact decide_eq_true (by omega)))
          go_wp2
          go_roundg (n - (i + 1) + 1)
          case measure => omega
          case rel => exact ⟨i + 1, by omega, rfl, by push_cast; rfl, HX.out, rfl⟩
        have hq9 : ((N : Int) != 9) = true := by simp; omega
        by_cases hB : N < 32
        · have HV := hid (HRy.out (by rw [HCl.out]; exact decide_eq_false (by omega)))
          go_wp2
          go_ret
          exact ⟨by rw [HV.out]; rfl, rfl⟩
        by_cases hC : N ≤ 126
        · have HX := hid (HNy.out (by rw [HCl.out]; exact decide_eq_true (by omega)))
          go_wp2
          go_roundg (n - (i + 1) + 1)
          case measure => omega
          case rel => exact ⟨i + 1, by omega, rfl, by push_cast; rfl, HX.out, rfl⟩
        by_cases hD : N < 128
        · have HV := hid (HRy.out (by rw [HCl.out]; exact decide_eq_false (by omega)))
          go_wp2
          go_ret
          exact ⟨by rw [HV.out]; rfl, rfl⟩
        have HX := hid (HNy.out (by rw [HCl.out]; exact decide_eq_true (by omega)))
        go_wp2
        go_roundg (n - (i + 1) + 1)
        case measure => omega
        case rel => exact ⟨i + 1, by omega, rfl, by push_cast; rfl, HX.out, rfl⟩
      · obtain rfl : n = i := by omega
        have HV := hid (HRt.out (by have h9 := HNo.out; rw [List.take_of_length_le (by rw [HN.out]; exact Nat.le_refl _)] at h9; exact h9))
        go_wp2
        go_ret
        exact ⟨by rw [HV.out]; rfl, rfl⟩
end Go.Proofs.YtnlmjlfoeodleaaGreatDoor
/- The document's own: fields that may be written, lines of fields, a whole head. -/
namespace Go.Proofs.YtnlmjlfoeodleaaGreatDoor
open Go.RowKit

theorem dw_len (l : B) : (l.dropWhile bl).length ≤ l.length := (List.dropWhile_sublist bl).length_le
theorem trim_len (v : B) : (trimL v).length ≤ (v.dropWhile bl).length := by
  unfold trimL
  rw [List.length_reverse]
  exact Nat.le_trans (dw_len _) (by simp)
theorem trim_first {x : UInt8} {l : B} (h : bl x = true) : trimL (x :: l) ≠ x :: l := by
  intro e
  have h1 := trim_len (x :: l)
  rw [e, List.dropWhile_cons, if_pos h] at h1
  have h2 := dw_len l
  simp at h1
  omega
theorem trim_last {v : B} {y : UInt8} {l : B} (hv : v = l ++ [y]) (h : bl y = true) : trimL v ≠ v := by
  intro e
  have h1 : (trimL v).length < v.length := by
    unfold trimL
    rw [List.length_reverse]
    rcases Nat.lt_or_ge (v.dropWhile bl).length v.length with q | q
    · exact Nat.lt_of_le_of_lt (dw_len _) (by simpa using q)
    · have e2 : v.dropWhile bl = v := by
        have := List.takeWhile_append_dropWhile (p := bl) (l := v)
        have h3 := congrArg List.length this
        rw [List.length_append] at h3
        have h4 : (v.takeWhile bl) = [] := List.eq_nil_of_length_eq_zero (by omega)
        rw [h4, List.nil_append] at this
        exact this
      rw [e2, hv, List.reverse_append]
      simp only [List.reverse_cons, List.reverse_nil, List.nil_append, List.singleton_append, List.dropWhile_cons, h, if_true]
      have := dw_len l.reverse
      simp at this ⊢
      omega
  rw [e] at h1
  omega
theorem trim_none {x y : UInt8} {l l' v : B} (h0 : v = x :: l) (h1 : v = l' ++ [y]) (hx : bl x = false) (hy : bl y = false) : trimL v = v := by
  unfold trimL
  have e1 : v.dropWhile bl = v := by rw [h0, List.dropWhile_cons, if_neg (by simp [hx])]
  rw [e1]
  have e2 : v.reverse = y :: l'.reverse := by rw [h1]; simp
  rw [e2, List.dropWhile_cons, if_neg (by simp [hy]), ← e2, List.reverse_reverse]
theorem bl_eq (x : UInt8) : bl x = blankB (x.toNat : Int) := rfl
set_option maxRecDepth 20000 in
set_option maxHeartbeats 8000000 in
theorem rfields_any (fs : List (B × B)) (p : Option Addr) (n c : Nat) (hn : fs.length = n) (w : World) (hF : FAt w p fs) (hsz : ∀ f ∈ fs, f.1.length ≤ 1048576 ∧ f.2.length ≤ 1048576) (hnn : n ≤ 140737488355328) :
    Calls Tryz.prog 95 #[.slice p n c] w fun e w' => e = .returned (.bool (fineB fs)) ∧ w' = w := by
  obtain ⟨R, hR⟩ : ∃ R, fineB fs = R := ⟨_, rfl⟩
  have HR := hid hR
  have HF := hid hF
  have HSz := hid hsz
  have HN := hid hn
  rw [hR]
  clear hR hF hsz hn
  by_cases h64 : 64 < n
  · have h65 : (64 : Int) < (n : Int) := by omega
    have HV := hid (show R = false from by rw [← HR.out]; unfold fineB; rw [decide_eq_false (by rw [HN.out]; omega)]; rfl)
    go_enter Tryz.func95, Tryz.ntmps95
    go_wp2
    go_ret
    exact ⟨ret_bool HV.out.symm, rfl⟩
  have h65 : ¬ (64 : Int) < (n : Int) := by omega
  go_enter Tryz.func95, Tryz.ntmps95
  go_wp2
  go_loopg [3] (n + 1) (fun gk s3 wr => ∃ i : Nat, s3 = .int .i64 (i : Int) ∧ i ≤ n ∧ gk = n - i + 1 ∧ wr = w ∧ (fs.take i).all okF = true)
  case atStart => exact ⟨0, rfl, by omega, rfl, rfl, by simp⟩
  case round =>
    obtain ⟨i, rfl, hin, rfl, rfl, hall⟩ := hrel
    have HAll := hid hall
    clear hall
    by_cases hlt : i < n
    · obtain ⟨f, hf⟩ : ∃ f, fs[i]? = some f := ⟨fs[i]'(by rw [HN.out]; exact hlt), List.getElem?_eq_getElem (by rw [HN.out]; exact hlt)⟩
      have HFi := hid hf
      obtain ⟨g, o, hp, c0, c1⟩ := HF.out i f hf
      subst hp
      obtain ⟨fz1, fz2⟩ := HSz.out f (List.mem_of_getElem? hf)
      have hltI : (i : Int) < (n : Int) := by omega
      have HTk := hid (show ∀ w : World, _ from fun w => ristoken_any (str f.1) w (by rw [str_size]; unfold maxLen; omega))
      have HWdz := hid (show ∀ w : World, _ from fun w => words_any f.2 (by omega) w)
      have HBl := hid (show ∀ (x : Int) (w : World), _ from fun x w => rblank10_any x w)
      have HOk := hid (okF_eq f)
      have HVb := hid (show valueB f.2 = (allB 2 f.2 && decide (trimL f.2 = f.2)) from rfl)
      have HBad := hid (show okF f = false → R = false from fun h => by rw [← HR.out]; unfold fineB; rw [all_false HFi.out h]; simp)
      have HGood := hid (show okF f = true → (fs.take (i + 1)).all okF = true from fun h => by rw [List.take_add_one, HFi.out, List.all_append, HAll.out]; simp [h])
      obtain ⟨N, hN⟩ : ∃ N, str f.1 = N := ⟨_, rfl⟩
      rw [hN] at HTk HOk c0
      cases htk : isTok N with
      | false =>
        rw [htk] at HTk HOk
        have HV := hid (HBad.out (by rw [HOk.out]; rfl))
        obtain ⟨V, hV⟩ : ∃ V, str f.2 = V := ⟨_, rfl⟩
        rw [hV] at c1
        clear htk hf hN hV fz1 fz2 HWdz
        go_wp2_with (go_at_call 93; (with_reducible refine (HTk.out _).mono ?_); rintro e w1 ⟨rfl, hw1⟩; subst w1)
        go_ret
        exact ⟨ret_bool HV.out.symm, rfl⟩
      | true =>
        rw [htk] at HTk HOk
        cases hwd : allB 2 f.2 with
        | false =>
          rw [hwd] at HWdz HVb
          have HV := hid (HBad.out (by rw [HOk.out, HVb.out]; rfl))
          obtain ⟨V, hV⟩ : ∃ V, str f.2 = V := ⟨_, rfl⟩
          rw [hV] at c1 HWdz
          clear htk hf hN hV fz1 fz2 hwd
          go_wp2_with (first | (go_at_call 93; (with_reducible refine (HTk.out _).mono ?_); rintro e w1 ⟨rfl, hw1⟩; subst w1) | (go_at_call 103; (with_reducible refine (HWdz.out _).mono ?_); rintro e w1 ⟨rfl, hw1⟩; subst w1))
          go_ret
          exact ⟨ret_bool HV.out.symm, rfl⟩
        | true =>
          rw [hwd] at HWdz HVb
          by_cases hemp : f.2 = []
          · have HX := hid (HGood.out (by rw [HOk.out, HVb.out, hemp]; rfl))
            rw [hemp] at c1 HWdz
            clear htk hf hN fz1 fz2 hwd hemp
            go_wp2_with (first | (go_at_call 93; (with_reducible refine (HTk.out _).mono ?_); rintro e w1 ⟨rfl, hw1⟩; subst w1) | (go_at_call 103; (with_reducible refine (HWdz.out _).mono ?_); rintro e w1 ⟨rfl, hw1⟩; subst w1))
            go_roundg (n - (i + 1) + 1)
            case measure => omega
            case rel => exact ⟨i + 1, by go_num, by omega, rfl, rfl, HX.out⟩
          · obtain ⟨x, l, hx⟩ := List.exists_cons_of_ne_nil hemp
            obtain ⟨l', y, hy⟩ : ∃ l' y, f.2 = l' ++ [y] := ⟨f.2.dropLast, f.2.getLast hemp, (List.dropLast_concat_getLast hemp).symm⟩
            obtain ⟨e1, e2⟩ := str_empty hemp
            obtain ⟨m, hm⟩ : ∃ m, l'.length = m := ⟨_, rfl⟩
            have hlen : f.2.length = m + 1 := by rw [hy, List.length_append, hm]; rfl
            have hm2 : m ≤ 1048576 := by omega
            have hsV : (str f.2).size = m + 1 := by rw [str_size]; exact hlen
            have hb0 : ∀ h : 0 < (str f.2).size, ((str f.2)[0]'h).toNat = x.toNat := fun h => by
              have h9 : f.2[0]? = some x := by rw [hx]; rfl
              have h8 : (str f.2)[0]'h = f.2[0]'(by omega) := rfl
              rw [h8]
              exact congrArg UInt8.toNat (Option.some.inj ((List.getElem?_eq_getElem (by omega)).symm.trans h9))
            have hbL : ∀ h : m < (str f.2).size, ((str f.2)[m]'h).toNat = y.toNat := fun h => by
              have h9 : f.2[m]? = some y := by rw [hy, ← hm]; simp
              have h8 : (str f.2)[m]'h = f.2[m]'(by omega) := rfl
              rw [h8]
              exact congrArg UInt8.toNat (Option.some.inj ((List.getElem?_eq_getElem (by omega)).symm.trans h9))
            have HT1 := hid (show blankB (x.toNat : Int) = true → trimL f.2 ≠ f.2 from fun h => by rw [hx]; exact trim_first h)
            have HT2 := hid (show blankB (y.toNat : Int) = true → trimL f.2 ≠ f.2 from fun h => trim_last hy h)
            have HT3 := hid (show blankB (x.toNat : Int) = false → blankB (y.toNat : Int) = false → trimL f.2 = f.2 from fun h h' => trim_none hx hy h h')
            obtain ⟨V, hV⟩ : ∃ V, str f.2 = V := ⟨_, rfl⟩
            rw [hV] at c1 HWdz hsV e1 e2
            have hb0' : ∀ h : 0 < V.size, (V[0]'h).toNat = x.toNat := by subst hV; exact hb0
            have hbL' : ∀ h : m < V.size, (V[m]'h).toNat = y.toNat := by subst hV; exact hbL
            have hwm : IntKind.i64.wrap (((m + 1 : Nat) : Int) - 1) = (m : Int) := by rw [wrap_id (by omega) (by omega)]; omega
            obtain ⟨X, hX⟩ : ∃ X : Int, (x.toNat : Int) = X := ⟨_, rfl⟩
            obtain ⟨Y, hY⟩ : ∃ Y : Int, (y.toNat : Int) = Y := ⟨_, rfl⟩
            have hb0'' : ∀ h : 0 < V.size, (((V[0]'h).toNat : Nat) : Int) = X := fun h => by rw [hb0' h, hX]
            have hbL'' : ∀ h : m < V.size, (((V[m]'h).toNat : Nat) : Int) = Y := fun h => by rw [hbL' h, hY]
            rw [hX] at HT1 HT3
            rw [hY] at HT2 HT3
            clear hb0 hbL hb0' hbL' htk hf hN hV fz1 fz2 hwd hemp hx hy hm hlen hX hY
            cases hbx : blankB X with
            | true =>
              have HV := hid (HBad.out (by rw [HOk.out, HVb.out, decide_eq_false (HT1.out hbx)]; rfl))
              have HB1 := hid (show ∀ w : World, _ from fun w => HBl.out X w)
              rw [hbx] at HB1
              clear hbx
              go_wp2_with (first | (go_at_call 93; (with_reducible refine (HTk.out _).mono ?_); rintro e w1 ⟨rfl, hw1⟩; subst w1) | (go_at_call 103; (with_reducible refine (HWdz.out _).mono ?_); rintro e w1 ⟨rfl, hw1⟩; subst w1) | (go_at_call 126; (with_reducible refine (HB1.out _).mono ?_); rintro e w1 ⟨rfl, hw1⟩; subst w1))
              go_ret
              exact ⟨ret_bool HV.out.symm, rfl⟩
            | false =>
              have HB1 := hid (show ∀ w : World, _ from fun w => HBl.out X w)
              rw [hbx] at HB1
              cases hby : blankB Y with
              | true =>
                have HV := hid (HBad.out (by rw [HOk.out, HVb.out, decide_eq_false (HT2.out hby)]; rfl))
                have HB2 := hid (show ∀ w : World, _ from fun w => HBl.out Y w)
                rw [hby] at HB2
                clear hbx hby
                go_wp2_with (first | (go_at_call 93; (with_reducible refine (HTk.out _).mono ?_); rintro e w1 ⟨rfl, hw1⟩; subst w1) | (go_at_call 103; (with_reducible refine (HWdz.out _).mono ?_); rintro e w1 ⟨rfl, hw1⟩; subst w1) | (go_at_call 126; (with_reducible refine (HB1.out _).mono ?_); rintro e w1 ⟨rfl, hw1⟩; subst w1) | (go_at_call 126; (with_reducible refine (HB2.out _).mono ?_); rintro e w1 ⟨rfl, hw1⟩; subst w1))
                go_ret
                exact ⟨ret_bool HV.out.symm, rfl⟩
              | false =>
                have HX := hid (HGood.out (by rw [HOk.out, HVb.out, decide_eq_true (HT3.out hbx hby)]; rfl))
                have HB2 := hid (show ∀ w : World, _ from fun w => HBl.out Y w)
                rw [hby] at HB2
                clear hbx hby
                go_wp2_with (first | (go_at_call 93; (with_reducible refine (HTk.out _).mono ?_); rintro e w1 ⟨rfl, hw1⟩; subst w1) | (go_at_call 103; (with_reducible refine (HWdz.out _).mono ?_); rintro e w1 ⟨rfl, hw1⟩; subst w1) | (go_at_call 126; (with_reducible refine (HB1.out _).mono ?_); rintro e w1 ⟨rfl, hw1⟩; subst w1) | (go_at_call 126; (with_reducible refine (HB2.out _).mono ?_); rintro e w1 ⟨rfl, hw1⟩; subst w1))
                go_roundg (n - (i + 1) + 1)
                case measure => omega
                case rel => exact ⟨i + 1, by go_num, by omega, rfl, rfl, HX.out⟩
    · obtain rfl : i = n := by omega
      have HV := hid (show R = true from by rw [← HR.out]; unfold fineB; have h9 := HAll.out; rw [List.take_of_length_le (by rw [HN.out]; exact Nat.le_refl _)] at h9; rw [h9, decide_eq_true (by rw [HN.out]; omega)]; rfl)
      go_wp2
      go_ret
      exact ⟨ret_bool HV.out.symm, rfl⟩
end Go.Proofs.YtnlmjlfoeodleaaGreatDoor
/- The document's own: lines of fields, whole heads, requests and responses written. -/
namespace Go.Proofs.YtnlmjlfoeodleaaGreatDoor
open Go.RowKit

theorem OwnM.lower {w : World} {b b' : Nat} {v : Value} {acc : B} (h : OwnM w b v acc) (hb : b' ≤ b) : OwnM w b' v acc := by
  obtain ⟨g, cap, cur, fz, h1, h2, h3⟩ := h
  exact ⟨g, cap, cur, fz, h1, Nat.le_trans hb h2, h3⟩
set_option maxRecDepth 20000 in
set_option maxHeartbeats 8000000 in
theorem rlines_any (acc0 : B) (v0 : Value) (fs : List (B × B)) (p : Option Addr) (n c : Nat) (hn : fs.length = n) (w : World) (base : Nat) (ho : OwnM w base v0 acc0) (hbase : base ≤ w.heap.size) (hpb : ∀ a, p = some a → fs ≠ [] → a.block < base) (hF : FAt w p fs) (hsz : ∀ f ∈ fs, f.1.length ≤ 1048576 ∧ f.2.length ≤ 1048576) (hnn : n ≤ 64) (hf1 : acc0.length ≤ 4194304) :
    Calls Tryz.prog 127 #[v0, .slice p n c] w fun e w' => ∃ v, e = .returned v ∧ OwnM w' base v (acc0 ++ fs.flatMap fieldW) ∧ Below base w w' := by
  have HF := hid hF
  have HSz := hid hsz
  have HN := hid hn
  have HL := hid (show ∀ i, ((fs.take i).flatMap fieldW).length ≤ 134217984 from fun i => by
    have h1 := flat_len (fs.take i) (fun x hx => hsz x (List.mem_of_mem_take hx))
    have h2 : (fs.take i).length ≤ n := by rw [← hn]; exact List.length_take_le' _ _
    have h3 : (fs.take i).length * 2097156 ≤ 64 * 2097156 := Nat.mul_le_mul_right _ (by omega)
    omega)
  have HPb := hid hpb
  obtain ⟨q0, c0, hv0⟩ := ownM_slice ho
  have HO0 := hid ho
  obtain ⟨L0, hL0⟩ : ∃ L0, acc0.length = L0 := ⟨_, rfl⟩
  rw [hL0] at hv0 hf1
  have HL0 := hid hL0
  subst hv0
  clear hF hsz hn ho hL0 hpb
  go_enter Tryz.func127, Tryz.ntmps127
  go_wp2
  go_loopg [0, 5] (n + 1) (fun gk s0 s5 wr => ∃ (i : Nat) (q : Option Addr) (m d : Nat), s0 = .slice q m d ∧ s5 = .int .i64 (i : Int) ∧ i ≤ n ∧ gk = n - i + 1 ∧ m = (acc0 ++ (fs.take i).flatMap fieldW).length ∧ OwnM wr base (.slice q m d) (acc0 ++ (fs.take i).flatMap fieldW) ∧ Below base w wr)
  case atStart => exact ⟨0, q0, L0, c0, rfl, rfl, by omega, rfl, by simp [HL0.out], by simpa using HO0.out, Below.refl _ _⟩
  case round =>
    obtain ⟨i, q, m, d, rfl, rfl, hin, rfl, hm, ho, hb⟩ := hrel
    have HB := hid hb
    have HO := hid ho
    have HM := hid hm
    have hml : m ≤ 150000000 := by
      have h1 := HL.out i
      have h2 := HL0.out
      rw [hm, List.length_append]
      omega
    obtain ⟨acc, hacc⟩ : ∃ acc, acc0 ++ (fs.take i).flatMap fieldW = acc := ⟨_, rfl⟩
    have HAcc := hid hacc
    rw [hacc] at HO HM
    clear hb ho hm hacc
    by_cases hlt : i < n
    · obtain ⟨f, hf⟩ : ∃ f, fs[i]? = some f := ⟨fs[i]'(by rw [HN.out]; exact hlt), List.getElem?_eq_getElem (by rw [HN.out]; exact hlt)⟩
      have HFi := hid hf
      obtain ⟨g, o, hp, k0w, k1w⟩ := HF.out i f hf
      have hgb : g < base := HPb.out _ hp (fun e => by rw [e] at hf; simp at hf)
      subst hp
      have HKp := hid (show ∀ W : World, Below base w W → W.cell? ⟨g, o + i * 2, none⟩ = some (.string (str f.1)) ∧ W.cell? ⟨g, o + i * 2 + 1, none⟩ = some (.string (str f.2)) from fun W hb => ⟨(hb.cell (p := ⟨g, o + i * 2, none⟩) hgb).trans k0w, (hb.cell (p := ⟨g, o + i * 2 + 1, none⟩) hgb).trans k1w⟩)
      obtain ⟨k0, k1⟩ := HKp.out _ HB.out
      obtain ⟨fz1, fz2⟩ := HSz.out f (List.mem_of_getElem? hf)
      have hltI : (i : Int) < (n : Int) := by omega
      have HFw := hid (show ((str f.1 ++ ⟨#[58, 32]⟩) ++ str f.2) ++ ⟨#[13, 10]⟩ = str (fieldW f) from by
        rw [show (⟨#[58, 32]⟩ : ByteArray) = str [58, 32] from rfl, show (⟨#[13, 10]⟩ : ByteArray) = str [13, 10] from rfl, str_app, str_app, str_app]
        exact congrArg str (by unfold fieldW; simp))
      have hs1 : (str f.1).size ≤ 1048576 := by rw [str_size]; exact fz1
      have hs2 : (str f.2).size ≤ 1048576 := by rw [str_size]; exact fz2
      have HFz := hid (show (fieldW f).length ≤ 2097156 from by rw [fieldW_len]; omega)
      obtain ⟨N, hN⟩ : ∃ N, str f.1 = N := ⟨_, rfl⟩
      obtain ⟨V, hV⟩ : ∃ V, str f.2 = V := ⟨_, rfl⟩
      rw [hN] at HFw k0 hs1 k0w HKp
      rw [hV] at HFw k1 hs2 k1w HKp
      have hS0 : RdF wr.drew g (o + i * 2) N V := ⟨k0, k1⟩
      have hcat1 : (N ++ (⟨#[58, 32]⟩ : ByteArray)).size = N.size + 2 := by rw [ByteArray.size_append]; rfl
      have hcat2 : ((N ++ (⟨#[58, 32]⟩ : ByteArray)) ++ V).size = N.size + 2 + V.size := by rw [ByteArray.size_append, hcat1]
      have HO1 := hid (HO.out.keep (below_drewN' wr 1))
      clear hf hN hV fz1 fz2 k0w k1w
      go_wp2
      refine wp_region_noPanic ?_
      refine any_begin 16 (by kernel_rfl) (by kernel_rfl) ?_
      refine late_begin (fun U => RdF U g (o + i * 2) N V) (fun j => decide (15 ≤ j)) hS0 (fun hS => ?_)
      refine late_take (i := 0) (some 12) rfl rfl (by kernel_rfl) (by kernel_rfl) (by kernel_rfl) (by kernel_rfl) (by kernel_rfl) (fun _ _ _ h => h) (by rfl) (v := ?v0w) ?hy0w hS ?rest0w
      case hy0w => intro w0 hSw; obtain ⟨a0, a1⟩ := hSw; go_simp; try with_reducible rfl
      simp only [Act.put, List.setIfInBounds_toArray, List.set_cons_zero, List.set_cons_succ]
      refine late_take (i := 1) (some 13) rfl rfl (by kernel_rfl) (by kernel_rfl) (by kernel_rfl) (by kernel_rfl) (by kernel_rfl) (fun _ _ _ h => h) (by rfl) (v := ?v1w) ?hy1w hS ?rest1w
      case hy1w => intro w0 hSw; obtain ⟨a0, a1⟩ := hSw; go_simp; try with_reducible rfl
      simp only [Act.put, List.setIfInBounds_toArray, List.set_cons_zero, List.set_cons_succ]
      refine late_take (i := 2) (some 14) rfl rfl (by kernel_rfl) (by kernel_rfl) (by kernel_rfl) (by kernel_rfl) (by kernel_rfl) (fun _ _ _ h => h) (by rfl) (v := ?v2w) ?hy2w hS ?rest2w
      case hy2w => intro w0 hSw; obtain ⟨a0, a1⟩ := hSw; go_simp; try with_reducible rfl
      simp only [Act.put, List.setIfInBounds_toArray, List.set_cons_zero, List.set_cons_succ]
      refine late_take (i := 3) (some 15) rfl rfl (by kernel_rfl) (by kernel_rfl) (by kernel_rfl) (by kernel_rfl) (by kernel_rfl) (fun _ _ _ h => h) (by rfl) (v := ?v3w) ?hy3w hS ?rest3w
      case hy3w => intro w0 hSw; obtain ⟨a0, a1⟩ := hSw; go_simp; try with_reducible rfl
      simp only [Act.put, List.setIfInBounds_toArray, List.set_cons_zero, List.set_cons_succ]
      refine late_take (i := 4) (some 16) rfl rfl (by kernel_rfl) (by kernel_rfl) (by kernel_rfl) (by kernel_rfl) (by kernel_rfl) (fun _ _ _ h => h) (by rfl) (v := ?v4w) ?hy4w hS ?rest4w
      case hy4w => intro w0 hSw; obtain ⟨a0, a1⟩ := hSw; go_simp; try with_reducible rfl
      simp only [Act.put, List.setIfInBounds_toArray, List.set_cons_zero, List.set_cons_succ]
      refine late_take (i := 5) (some 17) rfl rfl (by kernel_rfl) (by kernel_rfl) (by kernel_rfl) (by kernel_rfl) (by kernel_rfl) (fun _ _ _ h => h) (by rfl) (v := ?v5w) ?hy5w hS ?rest5w
      case hy5w => intro w0 hSw; obtain ⟨a0, a1⟩ := hSw; go_simp; try with_reducible rfl
      simp only [Act.put, List.setIfInBounds_toArray, List.set_cons_zero, List.set_cons_succ]
      refine late_take (i := 6) (some 18) rfl rfl (by kernel_rfl) (by kernel_rfl) (by kernel_rfl) (by kernel_rfl) (by kernel_rfl) (fun _ _ _ h => h) (by rfl) (v := ?v6w) ?hy6w hS ?rest6w
      case hy6w => intro w0 hSw; obtain ⟨a0, a1⟩ := hSw; go_simp; first | (rw [if_neg (by omega)]) | (with_reducible rfl)
      simp only [Act.put, List.setIfInBounds_toArray, List.set_cons_zero, List.set_cons_succ]
      refine late_take (i := 7) (some 19) rfl rfl (by kernel_rfl) (by kernel_rfl) (by kernel_rfl) (by kernel_rfl) (by kernel_rfl) (fun _ _ _ h => h) (by rfl) (v := ?v7w) ?hy7w hS ?rest7w
      case hy7w => intro w0 hSw; obtain ⟨a0, a1⟩ := hSw; go_simp; try with_reducible rfl
      simp only [Act.put, List.setIfInBounds_toArray, List.set_cons_zero, List.set_cons_succ]
      refine late_take (i := 8) (some 20) rfl rfl (by kernel_rfl) (by kernel_rfl) (by kernel_rfl) (by kernel_rfl) (by kernel_rfl) (fun _ _ _ h => h) (by rfl) (v := ?v8w) ?hy8w hS ?rest8w
      case hy8w => intro w0 hSw; obtain ⟨a0, a1⟩ := hSw; go_simp; try with_reducible rfl
      simp only [Act.put, List.setIfInBounds_toArray, List.set_cons_zero, List.set_cons_succ]
      refine late_take (i := 9) (some 21) rfl rfl (by kernel_rfl) (by kernel_rfl) (by kernel_rfl) (by kernel_rfl) (by kernel_rfl) (fun _ _ _ h => h) (by rfl) (v := ?v9w) ?hy9w hS ?rest9w
      case hy9w => intro w0 hSw; obtain ⟨a0, a1⟩ := hSw; go_simp; try with_reducible rfl
      simp only [Act.put, List.setIfInBounds_toArray, List.set_cons_zero, List.set_cons_succ]
      refine late_take (i := 10) (some 22) rfl rfl (by kernel_rfl) (by kernel_rfl) (by kernel_rfl) (by kernel_rfl) (by kernel_rfl) (fun _ _ _ h => h) (by rfl) (v := ?v10w) ?hy10w hS ?rest10w
      case hy10w => intro w0 hSw; obtain ⟨a0, a1⟩ := hSw; go_simp; try with_reducible rfl
      simp only [Act.put, List.setIfInBounds_toArray, List.set_cons_zero, List.set_cons_succ]
      refine late_take (i := 11) (some 23) rfl rfl (by kernel_rfl) (by kernel_rfl) (by kernel_rfl) (by kernel_rfl) (by kernel_rfl) (fun _ _ _ h => h) (by rfl) (v := ?v11w) ?hy11w hS ?rest11w
      case hy11w => intro w0 hSw; obtain ⟨a0, a1⟩ := hSw; go_simp; try with_reducible rfl
      simp only [Act.put, List.setIfInBounds_toArray, List.set_cons_zero, List.set_cons_succ]
      refine late_take (i := 12) (some 24) rfl rfl (by kernel_rfl) (by kernel_rfl) (by kernel_rfl) (by kernel_rfl) (by kernel_rfl) (fun _ _ _ h => h) (by rfl) (v := ?v12w) ?hy12w hS ?rest12w
      case hy12w => intro w0 hSw; obtain ⟨a0, a1⟩ := hSw; go_simp; first | (rw [if_neg (by omega)]) | (with_reducible rfl)
      simp only [Act.put, List.setIfInBounds_toArray, List.set_cons_zero, List.set_cons_succ]
      refine late_take (i := 13) (some 25) rfl rfl (by kernel_rfl) (by kernel_rfl) (by kernel_rfl) (by kernel_rfl) (by kernel_rfl) (fun _ _ _ h => h) (by rfl) (v := ?v13w) ?hy13w hS ?rest13w
      case hy13w => intro w0 hSw; obtain ⟨a0, a1⟩ := hSw; go_simp; first | (rw [if_neg (by omega)]) | (with_reducible rfl)
      simp only [Act.put, List.setIfInBounds_toArray, List.set_cons_zero, List.set_cons_succ]
      refine wpAnyD_one (i := 14) (by kernel_rfl) rfl (fun K hK => ?_)
      rw [if_pos (by rfl)]
      refine wp_append_M (.tmp 12) (.tmp 25) rfl base (.slice q m d) acc (fieldW f) (by go_simp) (by exact HO1.out) (by go_simp; rw [HFw.out]) (by have := HFz.out; have := HM.out; omega) (Nat.le_trans hbase HB.out.size) ?_
      intro v' w2 hown hgr
      have HO2 := hid hown
      have HB2 := hid (HB.out.trans (OwnM.below HO.out (Nat.le_trans hbase HB.out.size) (show wr.grownBy w2 _ from ⟨hgr.os, hgr.tape, hgr.output, hgr.size, hgr.block⟩)))
      obtain ⟨q2, c2, rfl⟩ := ownM_slice hown
      clear hown hgr
      show K (Act.put _ (some 26) _) _
      refine hK _ _ ⟨fun _ => ⟨(HKp.out _ HB2.out).1, (HKp.out _ HB2.out).2⟩, ?_⟩
      clear hK K
      simp only [Act.put, List.setIfInBounds_toArray, List.set_cons_zero, List.set_cons_succ]
      refine late_over (by kernel_rfl) ?_
      refine any_take (i := 15) (some 0) rfl rfl (by kernel_rfl) (by kernel_rfl) (by kernel_rfl) (fun _ _ _ h => h) (by rfl) (v := ?v15w) ?hy15w ?rest15w
      case hy15w => intro w0; go_simp; try with_reducible rfl
      simp only [Act.put, List.setIfInBounds_toArray, List.set_cons_zero]
      refine any_done (by kernel_rfl) ?_ _
      refine NoPanic.normal ?_
      go_wp2
      go_roundg (n - (i + 1) + 1)
      case measure => omega
      case rel => exact ⟨i + 1, q2, _, c2, rfl, by go_num, by omega, rfl, by rw [take_flat HFi.out, ← List.append_assoc, HAcc.out, List.length_append], by rw [take_flat HFi.out, ← List.append_assoc, HAcc.out]; have h9 := HO2.out; simp only [List.length_append] at h9; exact h9, HB2.out⟩
    · obtain rfl : i = n := by omega
      have hltI : ¬ (i : Int) < (i : Int) := by omega
      have HA2 := hid (show acc = acc0 ++ fs.flatMap fieldW from by rw [← HAcc.out, List.take_of_length_le (by rw [HN.out]; exact Nat.le_refl _)])
      clear hlt
      go_wp2
      go_ret
      exact ⟨_, rfl, by rw [← HA2.out]; exact HO.out, HB.out⟩
theorem fat_blocks {w : World} {p : Option Addr} {fs : List (B × B)} (h : FAt w p fs) : ∀ a, p = some a → fs ≠ [] → a.block < w.heap.size := by
  intro a e hne
  cases fs with
  | nil => exact absurd rfl hne
  | cons f l =>
    obtain ⟨g, o, e2, hc, _⟩ := h 0 f rfl
    rw [e] at e2
    cases e2
    exact lt_of_cell hc
set_option maxRecDepth 20000 in
set_option maxHeartbeats 8000000 in
theorem rwhole_ok (first : B) (fs : List (B × B)) (p : Option Addr) (n c : Nat) (hn : fs.length = n) (w : World) (hF : FAt w p fs) (hsz : ∀ f ∈ fs, f.1.length ≤ 1048576 ∧ f.2.length ≤ 1048576) (hnn : n ≤ 64) (hf1 : first.length ≤ 4194300) (hbig0 : (headW first fs).length ≤ 65536) :
    Calls Tryz.prog 96 #[.string (str first), .slice p n c] w fun e w' => ∃ g d, e = .returned (.tuple #[.slice (some ⟨g, 0, none⟩) (headW first fs).length d, .int .i64 0]) ∧ ArgAt w' (some ⟨g, 0, none⟩) (headW first fs) ∧ Below w.heap.size w w' := by
  obtain ⟨v1, W1, hcv, hO1, hB1⟩ := bytes_ofM (first ++ [13, 10]) w (by simp; omega)
  have HLn := hid (rlines_any (first ++ [13, 10]) v1 fs p n c hn W1 w.heap.size hO1 hB1.size (fat_blocks hF) (hF.next hB1) hsz hnn (by simp; omega))
  have HB1 := hid hB1
  rw [← str_app first [13, 10]] at hcv
  have hfs : (str first).size = first.length := str_size first
  have HHd := hid (headW_eq first fs)
  have hfl := flat_len fs hsz
  have hfl2 : fs.length * 2097156 ≤ 64 * 2097156 := Nat.mul_le_mul_right _ (by omega)
  have HLen := hid (show ((first ++ [13, 10]) ++ fs.flatMap fieldW).length ≤ 150000000 from by simp only [List.length_append, List.length_cons, List.length_nil]; omega)
  obtain ⟨q1, c1, hq1⟩ := ownM_slice hO1
  subst hq1
  have hsl : (first ++ [13, 10]).length = first.length + 2 := by simp
  rw [hsl] at hcv HLn
  obtain ⟨F0, hF0⟩ : ∃ F0, first.length = F0 := ⟨_, rfl⟩
  rw [hF0] at hcv HLn hfs hf1
  obtain ⟨H, hH⟩ : ∃ H, headW first fs = H := ⟨_, rfl⟩
  rw [hH] at HHd
  rw [hH] at hbig0
  rw [hH]
  obtain ⟨S, hS⟩ : ∃ S, str first = S := ⟨_, rfl⟩
  rw [hS] at hcv hfs
  rw [hS]
  obtain ⟨acc, hacc⟩ : ∃ acc, (first ++ [13, 10]) ++ fs.flatMap fieldW = acc := ⟨_, rfl⟩
  rw [hacc] at HLn HLen HHd
  clear hF hsz hn hH hS hF0 hO1 hB1 hsl hfl hfl2 hacc
  have hcv2 : (convert 9 32 (.string (S ++ ⟨#[13, 10]⟩))).run Tryz.prog w = .ok (.slice q1 (F0 + 2) c1) W1 := hcv
  clear hcv
  obtain ⟨L, hL⟩ : ∃ L, H.length = L := ⟨_, rfl⟩
  have HLe := hid hL
  have HAL := hid (show acc.length + 2 = L from by rw [← hL, HHd.out]; simp)
  rw [hL] at hbig0
  rw [hL]
  clear hL
  have hbigI : ¬ (65536 : Int) < (L : Int) := by omega
  clear hbig0
  go_enter Tryz.func96, Tryz.ntmps96
  go_wp2_with (first | (go_at_call 127; clear hcv2; (with_reducible refine HLn.out.mono ?_); rintro e w3 ⟨v3, rfl, hO3, hB3⟩; have HB3 := hid (HB1.out.trans hB3); have HO3 := hid hO3; obtain ⟨q3, c3, rfl⟩ := ownM_slice hO3; clear hO3 hB3) | (at_builtin; refine wpList_append_M rfl (.tmp 11) (.const (.string ⟨#[13, 10]⟩)) rfl w.heap.size (.slice q3 acc.length c3) acc [13, 10] (by go_simp) HO3.out rfl (by have := HLen.out; simp; omega) HB3.out.size ?_; intro v4 w4 hO4 hgr; rw [← HHd.out] at hO4; have HB4 := hid (HB3.out.trans (OwnM.below HO3.out HB3.out.size hgr)); obtain ⟨g4, d4, rfl, _, hA4⟩ := hO4.arg; have HA4 := hid hA4; rw [HLe.out]; clear hO4 hgr hA4))
  go_ret2
  exact ⟨g4, d4, rfl, HA4.out, HB4.out⟩
set_option maxRecDepth 20000 in
set_option maxHeartbeats 8000000 in
theorem rwhole_big (first : B) (fs : List (B × B)) (p : Option Addr) (n c : Nat) (hn : fs.length = n) (w : World) (hF : FAt w p fs) (hsz : ∀ f ∈ fs, f.1.length ≤ 1048576 ∧ f.2.length ≤ 1048576) (hnn : n ≤ 64) (hf1 : first.length ≤ 4194300) (hbig0 : ¬ (headW first fs).length ≤ 65536) :
    Calls Tryz.prog 96 #[.string (str first), .slice p n c] w fun e w' => e = .returned (.tuple #[.slice none 0 0, .int .i64 22]) ∧ Below w.heap.size w w' := by
  obtain ⟨v1, W1, hcv, hO1, hB1⟩ := bytes_ofM (first ++ [13, 10]) w (by simp; omega)
  have HLn := hid (rlines_any (first ++ [13, 10]) v1 fs p n c hn W1 w.heap.size hO1 hB1.size (fat_blocks hF) (hF.next hB1) hsz hnn (by simp; omega))
  have HB1 := hid hB1
  rw [← str_app first [13, 10]] at hcv
  have hfs : (str first).size = first.length := str_size first
  have HHd := hid (headW_eq first fs)
  have hfl := flat_len fs hsz
  have hfl2 : fs.length * 2097156 ≤ 64 * 2097156 := Nat.mul_le_mul_right _ (by omega)
  have HLen := hid (show ((first ++ [13, 10]) ++ fs.flatMap fieldW).length ≤ 150000000 from by simp only [List.length_append, List.length_cons, List.length_nil]; omega)
  obtain ⟨q1, c1, hq1⟩ := ownM_slice hO1
  subst hq1
  have hsl : (first ++ [13, 10]).length = first.length + 2 := by simp
  rw [hsl] at hcv HLn
  obtain ⟨F0, hF0⟩ : ∃ F0, first.length = F0 := ⟨_, rfl⟩
  rw [hF0] at hcv HLn hfs hf1
  obtain ⟨H, hH⟩ : ∃ H, headW first fs = H := ⟨_, rfl⟩
  rw [hH] at HHd
  rw [hH] at hbig0
  obtain ⟨S, hS⟩ : ∃ S, str first = S := ⟨_, rfl⟩
  rw [hS] at hcv hfs
  rw [hS]
  obtain ⟨acc, hacc⟩ : ∃ acc, (first ++ [13, 10]) ++ fs.flatMap fieldW = acc := ⟨_, rfl⟩
  rw [hacc] at HLn HLen HHd
  clear hF hsz hn hH hS hF0 hO1 hB1 hsl hfl hfl2 hacc
  have hcv2 : (convert 9 32 (.string (S ++ ⟨#[13, 10]⟩))).run Tryz.prog w = .ok (.slice q1 (F0 + 2) c1) W1 := hcv
  clear hcv
  obtain ⟨L, hL⟩ : ∃ L, H.length = L := ⟨_, rfl⟩
  have HLe := hid hL
  have HAL := hid (show acc.length + 2 = L from by rw [← hL, HHd.out]; simp)
  rw [hL] at hbig0
  clear hL
  have hbigI : (65536 : Int) < (L : Int) := by omega
  clear hbig0
  go_enter Tryz.func96, Tryz.ntmps96
  go_wp2_with (first | (go_at_call 127; clear hcv2; (with_reducible refine HLn.out.mono ?_); rintro e w3 ⟨v3, rfl, hO3, hB3⟩; have HB3 := hid (HB1.out.trans hB3); have HO3 := hid hO3; obtain ⟨q3, c3, rfl⟩ := ownM_slice hO3; clear hO3 hB3) | (at_builtin; refine wpList_append_M rfl (.tmp 11) (.const (.string ⟨#[13, 10]⟩)) rfl w.heap.size (.slice q3 acc.length c3) acc [13, 10] (by go_simp) HO3.out rfl (by have := HLen.out; simp; omega) HB3.out.size ?_; intro v4 w4 hO4 hgr; rw [← HHd.out] at hO4; have HB4 := hid (HB3.out.trans (OwnM.below HO3.out HB3.out.size hgr)); obtain ⟨g4, d4, rfl, _, hA4⟩ := hO4.arg; have HA4 := hid hA4; rw [HLe.out]; clear hO4 hgr hA4))
  go_ret2
  exact ⟨rfl, HB4.out⟩
end Go.Proofs.YtnlmjlfoeodleaaGreatDoor
