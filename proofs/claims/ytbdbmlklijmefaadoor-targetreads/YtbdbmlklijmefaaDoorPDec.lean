/- Rows of bytes made with room; the program's texts without codes; which texts are made of plain bytes and codes. -/
import Derived.Test.YtbdbmlklijmefaaDoorPCode
import Derived.Test.YtbdbmlklijmefaaDoorRRow
import Derived.Laws.MakeOwn
namespace Go.Proofs.YtbdbmlklijmefaaDoor
open Go.RowKit

theorem below_grown {w w' : World} (h : w.grownBy w' none) : Below w.heap.size w w' := ⟨h.os, h.tape, h.output, h.size, fun k hk => h.block k hk (by simp)⟩
theorem mk_row (w : World) (n : Nat) (hn : n ≤ 140737488355328) : ∃ w', (Instr.makeSlice 63 (.int .i64 0) (.int .i64 (n : Int))).run Tryd.prog w = .ok (.slice (some ⟨w.heap.size, 0, none⟩) 0 n) w' ∧ Own w' w.heap.size (.slice (some ⟨w.heap.size, 0, none⟩) 0 n) [] ∧ Below w.heap.size w w' := by
  obtain ⟨i0, hi0, hz0, hz1, hz2⟩ := info_parts infoB
  obtain ⟨w', h1, h2, h3⟩ := run_make_own (P := Tryd.prog) w w.heap.size 63 5 i0 _ 1 Tryd.underlying63 hi0 hz0 hz1 .i64 .i64 n (by rw [hz2]; omega) (by unfold maxLen; omega) (Nat.le_refl _)
  exact ⟨w', h1, h2, below_grown h3⟩
theorem decP_some : ∀ {l : B}, codeO l = true → decP l = UInt8.ofNat (codeN l) :: decP (l.drop 3)
  | [], h => by simp [codeO, codeI] at h
  | [c], h => by simp [codeO, codeI] at h
  | [c, d], h => by simp [codeO, codeI] at h
  | c :: a :: b :: r, h => by
    unfold codeO at h
    unfold codeN
    rw [decP]
    cases hv : codeOf c a b with
    | none => rw [codeI_none hv] at h; simp at h
    | some v =>
      rw [codeI_some hv, if_neg (by omega)]
      simp
theorem decP_none : ∀ {c : UInt8} {l : B}, codeO (c :: l) = false → decP (c :: l) = c :: decP l
  | c, [], h => rfl
  | c, [d], h => rfl
  | c, a :: b :: r, h => by
    unfold codeO at h
    rw [decP]
    cases hv : codeOf c a b with
    | none => rfl
    | some v =>
      rw [codeI_some hv] at h
      simp at h
theorem codeO_long {l : B} (h : codeO l = true) : 3 ≤ l.length := by
  rcases Nat.lt_or_ge l.length 3 with q | q
  · unfold codeO at h
    rw [codeI_short q] at h
    simp at h
  · exact q
theorem ext_drop (s : B) (i n : Nat) (h : s.length = n) : (str s).extract i n = str (s.drop i) := by
  rw [ext_str, List.take_of_length_le (by rw [List.length_drop]; omega)]
set_option maxRecDepth 20000 in
set_option maxHeartbeats 8000000 in
theorem decoded_any (s : B) (hs : s.length ≤ 35184372088832) (w : World) : Calls Tryd.prog 43 #[.string (str s)] w fun e w' => e = .returned (.string (str (decP s))) ∧ Below w.heap.size w w' := by
  obtain ⟨i0, hi0, hz0, hz1, hz2⟩ := info_parts infoB
  obtain ⟨n, hn⟩ : ∃ n, s.length = n := ⟨_, rfl⟩
  have HN := hid hn
  obtain ⟨S, hS⟩ : ∃ S, str s = S := ⟨_, rfl⟩
  have hSn : S.size = n := by rw [← hS, str_size, hn]
  have HByte := hid (show ∀ (k : Nat) (h : k < s.length) (h2 : k < S.size), S[k]'h2 = s[k]'h from fun k h h2 => by subst hS; rfl)
  have HCo := hid (show ∀ i, i ≤ n → ∀ w, _ from fun i hi => pcode_any (s.drop i) (by rw [List.length_drop]; omega))
  have HEx := hid (show ∀ i, S.extract i n = str (s.drop i) from fun i => by rw [← hS]; exact ext_drop s i n hn)
  obtain ⟨R, hR0⟩ : ∃ R, decP s = R := ⟨_, rfl⟩
  have HR0 := hid hR0
  rw [hn] at hs
  rw [hS, hR0]
  clear hn hS hR0
  obtain ⟨W0, hmk, hown0, hbel0⟩ := mk_row w n (by omega)
  have HO0 := hid hown0
  have HB0 := hid hbel0
  clear hown0 hbel0
  go_enter Tryd.func43, Tryd.ntmps43
  go_wp2
  clear hmk
  go_loopg [3, 4] (n + 1) (fun gk s3 s4 wr => ∃ i : Nat, i ≤ n ∧ gk = n - i + 1 ∧ s4 = .int .i64 (i : Int) ∧ ∃ acc : B, Own wr w.heap.size s3 acc ∧ acc.length ≤ i ∧ R = acc ++ decP (s.drop i) ∧ Below w.heap.size w wr)
  case atStart => exact ⟨0, by omega, rfl, rfl, [], HO0.out, by simp, by rw [← HR0.out]; simp, HB0.out⟩
  case round =>
    obtain ⟨i, hi, rfl, rfl, acc, ho, hln0, hR, hb⟩ := hrel
    have HB := hid hb
    have HR := hid hR
    obtain ⟨ln, hln⟩ : ∃ ln, acc.length = ln := ⟨_, rfl⟩
    have HLe := hid hln
    obtain ⟨p, c0, rfl⟩ := own_slice ho
    have HO := hid ho
    rw [hln] at HO hln0 ⊢
    clear ho hb hln hR
    by_cases hin : i < n
    · have hi1 : i < s.length := by rw [HN.out]; exact hin
      obtain ⟨y, hy⟩ : ∃ y, s[i] = y := ⟨_, rfl⟩
      obtain ⟨Y, hY⟩ : ∃ Y : Nat, y.toNat = Y := ⟨_, rfl⟩
      have hY256 : Y < 256 := by rw [← hY]; exact y.toNat_lt
      have hbyte : ∀ h : i < S.size, (S[i]'h).toNat = Y := fun h => by rw [HByte.out i hi1 h, hy, hY]
      have HD := hid (show s.drop i = y :: s.drop (i + 1) from by rw [List.drop_eq_getElem_cons hi1, hy])
      have hext : S.extract i n = str (s.drop i) := HEx.out i
      have HCi := hid (HCo.out i (by omega))
      have hZ := codeN_lt (s.drop i)
      have HSo := hid (@decP_some (s.drop i))
      have HNo := hid (show codeO (s.drop i) = false → decP (s.drop i) = y :: decP (s.drop (i + 1)) from by rw [HD.out]; exact decP_none)
      have HLg := hid (show codeO (s.drop i) = true → i + 3 ≤ n from fun h => by have := codeO_long h; rw [List.length_drop, HN.out] at this; omega)
      obtain ⟨Z, hZe⟩ : ∃ Z, codeN (s.drop i) = Z := ⟨_, rfl⟩
      rw [hZe] at HCi hZ HSo
      obtain ⟨T, hT⟩ : ∃ T, str (s.drop i) = T := ⟨_, rfl⟩
      rw [hT] at hext HCi
      clear hy hi1 hZe hT
      cases hO : codeO (s.drop i) with
      | true =>
        have hi3 : i + 3 ≤ n := HLg.out hO
        have HNx := hid (show R = (acc ++ [UInt8.ofNat Z]) ++ decP (s.drop (i + 3)) from by rw [HR.out, HSo.out hO, List.drop_drop]; simp)
        have HBc := hid (show Lib.byteCells [UInt8.ofNat Z] = [.int .u8 (Z : Int)] from by rw [one_cell]; simp; omega)
        rw [hO] at HCi
        clear hO
        go_wp2_with (first | (go_at_call 63; (with_reducible refine (HCi.out _).mono ?_); rintro e w1 ⟨rfl, rfl⟩) | (at_builtin; refine wpList_append_own_at _ rfl (.tmp 31) (.tmp 33) 63 rfl w.heap.size 5 i0 _ 1 1 Tryd.underlying63 hi0 hz0 hz1 hz2 rfl (by decide) (.slice p ln c0) ln (Lib.byteCells acc) (by go_simp) (by have h8 := HO.out.alloc (.cells #[.int .u8 (Z : Int)] 5 (0, 0)); unfold Own at h8; rw [HLe.out] at h8; exact h8) ⟨w1.heap.size, 0, none⟩ 1 1 [.int .u8 (Z : Int)] (by go_simp) rfl (cells_new w1 _ _) (by simp [Value.oneCell']) (by unfold maxLen; omega) (by omega) (Nat.le_trans HB.out.size (below_new _ _).size) ?_; intro v' w' hown hgr _ _; obtain ⟨p7, L7, c7, rfl⟩ := own_slice3 hown; have HB2 := hid (HB.out.trans (((below_new w1 (.cells #[.int .u8 (Z : Int)] 5 (0, 0))).mono HB.out.size).trans (Own.below (HO.out.alloc (.cells #[.int .u8 (Z : Int)] 5 (0, 0))) (Nat.le_trans HB.out.size (below_new _ _).size) hgr))); have HW := hid (Own.put (acc := acc) (bs := [UInt8.ofNat Z]) (by rw [HLe.out]; exact hown) HBc.out rfl); clear hown hgr))
        go_roundg (n - (i + 3) + 1)
        case measure => omega
        case rel => exact ⟨i + 3, by omega, rfl, by push_cast; go_num, _, HW.out, by rw [List.length_append, HLe.out]; simp; omega, HNx.out, HB2.out⟩
      | false =>
        have HNx := hid (show R = (acc ++ [y]) ++ decP (s.drop (i + 1)) from by rw [HR.out, HNo.out hO]; simp)
        have HBc := hid (show Lib.byteCells [y] = [.int .u8 (Y : Int)] from by rw [one_cell, hY])
        rw [hO] at HCi
        clear hO hY
        go_wp2_with (first | (go_at_call 63; (with_reducible refine (HCi.out _).mono ?_); rintro e w1 ⟨rfl, rfl⟩) | (at_builtin; refine wpList_append_own_at _ rfl (.tmp 25) (.tmp 29) 63 rfl w.heap.size 5 i0 _ 1 1 Tryd.underlying63 hi0 hz0 hz1 hz2 rfl (by decide) (.slice p ln c0) ln (Lib.byteCells acc) (by go_simp) (by have h8 := HO.out.alloc (.cells #[.int .u8 (Y : Int)] 5 (0, 0)); unfold Own at h8; rw [HLe.out] at h8; exact h8) ⟨w1.heap.size, 0, none⟩ 1 1 [.int .u8 (Y : Int)] (by go_simp) rfl (cells_new w1 _ _) (by simp [Value.oneCell']) (by unfold maxLen; omega) (by omega) (Nat.le_trans HB.out.size (below_new _ _).size) ?_; intro v' w' hown hgr _ _; obtain ⟨p7, L7, c7, rfl⟩ := own_slice3 hown; have HB2 := hid (HB.out.trans (((below_new w1 (.cells #[.int .u8 (Y : Int)] 5 (0, 0))).mono HB.out.size).trans (Own.below (HO.out.alloc (.cells #[.int .u8 (Y : Int)] 5 (0, 0))) (Nat.le_trans HB.out.size (below_new _ _).size) hgr))); have HW := hid (Own.put (acc := acc) (bs := [y]) (by rw [HLe.out]; exact hown) HBc.out rfl); clear hown hgr))
        go_roundg (n - (i + 1) + 1)
        case measure => omega
        case rel => exact ⟨i + 1, by omega, rfl, by push_cast; go_num, _, HW.out, by rw [List.length_append, HLe.out]; simp; omega, HNx.out, HB2.out⟩
    · obtain rfl : n = i := by omega
      have HV := hid (show R = acc from by rw [HR.out, List.drop_of_length_le (by rw [HN.out]; exact Nat.le_refl _)]; simp [decP])
      have hcv := conv_own HO.out
      go_wp2
      go_ret
      rw [HV.out]
      exact ⟨rfl, HB.out⟩
theorem madeP_code {p q : UInt8 → Bool} : ∀ (l : B), madeP p q (37 :: l) = (codeO (37 :: l) && q (UInt8.ofNat (codeN (37 :: l))) && madeP p q (l.drop 2))
  | [] => by simp [madeP, codeO, codeI]
  | [d] => by simp [madeP, codeO, codeI]
  | a :: b :: r => by
    rw [madeP, if_pos rfl]
    unfold codeO codeN
    cases hv : codeOf 37 a b with
    | none => rw [codeI_none hv]; simp
    | some v =>
      rw [codeI_some hv, if_neg (by omega)]
      simp
theorem madeP_plain {p q : UInt8 → Bool} {c : UInt8} (h : c ≠ 37) : ∀ (l : B), madeP p q (c :: l) = (p c && madeP p q l)
  | [] => by simp [madeP, h]
  | [d] => by simp [madeP, h]
  | a :: b :: r => by rw [madeP, if_neg h]
set_option maxRecDepth 20000 in
set_option maxHeartbeats 8000000 in
theorem made_path (s : B) (hs : s.length ≤ 35184372088832) (w : World) : Calls Tryd.prog 44 #[.string (str s), .func (.func 60) #[] #[], .func (.func 61) #[] #[]] w fun e w' => e = .returned (.bool (madeP inPathC softC s)) ∧ w' = w := by
  obtain ⟨n, hn⟩ : ∃ n, s.length = n := ⟨_, rfl⟩
  have HN := hid hn
  obtain ⟨S, hS⟩ : ∃ S, str s = S := ⟨_, rfl⟩
  have hSn : S.size = n := by rw [← hS, str_size, hn]
  have HByte := hid (show ∀ (k : Nat) (h : k < s.length) (h2 : k < S.size), S[k]'h2 = s[k]'h from fun k h h2 => by subst hS; rfl)
  have HCo := hid (show ∀ i, i ≤ n → ∀ w, _ from fun i hi => pcode_any (s.drop i) (by rw [List.length_drop]; omega))
  have HEx := hid (show ∀ i, S.extract i n = str (s.drop i) from fun i => by rw [← hS]; exact ext_drop s i n hn)
  have HF0 := hid (show ∀ (c : UInt8) (w : World), _ from pinpath_any)
  have HG0 := hid (show ∀ (c : UInt8) (w : World), _ from psoft_any)
  obtain ⟨R, hR0⟩ : ∃ R, madeP inPathC softC s = R := ⟨_, rfl⟩
  have HR0 := hid hR0
  rw [hn] at hs
  rw [hS, hR0]
  clear hn hS hR0
  go_enter Tryd.func44, Tryd.ntmps44
  go_wp2
  go_loopg [7] (n + 1) (fun gk s7 wr => ∃ i : Nat, i ≤ n ∧ gk = n - i + 1 ∧ s7 = .int .i64 (i : Int) ∧ R = madeP inPathC softC (s.drop i) ∧ wr = w)
  case atStart => exact ⟨0, by omega, rfl, rfl, HR0.out.symm, rfl⟩
  case round =>
    obtain ⟨i, hi, rfl, rfl, hR, rfl⟩ := hrel
    have HR := hid hR
    clear hR
    by_cases hin : i < n
    · have hi1 : i < s.length := by rw [HN.out]; exact hin
      obtain ⟨y, hy⟩ : ∃ y, s[i] = y := ⟨_, rfl⟩
      obtain ⟨Y, hY⟩ : ∃ Y : Nat, y.toNat = Y := ⟨_, rfl⟩
      have hY256 : Y < 256 := by rw [← hY]; exact y.toNat_lt
      have hbyte : ∀ h : i < S.size, (S[i]'h).toNat = Y := fun h => by rw [HByte.out i hi1 h, hy, hY]
      have HD := hid (show s.drop i = y :: s.drop (i + 1) from by rw [List.drop_eq_getElem_cons hi1, hy])
      rw [HD.out] at HR
      clear hy hi1
      by_cases hc : y = 37
      · obtain rfl : Y = 37 := by rw [← hY, hc]; rfl
        subst hc
        have hext : S.extract i n = str (s.drop i) := HEx.out i
        have HCi := hid (HCo.out i (by omega))
        have hZ := codeN_lt (s.drop i)
        have HSt := hid (show R = (codeO (s.drop i) && softC (UInt8.ofNat (codeN (s.drop i))) && madeP inPathC softC (s.drop (i + 3))) from by rw [HR.out, madeP_code, HD.out, List.drop_drop])
        have HLg := hid (show codeO (s.drop i) = true → i + 3 ≤ n from fun h => by have := codeO_long h; rw [List.length_drop, HN.out] at this; omega)
        have HG := hid (show ∀ (u : Unit) (w : World), _ from fun _ => HG0.out (UInt8.ofNat (codeN (s.drop i))))
        rw [show (byteV (UInt8.ofNat (codeN (s.drop i)))) = .int .u8 ((codeN (s.drop i)) : Int) from by unfold byteV; congr 2; simp; omega] at HG
        obtain ⟨Z, hZe⟩ : ∃ Z, codeN (s.drop i) = Z := ⟨_, rfl⟩
        rw [hZe] at HCi hZ HSt HG
        obtain ⟨T, hT⟩ : ∃ T, str (s.drop i) = T := ⟨_, rfl⟩
        rw [hT] at hext HCi
        clear hZe hT hY
        cases hO : codeO (s.drop i) with
        | true =>
          have hi3 : i + 3 ≤ n := HLg.out hO
          rw [hO] at HCi HSt
          cases hQ : softC (UInt8.ofNat Z) with
          | true =>
            have HNx := hid (show R = madeP inPathC softC (s.drop (i + 3)) from by rw [HSt.out, hQ]; rfl)
            rw [hQ] at HG
            clear hO hQ
            go_wp2_with (first | (go_at_call 63; (with_reducible refine (HCi.out _).mono ?_); rintro e w1 ⟨rfl, rfl⟩) | (go_at_call 61; (with_reducible refine (HG.out () _).mono ?_); rintro e w1 ⟨rfl, rfl⟩))
            go_roundg (n - (i + 3) + 1)
            case measure => omega
            case rel => exact ⟨i + 3, by omega, rfl, by push_cast; go_num, HNx.out, rfl⟩
          | false =>
            have HV := hid (show R = false from by rw [HSt.out, hQ]; rfl)
            rw [hQ] at HG
            clear hO hQ
            go_wp2_with (first | (go_at_call 63; (with_reducible refine (HCi.out _).mono ?_); rintro e w1 ⟨rfl, rfl⟩) | (go_at_call 61; (with_reducible refine (HG.out () _).mono ?_); rintro e w1 ⟨rfl, rfl⟩))
            go_ret
            rw [HV.out]
            exact ⟨rfl, rfl⟩
        | false =>
          have HV := hid (show R = false from by rw [HSt.out, hO]; rfl)
          rw [hO] at HCi
          clear hO
          go_wp2_with ((go_at_call 63; (with_reducible refine (HCi.out _).mono ?_); rintro e w1 ⟨rfl, rfl⟩))
          go_ret
          rw [HV.out]
          exact ⟨rfl, rfl⟩
      · have z1 : ¬ (Y : Int) = 37 := fun e => hc (UInt8.toNat_inj.1 (by rw [hY]; show Y = 37; omega))
        have z2 : ((Y : Int) != 37) = true := by simpa using z1
        have HSt := hid (show R = (inPathC y && madeP inPathC softC (s.drop (i + 1))) from by rw [HR.out, madeP_plain hc])
        have HF := hid (show ∀ (u : Unit) (w : World), _ from fun _ => HF0.out y)
        rw [show byteV y = .int .u8 (Y : Int) from by unfold byteV; rw [hY]] at HF
        clear hY hc
        cases hQ : inPathC y with
        | true =>
          have HNx := hid (show R = madeP inPathC softC (s.drop (i + 1)) from by rw [HSt.out, hQ]; rfl)
          rw [hQ] at HF
          clear hQ
          go_wp2_with ((go_at_call 60; (with_reducible refine (HF.out () _).mono ?_); rintro e w1 ⟨rfl, rfl⟩))
          go_roundg (n - (i + 1) + 1)
          case measure => omega
          case rel => exact ⟨i + 1, by omega, rfl, by push_cast; go_num, HNx.out, rfl⟩
        | false =>
          have HV := hid (show R = false from by rw [HSt.out, hQ]; rfl)
          rw [hQ] at HF
          clear hQ
          go_wp2_with ((go_at_call 60; (with_reducible refine (HF.out () _).mono ?_); rintro e w1 ⟨rfl, rfl⟩))
          go_ret
          rw [HV.out]
          exact ⟨rfl, rfl⟩
    · obtain rfl : n = i := by omega
      have HV := hid (show R = true from by rw [HR.out, List.drop_of_length_le (by rw [HN.out]; exact Nat.le_refl _)]; simp [madeP])
      go_wp2
      go_ret
      rw [HV.out]
      exact ⟨rfl, rfl⟩
set_option maxRecDepth 20000 in
set_option maxHeartbeats 8000000 in
theorem made_query (s : B) (hs : s.length ≤ 35184372088832) (w : World) : Calls Tryd.prog 44 #[.string (str s), .func (.func 70) #[] #[], .func (.func 45) #[] #[]] w fun e w' => e = .returned (.bool (madeP inQueryC anyC s)) ∧ w' = w := by
  obtain ⟨n, hn⟩ : ∃ n, s.length = n := ⟨_, rfl⟩
  have HN := hid hn
  obtain ⟨S, hS⟩ : ∃ S, str s = S := ⟨_, rfl⟩
  have hSn : S.size = n := by rw [← hS, str_size, hn]
  have HByte := hid (show ∀ (k : Nat) (h : k < s.length) (h2 : k < S.size), S[k]'h2 = s[k]'h from fun k h h2 => by subst hS; rfl)
  have HCo := hid (show ∀ i, i ≤ n → ∀ w, _ from fun i hi => pcode_any (s.drop i) (by rw [List.length_drop]; omega))
  have HEx := hid (show ∀ i, S.extract i n = str (s.drop i) from fun i => by rw [← hS]; exact ext_drop s i n hn)
  have HF0 := hid (show ∀ (c : UInt8) (w : World), _ from pinquery_any)
  have HG0 := hid (show ∀ (c : UInt8) (w : World), _ from pany_any)
  obtain ⟨R, hR0⟩ : ∃ R, madeP inQueryC anyC s = R := ⟨_, rfl⟩
  have HR0 := hid hR0
  rw [hn] at hs
  rw [hS, hR0]
  clear hn hS hR0
  go_enter Tryd.func44, Tryd.ntmps44
  go_wp2
  go_loopg [7] (n + 1) (fun gk s7 wr => ∃ i : Nat, i ≤ n ∧ gk = n - i + 1 ∧ s7 = .int .i64 (i : Int) ∧ R = madeP inQueryC anyC (s.drop i) ∧ wr = w)
  case atStart => exact ⟨0, by omega, rfl, rfl, HR0.out.symm, rfl⟩
  case round =>
    obtain ⟨i, hi, rfl, rfl, hR, rfl⟩ := hrel
    have HR := hid hR
    clear hR
    by_cases hin : i < n
    · have hi1 : i < s.length := by rw [HN.out]; exact hin
      obtain ⟨y, hy⟩ : ∃ y, s[i] = y := ⟨_, rfl⟩
      obtain ⟨Y, hY⟩ : ∃ Y : Nat, y.toNat = Y := ⟨_, rfl⟩
      have hY256 : Y < 256 := by rw [← hY]; exact y.toNat_lt
      have hbyte : ∀ h : i < S.size, (S[i]'h).toNat = Y := fun h => by rw [HByte.out i hi1 h, hy, hY]
      have HD := hid (show s.drop i = y :: s.drop (i + 1) from by rw [List.drop_eq_getElem_cons hi1, hy])
      rw [HD.out] at HR
      clear hy hi1
      by_cases hc : y = 37
      · obtain rfl : Y = 37 := by rw [← hY, hc]; rfl
        subst hc
        have hext : S.extract i n = str (s.drop i) := HEx.out i
        have HCi := hid (HCo.out i (by omega))
        have hZ := codeN_lt (s.drop i)
        have HSt := hid (show R = (codeO (s.drop i) && anyC (UInt8.ofNat (codeN (s.drop i))) && madeP inQueryC anyC (s.drop (i + 3))) from by rw [HR.out, madeP_code, HD.out, List.drop_drop])
        have HLg := hid (show codeO (s.drop i) = true → i + 3 ≤ n from fun h => by have := codeO_long h; rw [List.length_drop, HN.out] at this; omega)
        have HG := hid (show ∀ (u : Unit) (w : World), _ from fun _ => HG0.out (UInt8.ofNat (codeN (s.drop i))))
        rw [show (byteV (UInt8.ofNat (codeN (s.drop i)))) = .int .u8 ((codeN (s.drop i)) : Int) from by unfold byteV; congr 2; simp; omega] at HG
        obtain ⟨Z, hZe⟩ : ∃ Z, codeN (s.drop i) = Z := ⟨_, rfl⟩
        rw [hZe] at HCi hZ HSt HG
        obtain ⟨T, hT⟩ : ∃ T, str (s.drop i) = T := ⟨_, rfl⟩
        rw [hT] at hext HCi
        clear hZe hT hY
        cases hO : codeO (s.drop i) with
        | true =>
          have hi3 : i + 3 ≤ n := HLg.out hO
          rw [hO] at HCi HSt
          cases hQ : anyC (UInt8.ofNat Z) with
          | true =>
            have HNx := hid (show R = madeP inQueryC anyC (s.drop (i + 3)) from by rw [HSt.out, hQ]; rfl)
            rw [hQ] at HG
            clear hO hQ
            go_wp2_with (first | (go_at_call 63; (with_reducible refine (HCi.out _).mono ?_); rintro e w1 ⟨rfl, rfl⟩) | (go_at_call 45; (with_reducible refine (HG.out () _).mono ?_); rintro e w1 ⟨rfl, rfl⟩))
            go_roundg (n - (i + 3) + 1)
            case measure => omega
            case rel => exact ⟨i + 3, by omega, rfl, by push_cast; go_num, HNx.out, rfl⟩
          | false =>
            have HV := hid (show R = false from by rw [HSt.out, hQ]; rfl)
            rw [hQ] at HG
            clear hO hQ
            go_wp2_with (first | (go_at_call 63; (with_reducible refine (HCi.out _).mono ?_); rintro e w1 ⟨rfl, rfl⟩) | (go_at_call 45; (with_reducible refine (HG.out () _).mono ?_); rintro e w1 ⟨rfl, rfl⟩))
            go_ret
            rw [HV.out]
            exact ⟨rfl, rfl⟩
        | false =>
          have HV := hid (show R = false from by rw [HSt.out, hO]; rfl)
          rw [hO] at HCi
          clear hO
          go_wp2_with ((go_at_call 63; (with_reducible refine (HCi.out _).mono ?_); rintro e w1 ⟨rfl, rfl⟩))
          go_ret
          rw [HV.out]
          exact ⟨rfl, rfl⟩
      · have z1 : ¬ (Y : Int) = 37 := fun e => hc (UInt8.toNat_inj.1 (by rw [hY]; show Y = 37; omega))
        have z2 : ((Y : Int) != 37) = true := by simpa using z1
        have HSt := hid (show R = (inQueryC y && madeP inQueryC anyC (s.drop (i + 1))) from by rw [HR.out, madeP_plain hc])
        have HF := hid (show ∀ (u : Unit) (w : World), _ from fun _ => HF0.out y)
        rw [show byteV y = .int .u8 (Y : Int) from by unfold byteV; rw [hY]] at HF
        clear hY hc
        cases hQ : inQueryC y with
        | true =>
          have HNx := hid (show R = madeP inQueryC anyC (s.drop (i + 1)) from by rw [HSt.out, hQ]; rfl)
          rw [hQ] at HF
          clear hQ
          go_wp2_with ((go_at_call 70; (with_reducible refine (HF.out () _).mono ?_); rintro e w1 ⟨rfl, rfl⟩))
          go_roundg (n - (i + 1) + 1)
          case measure => omega
          case rel => exact ⟨i + 1, by omega, rfl, by push_cast; go_num, HNx.out, rfl⟩
        | false =>
          have HV := hid (show R = false from by rw [HSt.out, hQ]; rfl)
          rw [hQ] at HF
          clear hQ
          go_wp2_with ((go_at_call 70; (with_reducible refine (HF.out () _).mono ?_); rintro e w1 ⟨rfl, rfl⟩))
          go_ret
          rw [HV.out]
          exact ⟨rfl, rfl⟩
    · obtain rfl : n = i := by omega
      have HV := hid (show R = true from by rw [HR.out, List.drop_of_length_le (by rw [HN.out]; exact Nat.le_refl _)]; simp [madeP])
      go_wp2
      go_ret
      rw [HV.out]
      exact ⟨rfl, rfl⟩
set_option maxRecDepth 20000 in
set_option maxHeartbeats 8000000 in
theorem made_anyany (s : B) (hs : s.length ≤ 35184372088832) (w : World) : Calls Tryd.prog 44 #[.string (str s), .func (.func 45) #[] #[], .func (.func 45) #[] #[]] w fun e w' => e = .returned (.bool (madeP anyC anyC s)) ∧ w' = w := by
  obtain ⟨n, hn⟩ : ∃ n, s.length = n := ⟨_, rfl⟩
  have HN := hid hn
  obtain ⟨S, hS⟩ : ∃ S, str s = S := ⟨_, rfl⟩
  have hSn : S.size = n := by rw [← hS, str_size, hn]
  have HByte := hid (show ∀ (k : Nat) (h : k < s.length) (h2 : k < S.size), S[k]'h2 = s[k]'h from fun k h h2 => by subst hS; rfl)
  have HCo := hid (show ∀ i, i ≤ n → ∀ w, _ from fun i hi => pcode_any (s.drop i) (by rw [List.length_drop]; omega))
  have HEx := hid (show ∀ i, S.extract i n = str (s.drop i) from fun i => by rw [← hS]; exact ext_drop s i n hn)
  have HF0 := hid (show ∀ (c : UInt8) (w : World), _ from pany_any)
  have HG0 := hid (show ∀ (c : UInt8) (w : World), _ from pany_any)
  obtain ⟨R, hR0⟩ : ∃ R, madeP anyC anyC s = R := ⟨_, rfl⟩
  have HR0 := hid hR0
  rw [hn] at hs
  rw [hS, hR0]
  clear hn hS hR0
  go_enter Tryd.func44, Tryd.ntmps44
  go_wp2
  go_loopg [7] (n + 1) (fun gk s7 wr => ∃ i : Nat, i ≤ n ∧ gk = n - i + 1 ∧ s7 = .int .i64 (i : Int) ∧ R = madeP anyC anyC (s.drop i) ∧ wr = w)
  case atStart => exact ⟨0, by omega, rfl, rfl, HR0.out.symm, rfl⟩
  case round =>
    obtain ⟨i, hi, rfl, rfl, hR, rfl⟩ := hrel
    have HR := hid hR
    clear hR
    by_cases hin : i < n
    · have hi1 : i < s.length := by rw [HN.out]; exact hin
      obtain ⟨y, hy⟩ : ∃ y, s[i] = y := ⟨_, rfl⟩
      obtain ⟨Y, hY⟩ : ∃ Y : Nat, y.toNat = Y := ⟨_, rfl⟩
      have hY256 : Y < 256 := by rw [← hY]; exact y.toNat_lt
      have hbyte : ∀ h : i < S.size, (S[i]'h).toNat = Y := fun h => by rw [HByte.out i hi1 h, hy, hY]
      have HD := hid (show s.drop i = y :: s.drop (i + 1) from by rw [List.drop_eq_getElem_cons hi1, hy])
      rw [HD.out] at HR
      clear hy hi1
      by_cases hc : y = 37
      · obtain rfl : Y = 37 := by rw [← hY, hc]; rfl
        subst hc
        have hext : S.extract i n = str (s.drop i) := HEx.out i
        have HCi := hid (HCo.out i (by omega))
        have hZ := codeN_lt (s.drop i)
        have HSt := hid (show R = (codeO (s.drop i) && anyC (UInt8.ofNat (codeN (s.drop i))) && madeP anyC anyC (s.drop (i + 3))) from by rw [HR.out, madeP_code, HD.out, List.drop_drop])
        have HLg := hid (show codeO (s.drop i) = true → i + 3 ≤ n from fun h => by have := codeO_long h; rw [List.length_drop, HN.out] at this; omega)
        have HG := hid (show ∀ (u : Unit) (w : World), _ from fun _ => HG0.out (UInt8.ofNat (codeN (s.drop i))))
        rw [show (byteV (UInt8.ofNat (codeN (s.drop i)))) = .int .u8 ((codeN (s.drop i)) : Int) from by unfold byteV; congr 2; simp; omega] at HG
        obtain ⟨Z, hZe⟩ : ∃ Z, codeN (s.drop i) = Z := ⟨_, rfl⟩
        rw [hZe] at HCi hZ HSt HG
        obtain ⟨T, hT⟩ : ∃ T, str (s.drop i) = T := ⟨_, rfl⟩
        rw [hT] at hext HCi
        clear hZe hT hY
        cases hO : codeO (s.drop i) with
        | true =>
          have hi3 : i + 3 ≤ n := HLg.out hO
          rw [hO] at HCi HSt
          cases hQ : anyC (UInt8.ofNat Z) with
          | true =>
            have HNx := hid (show R = madeP anyC anyC (s.drop (i + 3)) from by rw [HSt.out, hQ]; rfl)
            rw [hQ] at HG
            clear hO hQ
            go_wp2_with (first | (go_at_call 63; (with_reducible refine (HCi.out _).mono ?_); rintro e w1 ⟨rfl, rfl⟩) | (go_at_call 45; (with_reducible refine (HG.out () _).mono ?_); rintro e w1 ⟨rfl, rfl⟩))
            go_roundg (n - (i + 3) + 1)
            case measure => omega
            case rel => exact ⟨i + 3, by omega, rfl, by push_cast; go_num, HNx.out, rfl⟩
          | false =>
            have HV := hid (show R = false from by rw [HSt.out, hQ]; rfl)
            rw [hQ] at HG
            clear hO hQ
            go_wp2_with (first | (go_at_call 63; (with_reducible refine (HCi.out _).mono ?_); rintro e w1 ⟨rfl, rfl⟩) | (go_at_call 45; (with_reducible refine (HG.out () _).mono ?_); rintro e w1 ⟨rfl, rfl⟩))
            go_ret
            rw [HV.out]
            exact ⟨rfl, rfl⟩
        | false =>
          have HV := hid (show R = false from by rw [HSt.out, hO]; rfl)
          rw [hO] at HCi
          clear hO
          go_wp2_with ((go_at_call 63; (with_reducible refine (HCi.out _).mono ?_); rintro e w1 ⟨rfl, rfl⟩))
          go_ret
          rw [HV.out]
          exact ⟨rfl, rfl⟩
      · have z1 : ¬ (Y : Int) = 37 := fun e => hc (UInt8.toNat_inj.1 (by rw [hY]; show Y = 37; omega))
        have z2 : ((Y : Int) != 37) = true := by simpa using z1
        have HSt := hid (show R = (anyC y && madeP anyC anyC (s.drop (i + 1))) from by rw [HR.out, madeP_plain hc])
        have HF := hid (show ∀ (u : Unit) (w : World), _ from fun _ => HF0.out y)
        rw [show byteV y = .int .u8 (Y : Int) from by unfold byteV; rw [hY]] at HF
        clear hY hc
        cases hQ : anyC y with
        | true =>
          have HNx := hid (show R = madeP anyC anyC (s.drop (i + 1)) from by rw [HSt.out, hQ]; rfl)
          rw [hQ] at HF
          clear hQ
          go_wp2_with ((go_at_call 45; (with_reducible refine (HF.out () _).mono ?_); rintro e w1 ⟨rfl, rfl⟩))
          go_roundg (n - (i + 1) + 1)
          case measure => omega
          case rel => exact ⟨i + 1, by omega, rfl, by push_cast; go_num, HNx.out, rfl⟩
        | false =>
          have HV := hid (show R = false from by rw [HSt.out, hQ]; rfl)
          rw [hQ] at HF
          clear hQ
          go_wp2_with ((go_at_call 45; (with_reducible refine (HF.out () _).mono ?_); rintro e w1 ⟨rfl, rfl⟩))
          go_ret
          rw [HV.out]
          exact ⟨rfl, rfl⟩
    · obtain rfl : n = i := by omega
      have HV := hid (show R = true from by rw [HR.out, List.drop_of_length_le (by rw [HN.out]; exact Nat.le_refl _)]; simp [madeP])
      go_wp2
      go_ret
      rw [HV.out]
      exact ⟨rfl, rfl⟩
end Go.Proofs.YtbdbmlklijmefaaDoor
