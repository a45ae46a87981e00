/- The document's texts without codes, and parts of a query. -/
import Derived.Test.YtbdbmlklijmefaaDoorRRow
namespace Go.Proofs.YtbdbmlklijmefaaDoor
open Go.RowKit

theorem dec_plain {c : UInt8} (h : c ≠ 37) : ∀ l : B, decodeB (c :: l) = (decodeB l).map (c :: ·)
  | [] => by simp [decodeB, h]
  | [d] => by simp only [decodeB]; rw [if_neg h]
  | a :: b :: r => by rw [decodeB, if_neg h]
theorem dec_at : ∀ l : B, decodeB (37 :: l) = if codeI (37 :: l) < 0 then none else (decodeB (l.drop 2)).map (UInt8.ofNat (codeI (37 :: l)).toNat :: ·)
  | [] => by rw [codeI_short (by simp)]; simp [decodeB]
  | [d] => by rw [codeI_short (by simp)]; simp [decodeB]
  | a :: b :: r => by
    rw [decodeB, if_pos rfl]
    cases hv : codeOf 37 a b with
    | none => rw [codeI_none hv]; simp
    | some v =>
      rw [codeI_some hv]
      rw [if_neg (by omega)]
      simp
/-- A text or the error. -/
def decV (r : Option B) : Value := match r with
  | some t => .tuple #[.string (str t), .int .i64 0]
  | none => .tuple #[.string (str []), .int .i64 23]
theorem u8_wrap (Z : Nat) (h : Z < 256) : IntKind.u8.wrap (Z : Int) = (Z : Int) := by
  have key : ∀ K : Fin 256, IntKind.u8.wrap (K.val : Int) = (K.val : Int) := by decide +kernel
  exact key ⟨Z, h⟩
theorem of_cell (Z : Nat) (h : Z < 256) : Lib.byteCells [UInt8.ofNat Z] = [.int .u8 (Z : Int)] := by
  rw [one_cell]
  simp
  omega
set_option maxRecDepth 20000 in
set_option maxHeartbeats 8000000 in
theorem rdecode_any (s : B) (hs : s.length ≤ 35184372088832) (w : World) : Calls Tryd.prog 21 #[.string (str s)] w fun e w' => e = .returned (decV (decodeB s)) ∧ Below w.heap.size w w' := by
  obtain ⟨i0, hi0, hz0, hz1, hz2⟩ := info_parts infoB
  obtain ⟨n, hn⟩ : ∃ n, s.length = n := ⟨_, rfl⟩
  have HN := hid hn
  obtain ⟨S, hS⟩ : ∃ S, str s = S := ⟨_, rfl⟩
  have hSn : S.size = n := by rw [← hS, str_size, hn]
  have HByte := hid (show ∀ (k : Nat) (h : k < s.length) (h2 : k < S.size), S[k]'h2 = s[k]'h from fun k h h2 => by subst hS; rfl)
  have HCo := hid (show ∀ i, i ≤ n → ∀ w, _ from fun i hi => code_any s i (by omega) (by omega))
  obtain ⟨R, hR0⟩ : ∃ R, decodeB s = R := ⟨_, rfl⟩
  have HR0 := hid hR0
  rw [hS] at HCo
  rw [hn] at hs
  rw [hS, hR0]
  clear hn hS hR0
  go_enter Tryd.func21, Tryd.ntmps21
  go_wp2
  go_loopg [4, 5] (n + 1) (fun gk s4 s5 wr => ∃ i : Nat, i ≤ n ∧ gk = n - i + 1 ∧ s5 = .int .i64 (i : Int) ∧ ∃ acc : B, Own wr w.heap.size s4 acc ∧ acc.length ≤ i ∧ R = (decodeB (s.drop i)).map (acc ++ ·) ∧ Below w.heap.size w wr)
  case atStart => exact ⟨0, by omega, rfl, rfl, [], Own.nil w _, by simp, by rw [← HR0.out]; simp, Below.refl _ _⟩
  case round =>
    obtain ⟨i, hi, rfl, rfl, acc, ho, hln0, hR, hb⟩ := hrel
    have HB := hid hb
    have HR := hid hR
    obtain ⟨ln, hln⟩ : ∃ ln, acc.length = ln := ⟨_, rfl⟩
    have HLe := hid hln
    obtain ⟨p, c0, rfl⟩ := own_slice ho
    have HO := hid ho
    rw [hln] at HO hln0 ⊢
    clear ho hb hln hR
    by_cases hin : i < n
    · have hi1 : i < s.length := by rw [HN.out]; exact hin
      obtain ⟨y, hy⟩ : ∃ y, s[i] = y := ⟨_, rfl⟩
      obtain ⟨Y, hY⟩ : ∃ Y : Nat, y.toNat = Y := ⟨_, rfl⟩
      have hY256 : Y < 256 := by rw [← hY]; exact y.toNat_lt
      have hbyte : ∀ h : i < S.size, (S[i]'h).toNat = Y := fun h => by rw [HByte.out i hi1 h, hy, hY]
      have HD := hid (show s.drop i = y :: s.drop (i + 1) from by rw [List.drop_eq_getElem_cons hi1, hy])
      rw [HD.out] at HR
      clear hy hi1
      by_cases hc : y = 37
      · obtain rfl : Y = 37 := by rw [← hY, hc]; rfl
        subst hc
        have HSt := hid (show R = if codeI (s.drop i) < 0 then none else (decodeB (s.drop (i + 3))).map (acc ++ [UInt8.ofNat (codeI (s.drop i)).toNat] ++ ·) from by
          rw [HR.out, HD.out, dec_at, List.drop_drop]
          split
          · rfl
          · rw [Option.map_map]
            congr 1
            funext z
            simp)
        have HLg := hid (show 0 ≤ codeI (s.drop i) → i + 3 ≤ n from fun h => by
          rw [HD.out] at h
          have := code_long h
          rw [List.length_drop, HN.out] at this
          omega)
        have HCi := hid (HCo.out i (by omega))
        have hbd := codeI_bd (s.drop i)
        obtain ⟨V, hV⟩ : ∃ V, codeI (s.drop i) = V := ⟨_, rfl⟩
        rw [hV] at HSt HLg HCi hbd
        clear hV hY
        by_cases hneg : V < 0
        · have HF := hid (show R = none from by rw [HSt.out, if_pos hneg])
          go_wp2_with (go_at_call 46; (with_reducible refine (HCi.out _).mono ?_); rintro e w1 ⟨rfl, q, hq⟩; have HOq := hid (show Own w1 w.heap.size (.slice p ln c0) acc from (by rw [hq]; exact HO.out.keep (below_drew (Below.refl _ _) q))); have HBq := hid (show Below w.heap.size w w1 from (by rw [hq]; exact below_drew HB.out q)); clear hq)
          go_ret2
          rw [HF.out]
          exact ⟨rfl, HBq.out⟩
        · have hi3 : i + 3 ≤ n := HLg.out (by omega)
          obtain ⟨Z, rfl⟩ : ∃ Z : Nat, V = (Z : Int) := ⟨V.toNat, by omega⟩
          have hZ : Z < 256 := by omega
          have hw8 := u8_wrap Z hZ
          have HBc := hid (of_cell Z hZ)
          have HNx := hid (show R = (decodeB (s.drop (i + 3))).map (acc ++ [UInt8.ofNat Z] ++ ·) from by rw [HSt.out, if_neg hneg]; simp)
          go_wp2_with (first | (go_at_call 46; (with_reducible refine (HCi.out _).mono ?_); rintro e w1 ⟨rfl, q, hq⟩; have HOq := hid (show Own w1 w.heap.size (.slice p ln c0) acc from (by rw [hq]; exact HO.out.keep (below_drew (Below.refl _ _) q))); have HBq := hid (show Below w.heap.size w w1 from (by rw [hq]; exact below_drew HB.out q)); clear hq) | (at_builtin; refine wpList_append_own_at _ rfl (.tmp 28) (.tmp 31) 63 rfl w.heap.size 5 i0 _ 1 1 Tryd.underlying63 hi0 hz0 hz1 hz2 rfl (by decide) (.slice p ln c0) ln (Lib.byteCells acc) (by go_simp) (by have h8 := HOq.out.alloc (.cells #[.int .u8 (Z : Int)] 5 (0, 0)); unfold Own at h8; rw [HLe.out] at h8; exact h8) ⟨w1.heap.size, 0, none⟩ 1 1 [.int .u8 (Z : Int)] (by go_simp) rfl (cells_new w1 _ _) (by simp [Value.oneCell']) (by unfold maxLen; omega) (by omega) (Nat.le_trans HBq.out.size (below_new _ _).size) ?_; intro v' w' hown hgr _ _; obtain ⟨p7, L7, c7, rfl⟩ := own_slice3 hown; have HB2 := hid (HBq.out.trans (((below_new w1 (.cells #[.int .u8 (Z : Int)] 5 (0, 0))).mono HBq.out.size).trans (Own.below (HOq.out.alloc (.cells #[.int .u8 (Z : Int)] 5 (0, 0))) (Nat.le_trans HBq.out.size (below_new _ _).size) hgr))); have HW := hid (Own.put (acc := acc) (bs := [UInt8.ofNat Z]) (by rw [HLe.out]; exact hown) HBc.out rfl); clear hown hgr))
          go_roundg (n - (i + 3) + 1)
          case measure => omega
          case rel => exact ⟨i + 3, by omega, rfl, by push_cast; go_num, _, HW.out, by rw [List.length_append, HLe.out]; simp; omega, HNx.out, HB2.out⟩
      · have z1 : ¬ (Y : Int) = 37 := fun e => hc (UInt8.toNat_inj.1 (by rw [hY]; show Y = 37; omega))
        have z2 : ((Y : Int) == 37) = false := by simpa using z1
        have HBc := hid (show Lib.byteCells [y] = [.int .u8 (Y : Int)] from by rw [one_cell, hY])
        have HNx := hid (show R = (decodeB (s.drop (i + 1))).map (acc ++ [y] ++ ·) from by
          rw [HR.out, dec_plain hc, Option.map_map]
          congr 1
          funext z
          simp)
        clear hc hY
        go_wp2_with (at_builtin; refine wpList_append_own_at _ rfl (.tmp 17) (.tmp 21) 63 rfl w.heap.size 5 i0 _ 1 1 Tryd.underlying63 hi0 hz0 hz1 hz2 rfl (by decide) (.slice p ln c0) ln (Lib.byteCells acc) (by go_simp) (by have h8 := HO.out.alloc (.cells #[.int .u8 (Y : Int)] 5 (0, 0)); unfold Own at h8; rw [HLe.out] at h8; exact h8) ⟨wr.heap.size, 0, none⟩ 1 1 [.int .u8 (Y : Int)] (by go_simp) rfl (cells_new wr _ _) (by simp [Value.oneCell']) (by unfold maxLen; omega) (by omega) (Nat.le_trans HB.out.size (below_new _ _).size) ?_; intro v' w' hown hgr _ _; obtain ⟨p7, L7, c7, rfl⟩ := own_slice3 hown; have HB2 := hid (HB.out.trans (((below_new wr (.cells #[.int .u8 (Y : Int)] 5 (0, 0))).mono HB.out.size).trans (Own.below (HO.out.alloc (.cells #[.int .u8 (Y : Int)] 5 (0, 0))) (Nat.le_trans HB.out.size (below_new _ _).size) hgr))); have HW := hid (Own.put (acc := acc) (bs := [y]) (by rw [HLe.out]; exact hown) HBc.out rfl); clear hown hgr)
        go_roundg (n - (i + 1) + 1)
        case measure => omega
        case rel => exact ⟨i + 1, by omega, rfl, by push_cast; go_num, _, HW.out, by rw [List.length_append, HLe.out]; simp; omega, HNx.out, HB2.out⟩
    · obtain rfl : n = i := by omega
      have HV := hid (show R = some acc from by rw [HR.out, List.drop_of_length_le (by rw [HN.out]; exact Nat.le_refl _)]; simp [decodeB])
      have hcv := conv_own HO.out
      go_wp2
      go_ret2
      rw [HV.out]
      exact ⟨rfl, HB.out⟩
theorem decV_fst (r : Option B) : ∃ k : Int, decV r = .tuple #[.string (str (r.getD [])), .int .i64 k] := by
  cases r with
  | none => exact ⟨23, rfl⟩
  | some t => exact ⟨0, rfl⟩
set_option maxRecDepth 20000 in
set_option maxHeartbeats 8000000 in
theorem rform_any (s : B) (hs : s.length ≤ 35184372088832) (w : World) : Calls Tryd.prog 52 #[.string (str s)] w fun e w' => e = .returned (.string (str (formB s))) ∧ Below w.heap.size w w' := by
  obtain ⟨i0, hi0, hz0, hz1, hz2⟩ := info_parts infoB
  obtain ⟨n, hn⟩ : ∃ n, s.length = n := ⟨_, rfl⟩
  have HN := hid hn
  obtain ⟨S, hS⟩ : ∃ S, str s = S := ⟨_, rfl⟩
  have hSn : S.size = n := by rw [← hS, str_size, hn]
  have HByte := hid (show ∀ (k : Nat) (h : k < s.length) (h2 : k < S.size), S[k]'h2 = s[k]'h from fun k h h2 => by subst hS; rfl)
  rw [hn] at hs
  rw [hS]
  have HDe := hid (rdecode_any (s.map plusC) (by rw [List.length_map, hn]; exact hs))
  clear hn hS
  go_enter Tryd.func52, Tryd.ntmps52
  go_wp2
  go_loopg [3, 4] (n + 1) (fun gk s3 s4 wr => ∃ i : Nat, i ≤ n ∧ gk = n - i + 1 ∧ s4 = .int .i64 (i : Int) ∧ Own wr w.heap.size s3 ((s.take i).map plusC) ∧ Below w.heap.size w wr)
  case atStart => exact ⟨0, by omega, rfl, rfl, Own.nil w _, Below.refl _ _⟩
  case round =>
    obtain ⟨i, hi, rfl, rfl, ho, hb⟩ := hrel
    have HB := hid hb
    obtain ⟨acc, hacc⟩ : ∃ acc, (s.take i).map plusC = acc := ⟨_, rfl⟩
    have HAcc := hid hacc
    have HLe := hid (show acc.length = i from by rw [← hacc]; simp [HN.out]; exact Nat.min_eq_left hi)
    rw [hacc] at ho
    obtain ⟨p, c0, rfl⟩ := own_slice ho
    have HO := hid ho
    rw [HLe.out] at HO ⊢
    clear ho hb hacc
    by_cases hin : i < n
    · have hi1 : i < s.length := by rw [HN.out]; exact hin
      obtain ⟨y, hy⟩ : ∃ y, s[i] = y := ⟨_, rfl⟩
      obtain ⟨Y, hY⟩ : ∃ Y : Nat, y.toNat = Y := ⟨_, rfl⟩
      have hY256 : Y < 256 := by rw [← hY]; exact y.toNat_lt
      have hbyte : ∀ h : i < S.size, (S[i]'h).toNat = Y := fun h => by rw [HByte.out i hi1 h, hy, hY]
      have HTk := hid (show (s.take (i + 1)).map plusC = acc ++ [plusC y] from by rw [← HAcc.out, List.take_add_one, List.getElem?_eq_getElem hi1, hy]; simp)
      clear hy hi1
      by_cases hc : y = 43
      · obtain rfl : Y = 43 := by rw [← hY, hc]; rfl
        have HBc := hid (show Lib.byteCells [plusC y] = [.int .u8 32] from by rw [hc]; rfl)
        clear hc hY
        go_wp2_with (at_builtin; refine wpList_append_own_at _ rfl (.tmp 17) (.tmp 18) 63 rfl w.heap.size 5 i0 _ 1 1 Tryd.underlying63 hi0 hz0 hz1 hz2 rfl (by decide) (.slice p i c0) i (Lib.byteCells acc) (by go_simp) (by have h8 := HO.out.alloc (.cells #[.int .u8 32] 5 (0, 0)); unfold Own at h8; rw [HLe.out] at h8; exact h8) ⟨wr.heap.size, 0, none⟩ 1 1 [.int .u8 32] (by go_simp) rfl (cells_new wr _ _) (by simp [Value.oneCell']) (by unfold maxLen; omega) (by omega) (Nat.le_trans HB.out.size (below_new _ _).size) ?_; intro v' w' hown hgr _ _; obtain ⟨p7, L7, c7, rfl⟩ := own_slice3 hown; have HB2 := hid (HB.out.trans (((below_new wr (.cells #[.int .u8 32] 5 (0, 0))).mono HB.out.size).trans (Own.below (HO.out.alloc (.cells #[.int .u8 32] 5 (0, 0))) (Nat.le_trans HB.out.size (below_new _ _).size) hgr))); have HW := hid (Own.put (acc := acc) (bs := [plusC y]) (by rw [HLe.out]; exact hown) HBc.out rfl); clear hown hgr)
        go_roundg (n - (i + 1) + 1)
        case measure => omega
        case rel => exact ⟨i + 1, by omega, rfl, by push_cast; rfl, by rw [HTk.out]; exact HW.out, HB2.out⟩
      · have z1 : ¬ (Y : Int) = 43 := fun e => hc (UInt8.toNat_inj.1 (by rw [hY]; show Y = 43; omega))
        have z2 : ((Y : Int) == 43) = false := by simpa using z1
        have HBc := hid (show Lib.byteCells [plusC y] = [.int .u8 (Y : Int)] from by rw [one_cell, plusC, if_neg hc, hY])
        clear hc hY
        go_wp2_with (at_builtin; refine wpList_append_own_at _ rfl (.tmp 20) (.tmp 24) 63 rfl w.heap.size 5 i0 _ 1 1 Tryd.underlying63 hi0 hz0 hz1 hz2 rfl (by decide) (.slice p i c0) i (Lib.byteCells acc) (by go_simp) (by have h8 := HO.out.alloc (.cells #[.int .u8 (Y : Int)] 5 (0, 0)); unfold Own at h8; rw [HLe.out] at h8; exact h8) ⟨wr.heap.size, 0, none⟩ 1 1 [.int .u8 (Y : Int)] (by go_simp) rfl (cells_new wr _ _) (by simp [Value.oneCell']) (by unfold maxLen; omega) (by omega) (Nat.le_trans HB.out.size (below_new _ _).size) ?_; intro v' w' hown hgr _ _; obtain ⟨p7, L7, c7, rfl⟩ := own_slice3 hown; have HB2 := hid (HB.out.trans (((below_new wr (.cells #[.int .u8 (Y : Int)] 5 (0, 0))).mono HB.out.size).trans (Own.below (HO.out.alloc (.cells #[.int .u8 (Y : Int)] 5 (0, 0))) (Nat.le_trans HB.out.size (below_new _ _).size) hgr))); have HW := hid (Own.put (acc := acc) (bs := [plusC y]) (by rw [HLe.out]; exact hown) HBc.out rfl); clear hown hgr)
        go_roundg (n - (i + 1) + 1)
        case measure => omega
        case rel => exact ⟨i + 1, by omega, rfl, by push_cast; rfl, by rw [HTk.out]; exact HW.out, HB2.out⟩
    · obtain rfl : n = i := by omega
      have HV := hid (show acc = s.map plusC from by rw [← HAcc.out, List.take_of_length_le (by rw [HN.out]; exact Nat.le_refl _)])
      have hcv := conv_own (by have h8 := HO.out; exact h8 : Own wr w.heap.size (.slice p n c0) acc)
      rw [HV.out] at hcv
      obtain ⟨k, hk⟩ := decV_fst (decodeB (s.map plusC))
      rw [hk] at HDe
      obtain ⟨F, hF⟩ : ∃ F, str ((decodeB (s.map plusC)).getD []) = F := ⟨_, rfl⟩
      have HF := hid (show str (formB s) = F from hF)
      rw [hF] at HDe
      clear hk hF
      go_wp2_with (go_at_call 21; (with_reducible refine (HDe.out _).mono ?_); rintro e w1 ⟨rfl, hb⟩; have HB2 := hid (HB.out.trans (hb.mono HB.out.size)); clear hb)
      go_ret
      rw [HF.out]
      exact ⟨rfl, HB2.out⟩
end Go.Proofs.YtbdbmlklijmefaaDoor
