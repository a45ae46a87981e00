/- The document's texts in codes, and as they are meant. -/
import Derived.Test.YtbdbmlklijmefaaDoorRDec
import Derived.Test.YtbdbmlklijmefaaDoorOrder
namespace Go.Proofs.YtbdbmlklijmefaaDoor
open Go.RowKit

abbrev greatT : ByteArray := ⟨#[48, 49, 50, 51, 52, 53, 54, 55, 56, 57, 65, 66, 67, 68, 69, 70]⟩
theorem great_at (i : Nat) (hi : i < 16) : ∀ (j : Nat) (h : j < greatT.size), j = i → (greatT[j]'h).toNat = (greatD i).toNat := by
  intro j h e
  subst e
  have key : ∀ K : Fin 16, greatT.data[K.val]? = some (greatD K.val) := by decide
  have h2 : greatT.data[j]? = some (greatD j) := key ⟨j, hi⟩
  have h3 : greatT.data[j]? = some (greatT.data[j]'h) := Array.getElem?_eq_getElem h
  have h4 : greatT.data[j]'h = greatD j := Option.some.inj (h3.symm.trans h2)
  exact congrArg UInt8.toNat h4
theorem quo16 (X : Nat) (h : X < 256) : IntKind.u8.wrap ((X : Int) / 16) = (X : Int) / 16 := by
  have key : ∀ K : Fin 256, IntKind.u8.wrap ((K.val : Int) / 16) = (K.val : Int) / 16 := by decide +kernel
  exact key ⟨X, h⟩
theorem rem16 (X : Nat) (h : X < 256) : (X : Int).tmod 16 = (X : Int) % 16 := by
  have key : ∀ K : Fin 256, (K.val : Int).tmod 16 = (K.val : Int) % 16 := by decide +kernel
  exact key ⟨X, h⟩
theorem quo16i (X : Nat) (h : X < 256) : IntKind.i64.wrap ((X : Int) / 16) = (X : Int) / 16 := by rw [IntKind.wrap_i64]; omega
theorem new_drew (w : World) (o : Obj) : Below w.heap.size w (w.alloc o).drew := ⟨(below_new w o).os, (below_new w o).tape, (below_new w o).output, (below_new w o).size, (below_new w o).block⟩
theorem three_cells (a b : UInt8) : Lib.byteCells [37, a, b] = [.int .u8 37, .int .u8 (a.toNat : Int), .int .u8 (b.toNat : Int)] := by simp [Lib.byteCells]
theorem ofNat_nat (Y : Nat) (h : Y < 256) : (UInt8.ofNat Y).toNat = Y := by simp; omega
theorem enc_len (s : B) : (encodeB s).length ≤ 3 * s.length := by
  unfold encodeB
  induction s with
  | nil => simp
  | cons c l ih =>
    rw [List.flatMap_cons, List.length_append, List.length_cons]
    have : (if unres c = true then [c] else codeB c).length ≤ 3 := by split <;> simp [codeB]
    omega
set_option maxRecDepth 20000 in
set_option maxHeartbeats 8000000 in
theorem rencode_any (s : B) (hs : s.length ≤ 35184372088832) (w : World) : Calls Tryd.prog 25 #[.string (str s)] w fun e w' => e = .returned (.string (str (encodeB s))) ∧ Below w.heap.size w w' := by
  obtain ⟨i0, hi0, hz0, hz1, hz2⟩ := info_parts infoB
  obtain ⟨n, hn⟩ : ∃ n, s.length = n := ⟨_, rfl⟩
  have HN := hid hn
  obtain ⟨S, hS⟩ : ∃ S, str s = S := ⟨_, rfl⟩
  have hSn : S.size = n := by rw [← hS, str_size, hn]
  have HByte := hid (show ∀ (k : Nat) (h : k < s.length) (h2 : k < S.size), S[k]'h2 = s[k]'h from fun k h h2 => by subst hS; rfl)
  obtain ⟨R, hR0⟩ : ∃ R, encodeB s = R := ⟨_, rfl⟩
  have HR0 := hid hR0
  rw [hn] at hs
  rw [hS, hR0]
  clear hn hS hR0
  go_enter Tryd.func25, Tryd.ntmps25
  go_wp2
  go_loopg [3, 4] (n + 1) (fun gk s3 s4 wr => ∃ i : Nat, i ≤ n ∧ gk = n - i + 1 ∧ s4 = .int .i64 (i : Int) ∧ ∃ acc : B, Own wr w.heap.size s3 acc ∧ acc.length ≤ 3 * i ∧ R = acc ++ encodeB (s.drop i) ∧ Below w.heap.size w wr)
  case atStart => exact ⟨0, by omega, rfl, rfl, [], Own.nil w _, by simp, by rw [← HR0.out]; simp, Below.refl _ _⟩
  case round =>
    obtain ⟨i, hi, rfl, rfl, acc, ho, hln0, hR, hb⟩ := hrel
    have HB := hid hb
    have HR := hid hR
    obtain ⟨ln, hln⟩ : ∃ ln, acc.length = ln := ⟨_, rfl⟩
    have HLe := hid hln
    obtain ⟨p, c0, rfl⟩ := own_slice ho
    have HO := hid ho
    rw [hln] at HO hln0 ⊢
    clear ho hb hln hR
    by_cases hin : i < n
    · have hi1 : i < s.length := by rw [HN.out]; exact hin
      obtain ⟨y, hy⟩ : ∃ y, s[i] = y := ⟨_, rfl⟩
      obtain ⟨Y, hY⟩ : ∃ Y : Nat, y.toNat = Y := ⟨_, rfl⟩
      have hY256 : Y < 256 := by rw [← hY]; exact y.toNat_lt
      have hbyte : ∀ h : i < S.size, (S[i]'h).toNat = Y := fun h => by rw [HByte.out i hi1 h, hy, hY]
      have HD := hid (show s.drop i = y :: s.drop (i + 1) from by rw [List.drop_eq_getElem_cons hi1, hy])
      have HSt := hid (show R = acc ++ (if unres y then [y] else codeB y) ++ encodeB (s.drop (i + 1)) from by rw [HR.out, HD.out]; simp [encodeB])
      have HUn := hid (unres_any y)
      unfold byteV at HUn
      rw [hY] at HUn
      have HBy := hid (show Lib.byteCells [y] = [.int .u8 (Y : Int)] from by rw [one_cell, hY])
      clear hy hi1
      cases hu : unres y with
      | true =>
        rw [hu] at HUn HSt
        have HNx := hid (show R = acc ++ [y] ++ encodeB (s.drop (i + 1)) from HSt.out)
        clear hu hY
        go_wp2_with (first | (go_at_call 27; (with_reducible refine (HUn.out _).mono ?_); rintro e w1 ⟨rfl, rfl⟩) | (at_builtin; refine wpList_append_own_at _ rfl (.tmp 15) (.tmp 19) 63 rfl w.heap.size 5 i0 _ 1 1 Tryd.underlying63 hi0 hz0 hz1 hz2 rfl (by decide) (.slice p ln c0) ln (Lib.byteCells acc) (by go_simp) (by have h8 := HO.out.alloc (.cells #[.int .u8 (Y : Int)] 5 (0, 0)); unfold Own at h8; rw [HLe.out] at h8; exact h8) ⟨w1.heap.size, 0, none⟩ 1 1 [.int .u8 (Y : Int)] (by go_simp) rfl (cells_new w1 _ _) (by simp [Value.oneCell']) (by unfold maxLen; omega) (by omega) (Nat.le_trans HB.out.size (below_new _ _).size) ?_; intro v' w' hown hgr _ _; obtain ⟨p7, L7, c7, rfl⟩ := own_slice3 hown; have HB2 := hid (HB.out.trans (((below_new w1 (.cells #[.int .u8 (Y : Int)] 5 (0, 0))).mono HB.out.size).trans (Own.below (HO.out.alloc (.cells #[.int .u8 (Y : Int)] 5 (0, 0))) (Nat.le_trans HB.out.size (below_new _ _).size) hgr))); have HW := hid (Own.put (acc := acc) (bs := [y]) (by rw [HLe.out]; exact hown) HBy.out rfl); clear hown hgr))
        go_roundg (n - (i + 1) + 1)
        case measure => omega
        case rel => exact ⟨i + 1, by omega, rfl, by push_cast; go_num, _, HW.out, by rw [List.length_append, HLe.out]; simp; omega, HNx.out, HB2.out⟩
      | false =>
        rw [hu] at HUn HSt
        have HNx := hid (show R = acc ++ [37, greatD (Y / 16), greatD (Y % 16)] ++ encodeB (s.drop (i + 1)) from by rw [HSt.out, ← hY]; rfl)
        clear hu hY
        have HE1 := hid (great_at (Y / 16) (by omega))
        have HE2 := hid (great_at (Y % 16) (by omega))
        obtain ⟨h1, hh1⟩ : ∃ h1, greatD (Y / 16) = h1 := ⟨_, rfl⟩
        obtain ⟨h2, hh2⟩ : ∃ h2, greatD (Y % 16) = h2 := ⟨_, rfl⟩
        rw [hh1] at HE1
        rw [hh2] at HE2
        rw [hh1, hh2] at HNx
        have HBc := hid (three_cells h1 h2)
        clear hh1 hh2
        go_wp2_with (go_at_call 27; (with_reducible refine (HUn.out _).mono ?_); rintro e w1 ⟨rfl, hw1⟩; subst w1)
        refine wp_region_noPanic ?_
        refine any_begin 14 (by kernel_rfl) (by kernel_rfl) ?_
        refine any_take (i := 0) (some 21) rfl rfl (by kernel_rfl) (by kernel_rfl) (by kernel_rfl) (fun _ _ _ h => h) (by rfl) (v := ?v0e) ?hy0e ?rest0e
        case hy0e => intro w0; go_simp; try with_reducible rfl
        simp only [Act.put, List.setIfInBounds_toArray, List.set_cons_zero, List.set_cons_succ]
        refine any_take (i := 1) (some 22) rfl rfl (by kernel_rfl) (by kernel_rfl) (by kernel_rfl) (fun _ _ _ h => h) (by rfl) (v := ?v1e) ?hy1e ?rest1e
        case hy1e => intro w0; go_simp; try with_reducible rfl
        simp only [Act.put, List.setIfInBounds_toArray, List.set_cons_zero, List.set_cons_succ]
        refine any_take (i := 2) (some 23) rfl rfl (by kernel_rfl) (by kernel_rfl) (by kernel_rfl) (fun _ _ _ h => h) (by rfl) (v := ?v2e) ?hy2e ?rest2e
        case hy2e => intro w0; go_simp; try with_reducible rfl
        simp only [Act.put, List.setIfInBounds_toArray, List.set_cons_zero, List.set_cons_succ]
        refine any_take (i := 3) (some 24) rfl rfl (by kernel_rfl) (by kernel_rfl) (by kernel_rfl) (fun _ _ _ h => h) (by rfl) (v := ?v3e) ?hy3e ?rest3e
        case hy3e => intro w0; go_simp; try with_reducible rfl
        simp only [Act.put, List.setIfInBounds_toArray, List.set_cons_zero, List.set_cons_succ]
        refine any_take (i := 4) (some 25) rfl rfl (by kernel_rfl) (by kernel_rfl) (by kernel_rfl) (fun _ _ _ h => h) (by rfl) (v := .int .u8 ((Y / 16 : Nat) : Int)) ?hy4e ?rest4e
        case hy4e => intro w0; go_simp; exact quo16 Y hY256
        simp only [Act.put, List.setIfInBounds_toArray, List.set_cons_zero, List.set_cons_succ]
        refine any_take (i := 5) (some 26) rfl rfl (by kernel_rfl) (by kernel_rfl) (by kernel_rfl) (fun _ _ _ h => h) (by rfl) (v := .int .u8 (h1.toNat : Int)) ?hy5e ?rest5e
        case hy5e => intro w0; go_simp; rw [dif_pos ⟨by omega, by omega⟩]; simp only [Result.andThen]; congr 4; exact HE1.out _ _ (by omega)
        simp only [Act.put, List.setIfInBounds_toArray, List.set_cons_zero, List.set_cons_succ]
        refine any_take (i := 6) (some 27) rfl rfl (by kernel_rfl) (by kernel_rfl) (by kernel_rfl) (fun _ _ _ h => h) (by rfl) (v := ?v6e) ?hy6e ?rest6e
        case hy6e => intro w0; go_simp; try with_reducible rfl
        simp only [Act.put, List.setIfInBounds_toArray, List.set_cons_zero, List.set_cons_succ]
        refine any_take (i := 7) (some 28) rfl rfl (by kernel_rfl) (by kernel_rfl) (by kernel_rfl) (fun _ _ _ h => h) (by rfl) (v := ?v7e) ?hy7e ?rest7e
        case hy7e => intro w0; go_simp; try with_reducible rfl
        simp only [Act.put, List.setIfInBounds_toArray, List.set_cons_zero, List.set_cons_succ]
        refine any_take (i := 8) (some 29) rfl rfl (by kernel_rfl) (by kernel_rfl) (by kernel_rfl) (fun _ _ _ h => h) (by rfl) (v := ?v8e) ?hy8e ?rest8e
        case hy8e => intro w0; go_simp; try with_reducible rfl
        simp only [Act.put, List.setIfInBounds_toArray, List.set_cons_zero, List.set_cons_succ]
        refine any_take (i := 9) (some 30) rfl rfl (by kernel_rfl) (by kernel_rfl) (by kernel_rfl) (fun _ _ _ h => h) (by rfl) (v := .int .u8 ((Y % 16 : Nat) : Int)) ?hy9e ?rest9e
        case hy9e => intro w0; go_simp; exact rem16 Y hY256
        simp only [Act.put, List.setIfInBounds_toArray, List.set_cons_zero, List.set_cons_succ]
        refine any_take (i := 10) (some 31) rfl rfl (by kernel_rfl) (by kernel_rfl) (by kernel_rfl) (fun _ _ _ h => h) (by rfl) (v := .int .u8 (h2.toNat : Int)) ?hy10e ?rest10e
        case hy10e => intro w0; go_simp; rw [dif_pos ⟨by omega, by omega⟩]; simp only [Result.andThen]; congr 4; exact HE2.out _ _ (by omega)
        simp only [Act.put, List.setIfInBounds_toArray, List.set_cons_zero, List.set_cons_succ]
        refine any_one (i := 11) (by kernel_rfl) rfl (fun K hK => ?_)
        go_simp
        refine hK _ _ ?_
        clear hK K
        refine any_one (i := 12) (by kernel_rfl) rfl (fun K hK => ?_)
        rw [if_pos (by rfl)]
        refine wp_append_own_at (.tmp 21) (.tmp 32) 63 rfl w.heap.size 5 i0 _ 1 1 Tryd.underlying63 hi0 hz0 hz1 hz2 rfl (by decide) (.slice p ln c0) ln (Lib.byteCells acc) (by go_simp) (by have h8 := HO.out.alloc (.cells #[.int .u8 37, .int .u8 (h1.toNat : Int), .int .u8 (h2.toNat : Int)] 5 (0, 0)); unfold Own at h8; rw [HLe.out] at h8; exact h8) ⟨wr.heap.size, 0, none⟩ 3 3 [.int .u8 37, .int .u8 (h1.toNat : Int), .int .u8 (h2.toNat : Int)] (by go_simp) rfl (cells_new wr _ _) (by simp [Value.oneCell']) (by unfold maxLen; omega) (by omega) (Nat.le_trans HB.out.size (below_new _ _).size) ?_
        intro v' w' hown hgr _
        obtain ⟨p7, L7, c7, rfl⟩ := own_slice3 hown
        have HB2 := hid (HB.out.trans (((new_drew wr _).mono HB.out.size).trans (Own.below (show Own (wr.alloc (.cells #[.int .u8 37, .int .u8 (h1.toNat : Int), .int .u8 (h2.toNat : Int)] 5 (0, 0))).drew w.heap.size _ acc from HO.out.alloc (.cells #[.int .u8 37, .int .u8 (h1.toNat : Int), .int .u8 (h2.toNat : Int)] 5 (0, 0))) (Nat.le_trans HB.out.size (below_new _ _).size) hgr)))
        have HW := hid (Own.put (acc := acc) (bs := [37, h1, h2]) (by rw [HLe.out]; exact hown) HBc.out rfl)
        clear hown hgr
        show K (Act.put _ (some 33) (.slice p7 L7 c7)) w'
        refine hK _ _ ?_
        clear hK K
        simp only [Act.put, List.setIfInBounds_toArray, List.set_cons_zero, List.set_cons_succ]
        refine any_take (i := 13) (some 3) rfl rfl (by kernel_rfl) (by kernel_rfl) (by kernel_rfl) (fun _ _ _ h => h) (by rfl) (v := ?v13e) ?hy13e ?rest13e
        case hy13e => intro w0; go_simp; try with_reducible rfl
        simp only [Act.put, List.setIfInBounds_toArray, List.set_cons_zero, List.set_cons_succ]
        refine any_done (by kernel_rfl) ?_ _
        refine NoPanic.normal ?_
        go_wp2
        go_roundg (n - (i + 1) + 1)
        case measure => omega
        case rel => exact ⟨i + 1, by omega, rfl, by push_cast; go_num, _, HW.out, by rw [List.length_append, HLe.out]; simp; omega, HNx.out, HB2.out⟩
    · obtain rfl : n = i := by omega
      have HV := hid (show R = acc from by rw [HR.out, List.drop_of_length_le (by rw [HN.out]; exact Nat.le_refl _)]; simp [encodeB])
      have hcv := conv_own HO.out
      go_wp2
      go_ret
      rw [HV.out]
      exact ⟨rfl, HB.out⟩
theorem meant_none : ∀ {c : UInt8} {l : B}, codeI (c :: l) < 0 → meantB (c :: l) = c :: meantB l
  | c, [], _ => by simp [meantB]
  | c, [d], _ => by simp [meantB]
  | c, a :: b :: r, h => by
    rw [meantB]
    cases hv : codeOf c a b with
    | none => rfl
    | some v => rw [codeI_some hv] at h; omega
theorem meant_some : ∀ {c : UInt8} {l : B}, ¬ codeI (c :: l) < 0 → meantB (c :: l) = (if unres (UInt8.ofNat (codeI (c :: l)).toNat) then [UInt8.ofNat (codeI (c :: l)).toNat] else codeB (UInt8.ofNat (codeI (c :: l)).toNat)) ++ meantB (l.drop 2)
  | c, [], h => absurd (by rw [codeI_short (by simp)]; omega) h
  | c, [d], h => absurd (by rw [codeI_short (by simp)]; omega) h
  | c, a :: b :: r, h => by
    rw [meantB]
    cases hv : codeOf c a b with
    | none => rw [codeI_none hv] at h; omega
    | some v =>
      rw [codeI_some hv]
      simp
set_option maxRecDepth 20000 in
set_option maxHeartbeats 8000000 in
theorem rmeant_any (s : B) (hs : s.length ≤ 35184372088832) (w : World) : Calls Tryd.prog 40 #[.string (str s)] w fun e w' => e = .returned (.string (str (meantB s))) ∧ Below w.heap.size w w' := by
  obtain ⟨i0, hi0, hz0, hz1, hz2⟩ := info_parts infoB
  obtain ⟨n, hn⟩ : ∃ n, s.length = n := ⟨_, rfl⟩
  have HN := hid hn
  obtain ⟨S, hS⟩ : ∃ S, str s = S := ⟨_, rfl⟩
  have hSn : S.size = n := by rw [← hS, str_size, hn]
  have HByte := hid (show ∀ (k : Nat) (h : k < s.length) (h2 : k < S.size), S[k]'h2 = s[k]'h from fun k h h2 => by subst hS; rfl)
  have HCo := hid (show ∀ i, i ≤ n → ∀ w, _ from fun i hi => code_any s i (by omega) (by omega))
  obtain ⟨R, hR0⟩ : ∃ R, meantB s = R := ⟨_, rfl⟩
  have HR0 := hid hR0
  rw [hS] at HCo
  rw [hn] at hs
  rw [hS, hR0]
  clear hn hS hR0
  go_enter Tryd.func40, Tryd.ntmps40
  go_wp2
  go_loopg [3, 4] (n + 1) (fun gk s3 s4 wr => ∃ i : Nat, i ≤ n ∧ gk = n - i + 1 ∧ s4 = .int .i64 (i : Int) ∧ ∃ acc : B, Own wr w.heap.size s3 acc ∧ acc.length ≤ i ∧ R = acc ++ meantB (s.drop i) ∧ Below w.heap.size w wr)
  case atStart => exact ⟨0, by omega, rfl, rfl, [], Own.nil w _, by simp, by rw [← HR0.out]; simp, Below.refl _ _⟩
  case round =>
    obtain ⟨i, hi, rfl, rfl, acc, ho, hln0, hR, hb⟩ := hrel
    have HB := hid hb
    have HR := hid hR
    obtain ⟨ln, hln⟩ : ∃ ln, acc.length = ln := ⟨_, rfl⟩
    have HLe := hid hln
    obtain ⟨p, c0, rfl⟩ := own_slice ho
    have HO := hid ho
    rw [hln] at HO hln0 ⊢
    clear ho hb hln hR
    by_cases hin : i < n
    · have hi1 : i < s.length := by rw [HN.out]; exact hin
      obtain ⟨y, hy⟩ : ∃ y, s[i] = y := ⟨_, rfl⟩
      obtain ⟨D, hD⟩ : ∃ D : Nat, y.toNat = D := ⟨_, rfl⟩
      have hD256 : D < 256 := by rw [← hD]; exact y.toNat_lt
      have hbyte : ∀ h : i < S.size, (S[i]'h).toNat = D := fun h => by rw [HByte.out i hi1 h, hy, hD]
      have HD := hid (show s.drop i = y :: s.drop (i + 1) from by rw [List.drop_eq_getElem_cons hi1, hy])
      have HBy := hid (show Lib.byteCells [y] = [.int .u8 (D : Int)] from by rw [one_cell, hD])
      have HSn := hid (show codeI (s.drop i) < 0 → R = acc ++ [y] ++ meantB (s.drop (i + 1)) from fun h => by
        rw [HD.out] at h
        rw [HR.out, HD.out, meant_none h]
        simp)
      have HSs := hid (show ¬ codeI (s.drop i) < 0 → R = acc ++ (if unres (UInt8.ofNat (codeI (s.drop i)).toNat) then [UInt8.ofNat (codeI (s.drop i)).toNat] else codeB (UInt8.ofNat (codeI (s.drop i)).toNat)) ++ meantB (s.drop (i + 3)) from fun h => by
        rw [HR.out]
        rw [HD.out] at h ⊢
        rw [meant_some h, List.drop_drop, List.append_assoc])
      have HLg := hid (show 0 ≤ codeI (s.drop i) → i + 3 ≤ n from fun h => by
        rw [HD.out] at h
        have := code_long h
        rw [List.length_drop, HN.out] at this
        omega)
      have HCi := hid (HCo.out i (by omega))
      have hbd := codeI_bd (s.drop i)
      obtain ⟨V, hV⟩ : ∃ V, codeI (s.drop i) = V := ⟨_, rfl⟩
      rw [hV] at HSn HSs HLg HCi hbd
      clear hV hy hi1 hD
      by_cases hneg : V < 0
      · have HNx := hid (HSn.out hneg)
        go_wp2_with (first | (go_at_call 46; (with_reducible refine (HCi.out _).mono ?_); rintro e w1 ⟨rfl, q, hq⟩; have HOq := hid (show Own w1 w.heap.size (.slice p ln c0) acc from (by rw [hq]; exact HO.out.keep (below_drew (Below.refl _ _) q))); have HBq := hid (show Below w.heap.size w w1 from (by rw [hq]; exact below_drew HB.out q)); clear hq) | (at_builtin; refine wpList_append_own_at _ rfl (.tmp 27) (.tmp 31) 63 rfl w.heap.size 5 i0 _ 1 1 Tryd.underlying63 hi0 hz0 hz1 hz2 rfl (by decide) (.slice p ln c0) ln (Lib.byteCells acc) (by go_simp) (by have h8 := HOq.out.alloc (.cells #[.int .u8 (D : Int)] 5 (0, 0)); unfold Own at h8; rw [HLe.out] at h8; exact h8) ⟨w1.heap.size, 0, none⟩ 1 1 [.int .u8 (D : Int)] (by go_simp) rfl (cells_new w1 _ _) (by simp [Value.oneCell']) (by unfold maxLen; omega) (by omega) (Nat.le_trans HBq.out.size (below_new _ _).size) ?_; intro v' w' hown hgr _ _; obtain ⟨p7, L7, c7, rfl⟩ := own_slice3 hown; have HB2 := hid (HBq.out.trans (((below_new w1 (.cells #[.int .u8 (D : Int)] 5 (0, 0))).mono HBq.out.size).trans (Own.below (HOq.out.alloc (.cells #[.int .u8 (D : Int)] 5 (0, 0))) (Nat.le_trans HBq.out.size (below_new _ _).size) hgr))); have HW := hid (Own.put (acc := acc) (bs := [y]) (by rw [HLe.out]; exact hown) HBy.out rfl); clear hown hgr))
        go_roundg (n - (i + 1) + 1)
        case measure => omega
        case rel => exact ⟨i + 1, by omega, rfl, by push_cast; go_num, _, HW.out, by rw [List.length_append, HLe.out]; simp; omega, HNx.out, HB2.out⟩
      · have hi3 : i + 3 ≤ n := HLg.out (by omega)
        obtain ⟨Y, rfl⟩ : ∃ Y : Nat, V = (Y : Int) := ⟨V.toNat, by omega⟩
        have hY256 : Y < 256 := by omega
        have hw8 := u8_wrap Y hY256
        have HSt := hid (HSs.out hneg)
        simp only [Int.toNat_natCast] at HSt
        have HUn := hid (unres_any (UInt8.ofNat Y))
        unfold byteV at HUn
        rw [ofNat_nat Y hY256] at HUn
        have HBu := hid (of_cell Y hY256)
        cases hu : unres (UInt8.ofNat Y) with
        | true =>
          rw [hu] at HUn HSt
          have HNx := hid (show R = acc ++ [UInt8.ofNat Y] ++ meantB (s.drop (i + 3)) from HSt.out)
          clear hu
          go_wp2_with (first | (go_at_call 46; (with_reducible refine (HCi.out _).mono ?_); rintro e w1 ⟨rfl, q, hq⟩; have HOq := hid (show Own w1 w.heap.size (.slice p ln c0) acc from (by rw [hq]; exact HO.out.keep (below_drew (Below.refl _ _) q))); have HBq := hid (show Below w.heap.size w w1 from (by rw [hq]; exact below_drew HB.out q)); clear hq) | (go_at_call 27; (with_reducible refine (HUn.out _).mono ?_); rintro e w2 ⟨rfl, hw2⟩; subst w2) | (at_builtin; refine wpList_append_own_at _ rfl (.tmp 37) (.tmp 40) 63 rfl w.heap.size 5 i0 _ 1 1 Tryd.underlying63 hi0 hz0 hz1 hz2 rfl (by decide) (.slice p ln c0) ln (Lib.byteCells acc) (by go_simp) (by have h8 := HOq.out.alloc (.cells #[.int .u8 (Y : Int)] 5 (0, 0)); unfold Own at h8; rw [HLe.out] at h8; exact h8) ⟨w1.heap.size, 0, none⟩ 1 1 [.int .u8 (Y : Int)] (by go_simp) rfl (cells_new w1 _ _) (by simp [Value.oneCell']) (by unfold maxLen; omega) (by omega) (Nat.le_trans HBq.out.size (below_new _ _).size) ?_; intro v' w' hown hgr _ _; obtain ⟨p7, L7, c7, rfl⟩ := own_slice3 hown; have HB2 := hid (HBq.out.trans (((below_new w1 (.cells #[.int .u8 (Y : Int)] 5 (0, 0))).mono HBq.out.size).trans (Own.below (HOq.out.alloc (.cells #[.int .u8 (Y : Int)] 5 (0, 0))) (Nat.le_trans HBq.out.size (below_new _ _).size) hgr))); have HW := hid (Own.put (acc := acc) (bs := [UInt8.ofNat Y]) (by rw [HLe.out]; exact hown) HBu.out rfl); clear hown hgr))
          go_roundg (n - (i + 3) + 1)
          case measure => omega
          case rel => exact ⟨i + 3, by omega, rfl, by push_cast; go_num, _, HW.out, by rw [List.length_append, HLe.out]; simp; omega, HNx.out, HB2.out⟩
        | false =>
          rw [hu] at HUn HSt
          have HNx := hid (show R = acc ++ [37, greatD (Y / 16), greatD (Y % 16)] ++ meantB (s.drop (i + 3)) from by rw [HSt.out]; unfold codeB; rw [ofNat_nat Y hY256]; rfl)
          clear hu
          have HE1 := hid (great_at (Y / 16) (by omega))
          have HE2 := hid (great_at (Y % 16) (by omega))
          obtain ⟨h1, hh1⟩ : ∃ h1, greatD (Y / 16) = h1 := ⟨_, rfl⟩
          obtain ⟨h2, hh2⟩ : ∃ h2, greatD (Y % 16) = h2 := ⟨_, rfl⟩
          rw [hh1] at HE1
          rw [hh2] at HE2
          rw [hh1, hh2] at HNx
          have HBc := hid (three_cells h1 h2)
          clear hh1 hh2
          go_wp2_with (first | (go_at_call 46; (with_reducible refine (HCi.out _).mono ?_); rintro e w1 ⟨rfl, q, hq⟩; have HOq := hid (show Own w1 w.heap.size (.slice p ln c0) acc from (by rw [hq]; exact HO.out.keep (below_drew (Below.refl _ _) q))); have HBq := hid (show Below w.heap.size w w1 from (by rw [hq]; exact below_drew HB.out q)); clear hq) | (go_at_call 27; (with_reducible refine (HUn.out _).mono ?_); rintro e w2 ⟨rfl, hw2⟩; subst w2))
          refine wp_region_noPanic ?_
          refine any_begin 10 (by kernel_rfl) (by kernel_rfl) ?_
          refine any_take (i := 0) (some 15) rfl rfl (by kernel_rfl) (by kernel_rfl) (by kernel_rfl) (fun _ _ _ h => h) (by rfl) (v := ?v0m) ?hy0m ?rest0m
          case hy0m => intro w0; go_simp; try with_reducible rfl
          simp only [Act.put, List.setIfInBounds_toArray, List.set_cons_zero, List.set_cons_succ]
          refine any_take (i := 1) (some 16) rfl rfl (by kernel_rfl) (by kernel_rfl) (by kernel_rfl) (fun _ _ _ h => h) (by rfl) (v := ?v1m) ?hy1m ?rest1m
          case hy1m => intro w0; go_simp; try with_reducible rfl
          simp only [Act.put, List.setIfInBounds_toArray, List.set_cons_zero, List.set_cons_succ]
          refine any_take (i := 2) (some 17) rfl rfl (by kernel_rfl) (by kernel_rfl) (by kernel_rfl) (fun _ _ _ h => h) (by rfl) (v := .int .i64 ((Y / 16 : Nat) : Int)) ?hy2m ?rest2m
          case hy2m => intro w0; go_simp; first | (exact quo16i Y hY256) | (rw [quo16i Y hY256]; rfl)
          simp only [Act.put, List.setIfInBounds_toArray, List.set_cons_zero, List.set_cons_succ]
          refine any_take (i := 3) (some 18) rfl rfl (by kernel_rfl) (by kernel_rfl) (by kernel_rfl) (fun _ _ _ h => h) (by rfl) (v := .int .u8 (h1.toNat : Int)) ?hy3m ?rest3m
          case hy3m => intro w0; go_simp; rw [dif_pos ⟨by omega, by omega⟩]; simp only [Result.andThen]; congr 4; exact HE1.out _ _ (by omega)
          simp only [Act.put, List.setIfInBounds_toArray, List.set_cons_zero, List.set_cons_succ]
          refine any_take (i := 4) (some 19) rfl rfl (by kernel_rfl) (by kernel_rfl) (by kernel_rfl) (fun _ _ _ h => h) (by rfl) (v := ?v4m) ?hy4m ?rest4m
          case hy4m => intro w0; go_simp; try with_reducible rfl
          simp only [Act.put, List.setIfInBounds_toArray, List.set_cons_zero, List.set_cons_succ]
          refine any_take (i := 5) (some 20) rfl rfl (by kernel_rfl) (by kernel_rfl) (by kernel_rfl) (fun _ _ _ h => h) (by rfl) (v := .int .i64 ((Y % 16 : Nat) : Int)) ?hy5m ?rest5m
          case hy5m => intro w0; go_simp; first | (exact rem16 Y hY256) | (rw [rem16 Y hY256]; rfl)
          simp only [Act.put, List.setIfInBounds_toArray, List.set_cons_zero, List.set_cons_succ]
          refine any_take (i := 6) (some 21) rfl rfl (by kernel_rfl) (by kernel_rfl) (by kernel_rfl) (fun _ _ _ h => h) (by rfl) (v := .int .u8 (h2.toNat : Int)) ?hy6m ?rest6m
          case hy6m => intro w0; go_simp; rw [dif_pos ⟨by omega, by omega⟩]; simp only [Result.andThen]; congr 4; exact HE2.out _ _ (by omega)
          simp only [Act.put, List.setIfInBounds_toArray, List.set_cons_zero, List.set_cons_succ]
          refine any_one (i := 7) (by kernel_rfl) rfl (fun K hK => ?_)
          go_simp
          refine hK _ _ ?_
          clear hK K
          refine any_one (i := 8) (by kernel_rfl) rfl (fun K hK => ?_)
          rw [if_pos (by rfl)]
          refine wp_append_own_at (.tmp 15) (.tmp 22) 63 rfl w.heap.size 5 i0 _ 1 1 Tryd.underlying63 hi0 hz0 hz1 hz2 rfl (by decide) (.slice p ln c0) ln (Lib.byteCells acc) (by go_simp) (by have h8 := HOq.out.alloc (.cells #[.int .u8 37, .int .u8 (h1.toNat : Int), .int .u8 (h2.toNat : Int)] 5 (0, 0)); unfold Own at h8; rw [HLe.out] at h8; exact h8) ⟨w1.heap.size, 0, none⟩ 3 3 [.int .u8 37, .int .u8 (h1.toNat : Int), .int .u8 (h2.toNat : Int)] (by go_simp) rfl (cells_new w1 _ _) (by simp [Value.oneCell']) (by unfold maxLen; omega) (by omega) (Nat.le_trans HBq.out.size (below_new _ _).size) ?_
          intro v' w' hown hgr _
          obtain ⟨p7, L7, c7, rfl⟩ := own_slice3 hown
          have HB2 := hid (HBq.out.trans (((new_drew w1 _).mono HBq.out.size).trans (Own.below (show Own (w1.alloc (.cells #[.int .u8 37, .int .u8 (h1.toNat : Int), .int .u8 (h2.toNat : Int)] 5 (0, 0))).drew w.heap.size _ acc from HOq.out.alloc (.cells #[.int .u8 37, .int .u8 (h1.toNat : Int), .int .u8 (h2.toNat : Int)] 5 (0, 0))) (Nat.le_trans HBq.out.size (below_new _ _).size) hgr)))
          have HW := hid (Own.put (acc := acc) (bs := [37, h1, h2]) (by rw [HLe.out]; exact hown) HBc.out rfl)
          clear hown hgr
          show K (Act.put _ (some 23) (.slice p7 L7 c7)) w'
          refine hK _ _ ?_
          clear hK K
          simp only [Act.put, List.setIfInBounds_toArray, List.set_cons_zero, List.set_cons_succ]
          refine any_take (i := 9) (some 3) rfl rfl (by kernel_rfl) (by kernel_rfl) (by kernel_rfl) (fun _ _ _ h => h) (by rfl) (v := ?v9m) ?hy9m ?rest9m
          case hy9m => intro w0; go_simp; try with_reducible rfl
          simp only [Act.put, List.setIfInBounds_toArray, List.set_cons_zero, List.set_cons_succ]
          refine any_done (by kernel_rfl) ?_ _
          refine NoPanic.normal ?_
          go_wp2
          go_roundg (n - (i + 3) + 1)
          case measure => omega
          case rel => exact ⟨i + 3, by omega, rfl, by push_cast; go_num, _, HW.out, by rw [List.length_append, HLe.out]; simp; omega, HNx.out, HB2.out⟩
    · obtain rfl : n = i := by omega
      have HV := hid (show R = acc from by rw [HR.out, List.drop_of_length_le (by rw [HN.out]; exact Nat.le_refl _)]; simp [meantB])
      have hcv := conv_own HO.out
      go_wp2
      go_ret
      rw [HV.out]
      exact ⟨rfl, HB.out⟩
end Go.Proofs.YtbdbmlklijmefaaDoor
