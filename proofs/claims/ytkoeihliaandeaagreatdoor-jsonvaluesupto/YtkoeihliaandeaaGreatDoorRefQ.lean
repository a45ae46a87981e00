/- The document's answer: a text in quotation marks. JsonQuotes. -/
import Derived.Test.YtkoeihliaandeaaGreatDoorRefU
namespace Go.Proofs.YtkoeihliaandeaaGreatDoor
open Go.RowKit

abbrev hexR : ByteArray := ⟨#[48, 49, 50, 51, 52, 53, 54, 55, 56, 57, 97, 98, 99, 100, 101, 102]⟩
theorem hexr_at (i : Nat) (hi : i < 16) : ∀ (j : Nat) (h : j < hexR.size), j = i → (hexR[j]'h).toNat = (hexD i).toNat := by
  intro j h e
  subst e
  have key : ∀ K : Fin 16, hexR.data[K.val]? = some (hexD K.val) := by decide
  have h2 : hexR.data[j]? = some (hexD j) := key ⟨j, hi⟩
  have h3 : hexR.data[j]? = some (hexR.data[j]'h) := Array.getElem?_eq_getElem h
  have h4 : hexR.data[j]'h = hexD j := Option.some.inj (h3.symm.trans h2)
  exact congrArg UInt8.toNat h4
theorem quo16 (X : Nat) (h : X < 256) : IntKind.u8.wrap ((X : Int) / 16) = (X : Int) / 16 := by
  have key : ∀ K : Fin 256, IntKind.u8.wrap ((K.val : Int) / 16) = (K.val : Int) / 16 := by decide +kernel
  exact key ⟨X, h⟩
theorem rem16 (X : Nat) (h : X < 256) : (X : Int).tmod 16 = (X : Int) % 16 := by
  have key : ∀ K : Fin 256, (K.val : Int).tmod 16 = (K.val : Int) % 16 := by decide +kernel
  exact key ⟨X, h⟩
set_option maxRecDepth 20000 in
set_option maxHeartbeats 8000000 in
theorem refQuote_any (s : B) (hs : 6 * s.length + 10 ≤ 140737488355328) (w : World) :
    Calls Tryz.prog 42 #[.string (str s)] w fun e w' => e = .returned (.tuple #[.string (str (quoteS s).1), .int .i64 ((quoteS s).2 : Int)]) ∧ Below w.heap.size w w' := by
  obtain ⟨i0, hi0, hz0, hz1, hz2⟩ := info_parts infoB
  obtain ⟨S, hS⟩ : ∃ S, str s = S := ⟨_, rfl⟩
  obtain ⟨n, hn⟩ : ∃ n, S.size = n := ⟨_, rfl⟩
  have hsl : s.length = n := by rw [← hn, ← hS]; show s.length = s.toArray.size; simp
  have HD := hid (show S.data.toList = s from by rw [← hS])
  have HN := hid hsl
  have HSz := hid hn
  rw [hS]
  rw [hsl] at hs
  clear hS hsl
  have HU8 := hid (utf8_any S (by rw [hn]; omega) w)
  rw [HD.out] at HU8
  cases hv : Lib.validD s with
  | false =>
    have HR := hid (show quoteS s = ([], 3) from by unfold quoteS; rw [hv]; rfl)
    rw [HR.out]
    rw [hv] at HU8
    clear hv
    go_enter Tryz.func42, Tryz.ntmps42
    go_wp2_with (go_at_call 45; refine HU8.out.mono ?_; rintro e w1 ⟨rfl, rfl⟩)
    go_ret2
    exact ⟨rfl, Below.refl _ _⟩
  | true =>
    have HR := hid (show quoteS s = (quoteB s, 0) from by unfold quoteS; rw [hv]; rfl)
    rw [HR.out]
    rw [hv] at HU8
    clear hv
    have HO0 := hid (Own.start w 34)
    have HB0 := hid (below_new w (.cells #[.int .u8 34] 5 (0, 0)))
    go_enter Tryz.func42, Tryz.ntmps42
    go_wp2_with (go_at_call 45; refine HU8.out.mono ?_; rintro e w1 ⟨rfl, rfl⟩)
    go_loopg [4, 5] (n + 1) (fun gk s4 s5 wr => ∃ i : Nat, i ≤ n ∧ gk = n - i + 1 ∧ s5 = .int .i64 (i : Int) ∧ Own wr w1.heap.size s4 (34 :: escs (s.take i)) ∧ w1.heap.size ≤ wr.heap.size ∧ Below w1.heap.size w1 wr)
    case atStart => exact ⟨0, by omega, rfl, rfl, HO0.out, HB0.out.size, HB0.out⟩
    case round =>
      obtain ⟨i, hi, rfl, rfl, ho, hsz, hb⟩ := hrel
      have HB := hid hb
      have HZ := hid hsz
      obtain ⟨acc, hacc⟩ : ∃ acc, 34 :: escs (s.take i) = acc := ⟨_, rfl⟩
      have hln0 : acc.length ≤ 6 * i + 1 := by
        rw [← hacc]
        have := escs_most (s.take i)
        rw [List.length_take, HN.out] at this
        simp only [List.length_cons]
        omega
      rw [hacc] at ho
      obtain ⟨p, c0, rfl⟩ := own_slice ho
      obtain ⟨ln, hln⟩ : ∃ ln, acc.length = ln := ⟨_, rfl⟩
      have HLe := hid hln
      have HO := hid ho
      rw [hln] at HO hln0 ⊢
      have HAcc := hid hacc
      clear ho hb hsz hln hacc
      by_cases hin : i < n
      · have b1 : (i : Int) < (n : Int) := by omega
        have hi1 : i < s.length := by rw [HN.out]; exact hin
        obtain ⟨c, hc⟩ : ∃ c, s[i] = c := ⟨_, rfl⟩
        have HIx := hid (show ∀ h : i < S.size, (S[i]'h) = c from fun h => by
          rw [← hc]
          have e : S.data.toList[i]? = s[i]? := by rw [HD.out]
          rw [List.getElem?_eq_getElem hi1] at e
          have e2 : S.data[i]? = some (S.data[i]'h) := Array.getElem?_eq_getElem h
          have e3 : S.data.toList[i]? = S.data[i]? := by simp
          exact Option.some.inj (e2.symm.trans (e3.symm.trans e)))
        have HTk := hid (show 34 :: escs (s.take (i + 1)) = acc ++ esc c from by rw [← HAcc.out, List.take_add_one, List.getElem?_eq_getElem hi1, hc, escs_app]; simp [escs])
        obtain ⟨X, hX⟩ : ∃ X : Nat, c.toNat = X := ⟨_, rfl⟩
        have hX256 : X < 256 := by rw [← hX]; exact c.toNat_lt
        have hbyte : ∀ h : i < S.size, (S[i]'h).toNat = X := fun h => by rw [HIx.out h, hX]
        clear hc hi1
        by_cases h34 : c = 34 ∨ c = 92
        · have he : esc c = [92, c] := by unfold esc; rw [if_pos h34]
          have HEsc := hid (show Lib.byteCells (esc c) = [.int .u8 92, .int .u8 (X : Int)] ∧ (esc c).length = 2 from by rw [he]; exact ⟨by simp [Lib.byteCells, hX], rfl⟩)
          have h2 : X = 34 ∨ X = 92 := by rcases h34 with rfl | rfl <;> (rw [← hX]; simp)
          clear hX h34 he
          rcases h2 with rfl | rfl
          · go_wp2_with (at_builtin; refine wpList_append_own_at _ rfl (.tmp 31) (.tmp 33) 55 rfl w1.heap.size 5 i0 _ 1 1 Tryz.underlying55 hi0 hz0 hz1 hz2 rfl (by decide) (.slice p ln c0) ln (Lib.byteCells acc) (by go_simp) (by have := HO.out.alloc (.cells #[.int .u8 92, .int .u8 34] 5 (0, 0)); unfold Own at this; rw [HLe.out] at this; exact this) ⟨wr.heap.size, 0, none⟩ 2 2 [.int .u8 92, .int .u8 34] (by go_simp) rfl (cells_new wr _ _) (by simp [Value.oneCell']) (by unfold maxLen; omega) (by omega) (Nat.le_trans HZ.out (below_new _ _).size) ?_; intro v' w' hown hgr _ _; obtain ⟨p7, L7, c7, rfl⟩ := own_slice3 hown; have HB2 := hid (HB.out.trans (((below_new wr _).mono HZ.out).trans (Own.below (HO.out.alloc (.cells #[.int .u8 92, .int .u8 34] 5 (0, 0))) (Nat.le_trans HZ.out (below_new _ _).size) hgr))); have HW := hid (Own.put (bs := esc c) (by rw [HLe.out]; exact hown) HEsc.out.1 HEsc.out.2); clear hown hgr)
            go_roundg (n - (i + 1) + 1)
            case measure => omega
            case rel => exact ⟨i + 1, by omega, rfl, by push_cast; rfl, by rw [HTk.out]; exact HW.out, HB2.out.size, HB2.out⟩
          · go_wp2_with (at_builtin; refine wpList_append_own_at _ rfl (.tmp 31) (.tmp 33) 55 rfl w1.heap.size 5 i0 _ 1 1 Tryz.underlying55 hi0 hz0 hz1 hz2 rfl (by decide) (.slice p ln c0) ln (Lib.byteCells acc) (by go_simp) (by have := HO.out.alloc (.cells #[.int .u8 92, .int .u8 92] 5 (0, 0)); unfold Own at this; rw [HLe.out] at this; exact this) ⟨wr.heap.size, 0, none⟩ 2 2 [.int .u8 92, .int .u8 92] (by go_simp) rfl (cells_new wr _ _) (by simp [Value.oneCell']) (by unfold maxLen; omega) (by omega) (Nat.le_trans HZ.out (below_new _ _).size) ?_; intro v' w' hown hgr _ _; obtain ⟨p7, L7, c7, rfl⟩ := own_slice3 hown; have HB2 := hid (HB.out.trans (((below_new wr _).mono HZ.out).trans (Own.below (HO.out.alloc (.cells #[.int .u8 92, .int .u8 92] 5 (0, 0))) (Nat.le_trans HZ.out (below_new _ _).size) hgr))); have HW := hid (Own.put (bs := esc c) (by rw [HLe.out]; exact hown) HEsc.out.1 HEsc.out.2); clear hown hgr)
            go_roundg (n - (i + 1) + 1)
            case measure => omega
            case rel => exact ⟨i + 1, by omega, rfl, by push_cast; rfl, by rw [HTk.out]; exact HW.out, HB2.out.size, HB2.out⟩
        have n34 : ((X : Int) == 34) = false := by
          simp only [beq_eq_false_iff_ne, ne_eq]
          intro e
          exact h34 (.inl (UInt8.toNat_inj.1 (by rw [hX]; show X = 34; omega)))
        have n92 : ((X : Int) == 92) = false := by
          simp only [beq_eq_false_iff_ne, ne_eq]
          intro e
          exact h34 (.inr (UInt8.toNat_inj.1 (by rw [hX]; show X = 92; omega)))
        by_cases h10 : c = 10
        · have he : esc c = [92, 110] := by unfold esc; rw [if_neg h34, if_pos h10]
          have HEsc := hid (show Lib.byteCells (esc c) = [.int .u8 92, .int .u8 110] ∧ (esc c).length = 2 from by rw [he]; exact ⟨by simp [Lib.byteCells], rfl⟩)
          obtain rfl : X = 10 := by rw [← hX, h10]; rfl
          clear hX h34 he
          go_wp2_with (at_builtin; refine wpList_append_own_at _ rfl (.tmp 38) (.tmp 39) 55 rfl w1.heap.size 5 i0 _ 1 1 Tryz.underlying55 hi0 hz0 hz1 hz2 rfl (by decide) (.slice p ln c0) ln (Lib.byteCells acc) (by go_simp) (by have := HO.out.alloc (.cells #[.int .u8 92, .int .u8 110] 5 (0, 0)); unfold Own at this; rw [HLe.out] at this; exact this) ⟨wr.heap.size, 0, none⟩ 2 2 [.int .u8 92, .int .u8 110] (by go_simp) rfl (cells_new wr _ _) (by simp [Value.oneCell']) (by unfold maxLen; omega) (by omega) (Nat.le_trans HZ.out (below_new _ _).size) ?_; intro v' w' hown hgr _ _; obtain ⟨p7, L7, c7, rfl⟩ := own_slice3 hown; have HB2 := hid (HB.out.trans (((below_new wr _).mono HZ.out).trans (Own.below (HO.out.alloc (.cells #[.int .u8 92, .int .u8 110] 5 (0, 0))) (Nat.le_trans HZ.out (below_new _ _).size) hgr))); have HW := hid (Own.put (bs := esc c) (by rw [HLe.out]; exact hown) HEsc.out.1 HEsc.out.2); clear hown hgr)
          go_roundg (n - (i + 1) + 1)
          case measure => omega
          case rel => exact ⟨i + 1, by omega, rfl, by push_cast; rfl, by rw [HTk.out]; exact HW.out, HB2.out.size, HB2.out⟩
        have n10 : ((X : Int) == 10) = false := by
          simp only [beq_eq_false_iff_ne, ne_eq]
          intro e
          exact h10 (UInt8.toNat_inj.1 (by rw [hX]; show X = 10; omega))
        by_cases h13 : c = 13
        · have he : esc c = [92, 114] := by unfold esc; rw [if_neg h34, if_neg h10, if_pos h13]
          have HEsc := hid (show Lib.byteCells (esc c) = [.int .u8 92, .int .u8 114] ∧ (esc c).length = 2 from by rw [he]; exact ⟨by simp [Lib.byteCells], rfl⟩)
          obtain rfl : X = 13 := by rw [← hX, h13]; rfl
          clear hX h34 he
          go_wp2_with (at_builtin; refine wpList_append_own_at _ rfl (.tmp 44) (.tmp 45) 55 rfl w1.heap.size 5 i0 _ 1 1 Tryz.underlying55 hi0 hz0 hz1 hz2 rfl (by decide) (.slice p ln c0) ln (Lib.byteCells acc) (by go_simp) (by have := HO.out.alloc (.cells #[.int .u8 92, .int .u8 114] 5 (0, 0)); unfold Own at this; rw [HLe.out] at this; exact this) ⟨wr.heap.size, 0, none⟩ 2 2 [.int .u8 92, .int .u8 114] (by go_simp) rfl (cells_new wr _ _) (by simp [Value.oneCell']) (by unfold maxLen; omega) (by omega) (Nat.le_trans HZ.out (below_new _ _).size) ?_; intro v' w' hown hgr _ _; obtain ⟨p7, L7, c7, rfl⟩ := own_slice3 hown; have HB2 := hid (HB.out.trans (((below_new wr _).mono HZ.out).trans (Own.below (HO.out.alloc (.cells #[.int .u8 92, .int .u8 114] 5 (0, 0))) (Nat.le_trans HZ.out (below_new _ _).size) hgr))); have HW := hid (Own.put (bs := esc c) (by rw [HLe.out]; exact hown) HEsc.out.1 HEsc.out.2); clear hown hgr)
          go_roundg (n - (i + 1) + 1)
          case measure => omega
          case rel => exact ⟨i + 1, by omega, rfl, by push_cast; rfl, by rw [HTk.out]; exact HW.out, HB2.out.size, HB2.out⟩
        have n13 : ((X : Int) == 13) = false := by
          simp only [beq_eq_false_iff_ne, ne_eq]
          intro e
          exact h13 (UInt8.toNat_inj.1 (by rw [hX]; show X = 13; omega))
        by_cases h9 : c = 9
        · have he : esc c = [92, 116] := by unfold esc; rw [if_neg h34, if_neg h10, if_neg h13, if_pos h9]
          have HEsc := hid (show Lib.byteCells (esc c) = [.int .u8 92, .int .u8 116] ∧ (esc c).length = 2 from by rw [he]; exact ⟨by simp [Lib.byteCells], rfl⟩)
          obtain rfl : X = 9 := by rw [← hX, h9]; rfl
          clear hX h34 he
          go_wp2_with (at_builtin; refine wpList_append_own_at _ rfl (.tmp 50) (.tmp 51) 55 rfl w1.heap.size 5 i0 _ 1 1 Tryz.underlying55 hi0 hz0 hz1 hz2 rfl (by decide) (.slice p ln c0) ln (Lib.byteCells acc) (by go_simp) (by have := HO.out.alloc (.cells #[.int .u8 92, .int .u8 116] 5 (0, 0)); unfold Own at this; rw [HLe.out] at this; exact this) ⟨wr.heap.size, 0, none⟩ 2 2 [.int .u8 92, .int .u8 116] (by go_simp) rfl (cells_new wr _ _) (by simp [Value.oneCell']) (by unfold maxLen; omega) (by omega) (Nat.le_trans HZ.out (below_new _ _).size) ?_; intro v' w' hown hgr _ _; obtain ⟨p7, L7, c7, rfl⟩ := own_slice3 hown; have HB2 := hid (HB.out.trans (((below_new wr _).mono HZ.out).trans (Own.below (HO.out.alloc (.cells #[.int .u8 92, .int .u8 116] 5 (0, 0))) (Nat.le_trans HZ.out (below_new _ _).size) hgr))); have HW := hid (Own.put (bs := esc c) (by rw [HLe.out]; exact hown) HEsc.out.1 HEsc.out.2); clear hown hgr)
          go_roundg (n - (i + 1) + 1)
          case measure => omega
          case rel => exact ⟨i + 1, by omega, rfl, by push_cast; rfl, by rw [HTk.out]; exact HW.out, HB2.out.size, HB2.out⟩
        have n9 : ((X : Int) == 9) = false := by
          simp only [beq_eq_false_iff_ne, ne_eq]
          intro e
          exact h9 (UInt8.toNat_inj.1 (by rw [hX]; show X = 9; omega))
        by_cases h32 : X < 32
        · have he : esc c = [92, 117, 48, 48, hexD (X / 16), hexD (X % 16)] := by unfold esc; rw [if_neg h34, if_neg h10, if_neg h13, if_neg h9, if_pos (by rw [hX]; exact h32), hX]
          have HEsc := hid (show Lib.byteCells (esc c) = [.int .u8 92, .int .u8 117, .int .u8 48, .int .u8 48, .int .u8 ((hexD (X / 16)).toNat : Int), .int .u8 ((hexD (X % 16)).toNat : Int)] ∧ (esc c).length = 6 from by rw [he]; exact ⟨by simp [Lib.byteCells], rfl⟩)
          have HE1 := hid (hexr_at (X / 16) (by omega))
          have HE2 := hid (hexr_at (X % 16) (by omega))
          clear hX he h34 h10 h13 h9
          obtain ⟨h1, hh1⟩ : ∃ h1, hexD (X / 16) = h1 := ⟨_, rfl⟩
          obtain ⟨h2, hh2⟩ : ∃ h2, hexD (X % 16) = h2 := ⟨_, rfl⟩
          rw [hh1] at HE1
          rw [hh2] at HE2
          rw [hh1, hh2] at HEsc
          clear hh1 hh2
          go_wp2
          refine wp_region_noPanic ?_
          refine any_begin 10 (by kernel_rfl) (by kernel_rfl) ?_
          refine any_take (i := 0) (some 56) rfl rfl (by kernel_rfl) (by kernel_rfl) (by kernel_rfl) (fun _ _ _ h => h) (by rfl) (v := ?v0a) ?hy0a ?rest0a
          case hy0a => intro w0; go_simp; try with_reducible rfl
          simp only [Act.put, List.setIfInBounds_toArray, List.set_cons_zero, List.set_cons_succ]
          refine any_take (i := 1) (some 57) rfl rfl (by kernel_rfl) (by kernel_rfl) (by kernel_rfl) (fun _ _ _ h => h) (by rfl) (v := ?v1a) ?hy1a ?rest1a
          case hy1a => intro w0; go_simp; try with_reducible rfl
          simp only [Act.put, List.setIfInBounds_toArray, List.set_cons_zero, List.set_cons_succ]
          refine any_take (i := 2) (some 58) rfl rfl (by kernel_rfl) (by kernel_rfl) (by kernel_rfl) (fun _ _ _ h => h) (by rfl) (v := .int .u8 ((X / 16 : Nat) : Int)) ?hy2a ?rest2a
          case hy2a => intro w0; go_simp; exact quo16 X hX256
          simp only [Act.put, List.setIfInBounds_toArray, List.set_cons_zero, List.set_cons_succ]
          refine any_take (i := 3) (some 59) rfl rfl (by kernel_rfl) (by kernel_rfl) (by kernel_rfl) (fun _ _ _ h => h) (by rfl) (v := .int .u8 (h1.toNat : Int)) ?hy3a ?rest3a
          case hy3a => intro w0; go_simp; rw [dif_pos ⟨by omega, by omega⟩]; simp only [Result.andThen]; congr 4; exact HE1.out _ _ (by omega)
          simp only [Act.put, List.setIfInBounds_toArray, List.set_cons_zero, List.set_cons_succ]
          refine any_take (i := 4) (some 60) rfl rfl (by kernel_rfl) (by kernel_rfl) (by kernel_rfl) (fun _ _ _ h => h) (by rfl) (v := ?v4a) ?hy4a ?rest4a
          case hy4a => intro w0; go_simp; try with_reducible rfl
          simp only [Act.put, List.setIfInBounds_toArray, List.set_cons_zero, List.set_cons_succ]
          refine any_take (i := 5) (some 61) rfl rfl (by kernel_rfl) (by kernel_rfl) (by kernel_rfl) (fun _ _ _ h => h) (by rfl) (v := .int .u8 ((X % 16 : Nat) : Int)) ?hy5a ?rest5a
          case hy5a => intro w0; go_simp; exact rem16 X hX256
          simp only [Act.put, List.setIfInBounds_toArray, List.set_cons_zero, List.set_cons_succ]
          refine any_take (i := 6) (some 62) rfl rfl (by kernel_rfl) (by kernel_rfl) (by kernel_rfl) (fun _ _ _ h => h) (by rfl) (v := .int .u8 (h2.toNat : Int)) ?hy6a ?rest6a
          case hy6a => intro w0; go_simp; rw [dif_pos ⟨by omega, by omega⟩]; simp only [Result.andThen]; congr 4; exact HE2.out _ _ (by omega)
          simp only [Act.put, List.setIfInBounds_toArray, List.set_cons_zero, List.set_cons_succ]
          refine any_one (i := 7) (by kernel_rfl) rfl (fun K hK => ?_)
          go_simp
          refine hK _ _ ?_
          clear hK K
          refine any_one (i := 8) (by kernel_rfl) rfl (fun K hK => ?_)
          rw [if_pos (by rfl)]
          refine wp_append_own_at (.tmp 56) (.tmp 63) 55 rfl w1.heap.size 5 i0 _ 1 1 Tryz.underlying55 hi0 hz0 hz1 hz2 rfl (by decide) (.slice p ln c0) ln (Lib.byteCells acc) (by go_simp) (by have := HO.out.alloc (.cells #[.int .u8 92, .int .u8 117, .int .u8 48, .int .u8 48, .int .u8 (h1.toNat : Int), .int .u8 (h2.toNat : Int)] 5 (0, 0)); unfold Own at this; rw [HLe.out] at this; exact this) ⟨wr.heap.size, 0, none⟩ 6 6 [.int .u8 92, .int .u8 117, .int .u8 48, .int .u8 48, .int .u8 (h1.toNat : Int), .int .u8 (h2.toNat : Int)] (by go_simp) rfl (cells_new wr _ _) (by simp [Value.oneCell']) (by unfold maxLen; omega) (by omega) (Nat.le_trans HZ.out (below_new _ _).size) ?_
          intro v' w' hown hgr _
          obtain ⟨p7, L7, c7, rfl⟩ := own_slice3 hown
          have HB2 := hid (HB.out.trans (((new_drew wr _).mono HZ.out).trans (Own.below (show Own (wr.alloc (.cells #[.int .u8 92, .int .u8 117, .int .u8 48, .int .u8 48, .int .u8 (h1.toNat : Int), .int .u8 (h2.toNat : Int)] 5 (0, 0))).drew w1.heap.size _ acc from HO.out.alloc (.cells #[.int .u8 92, .int .u8 117, .int .u8 48, .int .u8 48, .int .u8 (h1.toNat : Int), .int .u8 (h2.toNat : Int)] 5 (0, 0))) (Nat.le_trans HZ.out (below_new _ _).size) hgr)))
          have HW := hid (Own.put (bs := esc c) (by rw [HLe.out]; exact hown) HEsc.out.1 HEsc.out.2)
          clear hown hgr
          show K (Act.put _ (some 64) (.slice p7 L7 c7)) w'
          refine hK _ _ ?_
          clear hK K
          simp only [Act.put, List.setIfInBounds_toArray, List.set_cons_zero, List.set_cons_succ]
          refine any_take (i := 9) (some 4) rfl rfl (by kernel_rfl) (by kernel_rfl) (by kernel_rfl) (fun _ _ _ h => h) (by rfl) (v := ?v9a) ?hy9a ?rest9a
          case hy9a => intro w0; go_simp; try with_reducible rfl
          simp only [Act.put, List.setIfInBounds_toArray, List.set_cons_zero, List.set_cons_succ]
          refine any_done (by kernel_rfl) ?_ _
          refine NoPanic.normal ?_
          go_wp2
          go_roundg (n - (i + 1) + 1)
          case measure => omega
          case rel => exact ⟨i + 1, by omega, rfl, by push_cast; rfl, by rw [HTk.out]; exact HW.out, HB2.out.size, HB2.out⟩
        · have he : esc c = [c] := by unfold esc; rw [if_neg h34, if_neg h10, if_neg h13, if_neg h9, if_neg (by rw [hX]; exact h32)]
          have HEsc := hid (show Lib.byteCells (esc c) = [.int .u8 (X : Int)] ∧ (esc c).length = 1 from by rw [he]; exact ⟨by simp [Lib.byteCells, hX], rfl⟩)
          clear hX he h34 h10 h13 h9
          go_wp2_with (at_builtin; refine wpList_append_own_at _ rfl (.tmp 20) (.tmp 22) 55 rfl w1.heap.size 5 i0 _ 1 1 Tryz.underlying55 hi0 hz0 hz1 hz2 rfl (by decide) (.slice p ln c0) ln (Lib.byteCells acc) (by go_simp) (by have := HO.out.alloc (.cells #[.int .u8 (X : Int)] 5 (0, 0)); unfold Own at this; rw [HLe.out] at this; exact this) ⟨wr.heap.size, 0, none⟩ 1 1 [.int .u8 (X : Int)] (by go_simp) rfl (cells_new wr _ _) (by simp [Value.oneCell']) (by unfold maxLen; omega) (by omega) (Nat.le_trans HZ.out (below_new _ _).size) ?_; intro v' w' hown hgr _ _; obtain ⟨p7, L7, c7, rfl⟩ := own_slice3 hown; have HB2 := hid (HB.out.trans (((below_new wr _).mono HZ.out).trans (Own.below (HO.out.alloc (.cells #[.int .u8 (X : Int)] 5 (0, 0))) (Nat.le_trans HZ.out (below_new _ _).size) hgr))); have HW := hid (Own.put (bs := esc c) (by rw [HLe.out]; exact hown) HEsc.out.1 HEsc.out.2); clear hown hgr)
          go_roundg (n - (i + 1) + 1)
          case measure => omega
          case rel => exact ⟨i + 1, by omega, rfl, by push_cast; rfl, by rw [HTk.out]; exact HW.out, HB2.out.size, HB2.out⟩
      · obtain rfl : i = n := by omega
        have HTk := hid (show s.take i = s from List.take_of_length_le (by rw [HN.out]; exact Nat.le_refl _))
        rw [HTk.out] at HAcc
        have HQ := hid (show acc ++ [34] = quoteB s from by rw [← HAcc.out]; simp [quoteB])
        go_wp2_with (at_builtin; refine wpList_append_own_at _ rfl (.tmp 65) (.tmp 66) 55 rfl w1.heap.size 5 i0 _ 1 1 Tryz.underlying55 hi0 hz0 hz1 hz2 rfl (by decide) (.slice p ln c0) ln (Lib.byteCells acc) (by go_simp) (by have := HO.out.alloc (.cells #[.int .u8 34] 5 (0, 0)); unfold Own at this; rw [HLe.out] at this; exact this) ⟨wr.heap.size, 0, none⟩ 1 1 [.int .u8 34] (by go_simp) rfl (cells_new wr _ _) (by simp [Value.oneCell']) (by unfold maxLen; omega) (by omega) (Nat.le_trans HZ.out (below_new _ _).size) ?_; intro v' w' hown hgr _ _; obtain ⟨p7, L7, c7, rfl⟩ := own_slice3 hown; have HB2 := hid (HB.out.trans (((below_new wr _).mono HZ.out).trans (Own.below (HO.out.alloc (.cells #[.int .u8 34] 5 (0, 0))) (Nat.le_trans HZ.out (below_new _ _).size) hgr))); have HW := hid (Own.put (acc := acc) (bs := [34]) (by rw [HLe.out]; exact hown) rfl rfl); have hconv := conv_own (World.ownsRowF_of HW.out); rw [HQ.out] at hconv; clear hown hgr)
        go_ret2
        exact ⟨rfl, HB2.out⟩
end Go.Proofs.YtkoeihliaandeaaGreatDoor
