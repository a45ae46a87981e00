/- The program's paths without dot segments, and as they are meant; its texts without codes. -/
import Derived.Test.YtbdbmlklijmefaaDoorPLib
namespace Go.Proofs.YtbdbmlklijmefaaDoor
open Go.RowKit

/-- A text or the project's error 23. -/
def decE (r : Option B) : Value := match r with
  | some t => .tuple #[.string (str t), .nilIface]
  | none => .tuple #[.string (str []), .iface 55 (.int .i64 23)]
def meas (rest : B) (more : Bool) : Nat := if more then rest.length + 2 else 1
def roomN (rest : B) (more : Bool) : Nat := if more then rest.length + 1 else 0
theorem join_one (o : List B) (t : B) : joinS (o ++ [t]) = joinS o ++ 47 :: t := by rw [join_app]; simp [joinS]
theorem join_end (o : List B) : joinS (o ++ [[]]) = joinS o ++ [47] := join_one o []
theorem whole_app {o : List B} {t : B} (h : Whole o) (ht : ∀ y ∈ t, y ≠ (47 : UInt8)) : Whole (o ++ [t]) := by
  intro s hs
  rcases List.mem_append.1 hs with h1 | h1
  · exact h s h1
  · rw [List.mem_singleton.1 h1]; exact ht
theorem whole_less {o : List B} {t : B} (h : Whole (o ++ [t])) : Whole o ∧ ∀ y ∈ t, y ≠ (47 : UInt8) := ⟨fun s hs => h s (by simp [hs]), h t (by simp)⟩
theorem room_cut {rest t rest' : B} {more' : Bool} (h : cutF 47 rest = (t, rest', more')) : t.length + 1 + roomN rest' more' = roomN rest true ∧ meas rest' more' < meas rest true ∧ (∀ y ∈ t, y ≠ (47 : UInt8)) := by
  obtain ⟨h1, h2, h3⟩ := cutF_spec 47 rest
  rw [h] at h1 h2 h3
  simp only at h1 h2 h3
  have hl := congrArg List.length h2
  rw [List.length_append] at hl
  unfold roomN meas
  cases more' with
  | true => simp at hl ⊢; exact ⟨by omega, by omega, h1⟩
  | false => simp at hl ⊢; exact ⟨by omega, h1⟩
set_option maxRecDepth 20000 in
set_option maxHeartbeats 8000000 in
theorem wdots_any (c0 : UInt8) (r : B) (hs : (c0 :: r).length ≤ 4294967280) (w : World) (hE : Env w) : Calls Tryd.prog 36 #[.string (str (c0 :: r))] w fun e w' => e = .returned (decE ((dotsL (cutAt 47 r) []).map joinS)) ∧ Below w.heap.size w w' := by
  obtain ⟨i0, hi0, hz0, hz1, hz2⟩ := info_parts infoB
  obtain ⟨n, hn⟩ : ∃ n, (c0 :: r).length = n := ⟨_, rfl⟩
  have hn2 : r.length + 1 = n := by rw [← hn]; rfl
  have HN := hid hn
  obtain ⟨S, hS⟩ : ∃ S, str (c0 :: r) = S := ⟨_, rfl⟩
  have hSn : S.size = n := by rw [← hS, str_size, hn]
  have hex : S.extract 1 n = str r := by rw [← hS, ext_drop _ 1 n hn]; rfl
  obtain ⟨Dn, hDn⟩ : ∃ Dn, dotsL (cutAt 47 r) [] = Dn := ⟨_, rfl⟩
  have HD0 := hid (show dotsL (toCome r true) [] = Dn from hDn)
  have HRo := hid (show roomN r true = n from hn2)
  have HE := hid hE
  have h1n : 1 ≤ n := by omega
  rw [hn] at hs
  rw [hS, hDn]
  obtain ⟨R0, hR0⟩ : ∃ R0, str r = R0 := ⟨_, rfl⟩
  have HR0 := hid hR0
  rw [hR0] at hex
  clear hn hS hDn hE hn2 hR0
  obtain ⟨W0, hmk, hown0, hbel0⟩ := mk_row w n (by omega)
  have HO0 := hid hown0
  have HB0 := hid hbel0
  clear hown0 hbel0
  go_enter Tryd.func36, Tryd.ntmps36
  go_wp2
  clear hmk hex
  go_loopg [4, 5, 6] (meas r true) (fun gk s4 s5 s6 wr => ∃ (rest : B) (more : Bool) (out : List B), gk = meas rest more ∧ s5 = .string (str rest) ∧ s6 = .bool more ∧ Own wr w.heap.size s4 (joinS out) ∧ Whole out ∧ dotsL (toCome rest more) out = Dn ∧ (joinS out).length + roomN rest more ≤ n ∧ Below w.heap.size w wr)
  case atStart => exact ⟨r, true, [], rfl, by rw [HR0.out], rfl, HO0.out, fun s hs => by simp at hs, HD0.out, by rw [HRo.out]; simp [joinS], HB0.out⟩
  case round =>
    obtain ⟨rest, more, out, rfl, rfl, rfl, ho, hwh, hR, hro, hb⟩ := hrel
    have HBr := hid hb
    have HR := hid hR
    have HWh := hid hwh
    obtain ⟨ln, hln⟩ : ∃ ln, (joinS out).length = ln := ⟨_, rfl⟩
    have HLe := hid hln
    obtain ⟨p, c0, rfl⟩ := own_slice ho
    have HOr := hid ho
    rw [hln] at HOr hro ⊢
    have hcap := HOr.out.cap
    have HBo := hid (show Below w.heap.size w wr from hb)
    clear ho hb hln hR hwh
    cases more with
    | false =>
      have HV := hid (show Dn = some out from by rw [← HR.out]; rfl)
      have hcv := conv_own HOr.out
      go_wp2
      go_ret2
      rw [HV.out]
      exact ⟨rfl, HBr.out⟩
    | true =>
      obtain ⟨t, rest', more', hcut⟩ : ∃ t rest' more', cutF 47 rest = (t, rest', more') := ⟨_, _, _, rfl⟩
      have HCt := hid (pcut_any 47 rest (by unfold roomN at hro; simp at hro; omega))
      rw [hcut] at HCt
      obtain ⟨hrm, hms, htn⟩ := room_cut hcut
      have HTn := hid htn
      have HMs := hid hms
      have HRi := hid (show dotsL (t :: toCome rest' more') out = Dn from by rw [← HR.out, come_cut, hcut])
      have HNil := hid (come_nil rest' more')
      clear htn hms hcut
      obtain ⟨rn, hrn⟩ : ∃ rn, roomN rest' more' = rn := ⟨_, rfl⟩
      rw [hrn] at hrm
      rw [← hrm] at hro
      have HRn := hid hrn
      clear hrm hrn
      obtain ⟨T5, hT5⟩ : ∃ T5, str rest = T5 := ⟨_, rfl⟩
      rw [hT5] at HCt
      have HT5 := hid hT5
      rw [hT5]
      clear hT5
      have H47 := hid (show Lib.byteCells [47] = [.int .u8 47] from rfl)
      by_cases h2 : t = [46, 46]
      · subst h2
        rcases List.eq_nil_or_concat out with ha | ⟨ac2, xl, ha⟩
        · subst ha
          obtain rfl : ln = 0 := by rw [← HLe.out]; rfl
          have HF := hid (show Dn = none from by rw [← HRi.out, dots_nil2])
          go_wp2_with (go_at_call 48; (with_reducible refine (HCt.out _ (HE.out.below HBo.out)).mono ?_); rintro e w1 ⟨rfl, hb1⟩; have HO := hid (HOr.out.keep hb1); have HB := hid (HBr.out.trans (hb1.mono HBr.out.size)); clear hb1)
          go_ret2
          rw [HF.out]
          exact ⟨rfl, HB.out⟩
        · rw [List.concat_eq_append] at ha
          subst ha
          obtain ⟨hw1, hw2⟩ := whole_less HWh.out
          have HW1 := hid hw1
          obtain ⟨k, hk⟩ : ∃ k, (joinS ac2).length = k := ⟨_, rfl⟩
          have HLk := hid hk
          have hkl : k + 1 ≤ ln := by rw [← HLe.out, join_one, List.length_append, hk]; simp
          rw [join_one] at HOr HLe
          have HLa := hid (show ∀ (w1 : World), Own w1 w.heap.size (.slice p ln c0) (joinS ac2 ++ 47 :: xl) → _ from fun w1 h1 => last_any w.heap.size (joinS ac2) xl hw2 ln HLe.out (by omega) p c0 w1 h1)
          rw [hk] at HLa
          have HKc := hid (show ∀ (w1 : World), Own w1 w.heap.size (.slice p ln c0) (joinS ac2 ++ 47 :: xl) → Own w1 w.heap.size (.slice p k c0) (joinS ac2) from fun w1 h1 => by have h8 := h1.less; rw [hk] at h8; exact h8)
          have hl0 : ¬ (ln : Int) = 0 := by omega
          have hl1 : ((ln : Int) == 0) = false := by simpa using hl0
          have hkc : (k : Int) ≤ (c0 : Int) := by omega
          clear hk hw1 hw2
          cases more' with
          | true =>
            have HNx := hid (show dotsL (toCome rest' true) ac2 = Dn from by rw [← HRi.out, dots_two, if_neg (by simp [toCome, cut_ne])])
            go_wp2_with (first | (go_at_call 48; (with_reducible refine (HCt.out _ (HE.out.below HBo.out)).mono ?_); rintro e w1 ⟨rfl, hb1⟩; have HO := hid (HOr.out.keep hb1); have HB := hid (HBr.out.trans (hb1.mono HBr.out.size)); clear hb1) | (go_at_call 62; (with_reducible refine (HLa.out _ HO.out).mono ?_); rintro e w2 ⟨rfl, rfl⟩))
            go_roundg (meas rest' true)
            case measure => exact HMs.out
            case rel => exact ⟨rest', true, ac2, rfl, rfl, rfl, HKc.out _ HO.out, HW1.out, HNx.out, by rw [HLk.out, HRn.out]; omega, HB.out⟩
          | false =>
            have HNx := hid (show dotsL (toCome rest' false) (ac2 ++ [[]]) = Dn from by rw [← HRi.out, dots_two, if_pos (by simp [toCome])])
            go_wp2_with (first | (go_at_call 48; (with_reducible refine (HCt.out _ (HE.out.below HBo.out)).mono ?_); rintro e w1 ⟨rfl, hb1⟩; have HO := hid (HOr.out.keep hb1); have HB := hid (HBr.out.trans (hb1.mono HBr.out.size)); clear hb1) | (go_at_call 62; (with_reducible refine (HLa.out _ HO.out).mono ?_); rintro e w2 ⟨rfl, rfl⟩; have HOk := hid (HKc.out _ HO.out)) | (at_builtin; refine wpList_append_own_at _ rfl (.tmp 35) (.tmp 36) 63 rfl w.heap.size 5 i0 _ 1 1 Tryd.underlying63 hi0 hz0 hz1 hz2 rfl (by decide) (.slice p k c0) k (Lib.byteCells (joinS ac2)) (by go_simp) (by have h8 := HOk.out.alloc (.cells #[.int .u8 47] 5 (0, 0)); unfold Own at h8; rw [HLk.out] at h8; exact h8) ⟨w2.heap.size, 0, none⟩ 1 1 [.int .u8 47] (by go_simp) rfl (cells_new w2 _ _) (by simp [Value.oneCell']) (by unfold maxLen; omega) (by omega) (Nat.le_trans HB.out.size (below_new _ _).size) ?_; intro v' w9 hown hgr _ _; obtain ⟨p7, L7, c7, rfl⟩ := own_slice3 hown; have HB2 := hid (HB.out.trans (((below_new w2 (.cells #[.int .u8 47] 5 (0, 0))).mono HB.out.size).trans (Own.below (HOk.out.alloc (.cells #[.int .u8 47] 5 (0, 0))) (Nat.le_trans HB.out.size (below_new _ _).size) hgr))); have HW := hid (Own.put (acc := (joinS ac2)) (bs := [47]) (by rw [HLk.out]; exact hown) H47.out rfl); clear hown hgr))
            go_roundg (meas rest' false)
            case measure => exact HMs.out
            case rel => exact ⟨rest', false, ac2 ++ [[]], rfl, rfl, rfl, by rw [join_end]; exact HW.out, whole_app HW1.out (by simp), HNx.out, by rw [join_end, List.length_append, HLk.out, HRn.out]; simp; omega, HB2.out⟩
      · by_cases h1 : t = [46]
        · subst h1
          cases more' with
          | true =>
            have HNx := hid (show dotsL (toCome rest' true) out = Dn from by rw [← HRi.out, dots_one, if_neg (by simp [toCome, cut_ne])])
            go_wp2_with (go_at_call 48; (with_reducible refine (HCt.out _ (HE.out.below HBo.out)).mono ?_); rintro e w1 ⟨rfl, hb1⟩; have HO := hid (HOr.out.keep hb1); have HB := hid (HBr.out.trans (hb1.mono HBr.out.size)); clear hb1)
            go_roundg (meas rest' true)
            case measure => exact HMs.out
            case rel => exact ⟨rest', true, out, rfl, rfl, rfl, HO.out, HWh.out, HNx.out, by rw [HLe.out, HRn.out]; omega, HB.out⟩
          | false =>
            have HNx := hid (show dotsL (toCome rest' false) (out ++ [[]]) = Dn from by rw [← HRi.out, dots_one, if_pos (by simp [toCome])])
            go_wp2_with (first | (go_at_call 48; (with_reducible refine (HCt.out _ (HE.out.below HBo.out)).mono ?_); rintro e w1 ⟨rfl, hb1⟩; have HO := hid (HOr.out.keep hb1); have HB := hid (HBr.out.trans (hb1.mono HBr.out.size)); clear hb1) | (at_builtin; refine wpList_append_own_at _ rfl (.tmp 35) (.tmp 36) 63 rfl w.heap.size 5 i0 _ 1 1 Tryd.underlying63 hi0 hz0 hz1 hz2 rfl (by decide) (.slice p ln c0) ln (Lib.byteCells (joinS out)) (by go_simp) (by have h8 := HO.out.alloc (.cells #[.int .u8 47] 5 (0, 0)); unfold Own at h8; rw [HLe.out] at h8; exact h8) ⟨w1.heap.size, 0, none⟩ 1 1 [.int .u8 47] (by go_simp) rfl (cells_new w1 _ _) (by simp [Value.oneCell']) (by unfold maxLen; omega) (by omega) (Nat.le_trans HB.out.size (below_new _ _).size) ?_; intro v' w' hown hgr _ _; obtain ⟨p7, L7, c7, rfl⟩ := own_slice3 hown; have HB2 := hid (HB.out.trans (((below_new w1 (.cells #[.int .u8 47] 5 (0, 0))).mono HB.out.size).trans (Own.below (HO.out.alloc (.cells #[.int .u8 47] 5 (0, 0))) (Nat.le_trans HB.out.size (below_new _ _).size) hgr))); have HW := hid (Own.put (acc := (joinS out)) (bs := [47]) (by rw [HLe.out]; exact hown) H47.out rfl); clear hown hgr))
            go_roundg (meas rest' false)
            case measure => exact HMs.out
            case rel => exact ⟨rest', false, out ++ [[]], rfl, rfl, rfl, by rw [join_end]; exact HW.out, whole_app HWh.out (by simp), HNx.out, by rw [join_end, List.length_append, HLe.out, HRn.out]; simp; omega, HB2.out⟩
        · have HNx := hid (show dotsL (toCome rest' more') (out ++ [t]) = Dn from by rw [← HRi.out, dots_else h1 h2])
          have q1 : ((str t).toList == (⟨#[46]⟩ : ByteArray).toList) = false := ne_list (str_ne h1)
          have q2 : ((str t).toList == (⟨#[46, 46]⟩ : ByteArray).toList) = false := ne_list (str_ne h2)
          have q3 : (t == [46]) = false := by simpa using h1
          have q4 : (t == [46, 46]) = false := by simpa using h2
          obtain ⟨lt, hlt⟩ : ∃ lt, t.length = lt := ⟨_, rfl⟩
          rw [hlt] at hro
          have HTs := hid (show (str t).size = lt from by rw [str_size, hlt])
          have HLt := hid hlt
          have HL1 := hid (show (joinS out ++ [47]).length = ln + 1 from by rw [List.length_append, HLe.out]; rfl)
          clear hlt
          go_wp2_with (first | (go_at_call 48; (with_reducible refine (HCt.out _ (HE.out.below HBo.out)).mono ?_); rintro e w1 ⟨rfl, hb1⟩; have HO := hid (HOr.out.keep hb1); have HB := hid (HBr.out.trans (hb1.mono HBr.out.size)); clear hb1) | (at_builtin; refine wpList_append_own_at _ rfl (.tmp 38) (.tmp 39) 63 rfl w.heap.size 5 i0 _ 1 1 Tryd.underlying63 hi0 hz0 hz1 hz2 rfl (by decide) (.slice p ln c0) ln (Lib.byteCells (joinS out)) (by go_simp) (by have h8 := HO.out.alloc (.cells #[.int .u8 47] 5 (0, 0)); unfold Own at h8; rw [HLe.out] at h8; exact h8) ⟨w1.heap.size, 0, none⟩ 1 1 [.int .u8 47] (by go_simp) rfl (cells_new w1 _ _) (by simp [Value.oneCell']) (by unfold maxLen; omega) (by omega) (Nat.le_trans HB.out.size (below_new _ _).size) ?_; intro v' w7 hown hgr _ _; obtain ⟨p7, L7, c7, rfl⟩ := own_slice3 hown; have HB7 := hid (HB.out.trans (((below_new w1 (.cells #[.int .u8 47] 5 (0, 0))).mono HB.out.size).trans (Own.below (HO.out.alloc (.cells #[.int .u8 47] 5 (0, 0))) (Nat.le_trans HB.out.size (below_new _ _).size) hgr))); have HW7 := hid (Own.put (acc := (joinS out)) (bs := [47]) (by rw [HLe.out]; exact hown) H47.out rfl); clear hown hgr) | (at_builtin; refine Lib.wpList_append_own_string _ rfl (.tmp 40) (.tmp 41) 63 9 rfl w.heap.size 5 i0 Tryd.underlying63 Tryd.underlying9 hi0 hz0 hz1 hz2 (.slice p7 L7 c7) (ln + 1) (Lib.byteCells (joinS out ++ [47])) (by go_simp) (by have h8 := HW7.out; unfold Own at h8; rw [HL1.out] at h8; exact h8) (str t) (by go_simp) (by rw [HTs.out]; unfold maxLen; omega) (by rw [HTs.out]; omega) HB7.out.size ?_; intro v' w8 hown hgr _; obtain ⟨p8, L8, c8, rfl⟩ := own_slice3 hown; have HB8 := hid (HB7.out.trans (Own.below HW7.out HB7.out.size hgr)); have HW8 := hid (Own.put (acc := joinS out ++ [47]) (bs := t) (by rw [HL1.out]; exact hown) (by rw [strCells_str]) (by rw [HTs.out, HLt.out])); clear hown hgr))
          go_roundg (meas rest' more')
          case measure => exact HMs.out
          case rel => exact ⟨rest', more', out ++ [t], rfl, rfl, rfl, by rw [join_one, show (joinS out ++ 47 :: t) = joinS out ++ [47] ++ t from by simp]; exact HW8.out, whole_app HWh.out HTn.out, HNx.out, by rw [join_one, List.length_append, HLe.out, HRn.out, List.length_cons, HLt.out]; omega, HB8.out⟩
set_option maxRecDepth 20000 in
set_option maxHeartbeats 8000000 in
theorem ppath_any (s : B) (hs : s.length ≤ 35184372088832) (w : World) : Calls Tryd.prog 35 #[.string (str s)] w fun e w' => e = .returned (.bool (isPath s)) ∧ w' = w := by
  have HP := hid (pprefix_any s)
  have HM := hid (made_path s hs)
  rw [path_made] at HM
  have e0 : isPath s = (decide (s.head? = some 47) && made [47] true s) := rfl
  rw [e0]
  obtain ⟨a, ha⟩ : ∃ a, decide (s.head? = some 47) = a := ⟨_, rfl⟩
  obtain ⟨b, hb⟩ : ∃ b, made [47] true s = b := ⟨_, rfl⟩
  obtain ⟨S, hS⟩ : ∃ S, str s = S := ⟨_, rfl⟩
  rw [ha, hS] at HP
  rw [hb, hS] at HM
  rw [ha, hb, hS]
  clear ha hb hS e0
  cases a with
  | true =>
    go_enter Tryd.func35, Tryd.ntmps35
    go_wp2_with (first | (go_at_call 58; (with_reducible refine (HP.out _).mono ?_); rintro e w1 ⟨rfl, rfl⟩) | (go_at_call 44; (with_reducible refine (HM.out _).mono ?_); rintro e w1 ⟨rfl, rfl⟩))
    go_ret
    exact ⟨rfl, rfl⟩
  | false =>
    go_enter Tryd.func35, Tryd.ntmps35
    go_wp2_with (go_at_call 58; (with_reducible refine (HP.out _).mono ?_); rintro e w1 ⟨rfl, rfl⟩)
    go_ret
    exact ⟨rfl, rfl⟩
set_option maxRecDepth 20000 in
set_option maxHeartbeats 8000000 in
theorem pquery_any (s : B) (hs : s.length ≤ 35184372088832) (w : World) : Calls Tryd.prog 47 #[.string (str s)] w fun e w' => e = .returned (.bool (isQuery s)) ∧ w' = w := by
  have HM := hid (made_query s hs)
  rw [query_made] at HM
  obtain ⟨b, hb⟩ : ∃ b, isQuery s = b := ⟨_, rfl⟩
  obtain ⟨S, hS⟩ : ∃ S, str s = S := ⟨_, rfl⟩
  rw [hb, hS] at HM
  rw [hb, hS]
  clear hb hS
  go_enter Tryd.func47, Tryd.ntmps47
  go_wp2_with (go_at_call 44; (with_reducible refine (HM.out _).mono ?_); rintro e w1 ⟨rfl, rfl⟩)
  go_ret
  exact ⟨rfl, rfl⟩
set_option maxRecDepth 20000 in
set_option maxHeartbeats 8000000 in
theorem pnormal_any (s : B) (hs : s.length ≤ 4294967280) (w : World) (hE : Env w) : Calls Tryd.prog 15 #[.string (str s)] w fun e w' => e = .returned (decE (normalB s)) ∧ Below w.heap.size w w' := by
  have HP := hid (ppath_any s (by omega))
  have HO := hid (oneway_any s (by omega))
  have HE := hid hE
  clear hE
  cases hp : isPath s with
  | false =>
    have HV := hid (show normalB s = none from by unfold normalB; rw [hp]; rfl)
    rw [hp] at HP
    rw [HV.out]
    clear HO hp
    obtain ⟨S, hS⟩ : ∃ S, str s = S := ⟨_, rfl⟩
    rw [hS] at HP ⊢
    clear hS
    go_enter Tryd.func15, Tryd.ntmps15
    go_wp2_with (go_at_call 35; (with_reducible refine (HP.out _).mono ?_); rintro e w1 ⟨rfl, rfl⟩)
    go_ret2
    exact ⟨rfl, Below.refl _ _⟩
  | true =>
    obtain ⟨l, rfl⟩ : ∃ l, s = 47 :: l := by
      cases s with
      | nil => exact absurd hp (by decide)
      | cons c l =>
        unfold isPath at hp
        simp only [List.head?_cons, Option.some.injEq, Bool.and_eq_true, decide_eq_true_eq] at hp
        exact ⟨l, by rw [hp.1]⟩
    have hm := meant_cons (c := 47) (by decide) l
    have HV := hid (show normalB (47 :: l) = (dotsL (cutAt 47 (meantB l)) []).map joinS from by unfold normalB; rw [hp, hm]; show Option.map joinS (dotsL (segs (47 :: meantB l)) []) = _; unfold segs; rw [cutAt, if_pos rfl]; rfl)
    have hml := meant_len (47 :: l)
    rw [hm] at hml HO
    have HW := hid (wdots_any 47 (meantB l) (Nat.le_trans hml hs))
    rw [hp] at HP
    rw [HV.out]
    clear hp hml hm
    obtain ⟨V, hV⟩ : ∃ V, decE ((dotsL (cutAt 47 (meantB l)) []).map joinS) = V := ⟨_, rfl⟩
    have HTu := hid (show ∃ a b, V = .tuple #[a, b] from by rw [← hV]; unfold decE; split <;> exact ⟨_, _, rfl⟩)
    rw [hV] at HW ⊢
    obtain ⟨va, vb, rfl⟩ := HTu.out
    obtain ⟨S, hS⟩ : ∃ S, str (47 :: l) = S := ⟨_, rfl⟩
    obtain ⟨M, hM⟩ : ∃ M, str (47 :: meantB l) = M := ⟨_, rfl⟩
    rw [hS] at HP HO ⊢
    rw [hM] at HO HW
    clear hS hM hV
    go_enter Tryd.func15, Tryd.ntmps15
    go_wp2_with (first | (go_at_call 35; (with_reducible refine (HP.out _).mono ?_); rintro e w1 ⟨rfl, rfl⟩) | (go_at_call 37; (with_reducible refine (HO.out _).mono ?_); rintro e w2 ⟨rfl, hb⟩; have HB2 := hid hb; clear hb) | (go_at_call 36; (with_reducible refine (HW.out _ (HE.out.below HB2.out)).mono ?_); rintro e w3 ⟨rfl, hb⟩; have HB3 := hid (below_out HB2.out hb); clear hb))
    go_ret2
    exact ⟨rfl, HB3.out⟩
set_option maxRecDepth 20000 in
set_option maxHeartbeats 8000000 in
theorem pdecode_any (s : B) (hs : s.length ≤ 35184372088832) (w : World) : Calls Tryd.prog 20 #[.string (str s)] w fun e w' => e = .returned (decE (decodeB s)) ∧ Below w.heap.size w w' := by
  have HM := hid (made_anyany s hs)
  have HD := hid (decoded_any s hs)
  have HV := hid (dec_two s)
  obtain ⟨b, hb⟩ : ∃ b, madeP anyC anyC s = b := ⟨_, rfl⟩
  obtain ⟨S, hS⟩ : ∃ S, str s = S := ⟨_, rfl⟩
  rw [hb] at HV
  rw [hb, hS] at HM
  rw [hS] at HD
  rw [hS]
  clear hb hS
  cases b with
  | true =>
    rw [HV.out]
    go_enter Tryd.func20, Tryd.ntmps20
    go_wp2_with (first | (go_at_call 44; (with_reducible refine (HM.out _).mono ?_); rintro e w1 ⟨rfl, rfl⟩) | (go_at_call 43; (with_reducible refine (HD.out _).mono ?_); rintro e w2 ⟨rfl, hb⟩; have HB2 := hid hb; clear hb))
    go_ret2
    exact ⟨rfl, HB2.out⟩
  | false =>
    rw [HV.out]
    go_enter Tryd.func20, Tryd.ntmps20
    go_wp2_with (go_at_call 44; (with_reducible refine (HM.out _).mono ?_); rintro e w1 ⟨rfl, rfl⟩)
    go_ret2
    exact ⟨rfl, Below.refl _ _⟩
end Go.Proofs.YtbdbmlklijmefaaDoor
