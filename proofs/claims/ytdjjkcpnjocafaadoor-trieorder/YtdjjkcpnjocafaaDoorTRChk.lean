/- Which patterns may be, by the document. -/
import Derived.Test.YtdjjkcpnjocafaaDoorTAdd
namespace Go.Proofs.YtdjjkcpnjocafaaDoor
open Go.RowKit

def RChkAns (p : B) (w : World) (e : Ending) (w' : World) : Prop := e = .returned (.int .i64 (if checkP p then 0 else 3)) ∧ Below w.heap.size w w'
theorem rchk_no {p : B} {w w' : World} {e : Ending} (h : checkP p = false) (he : e = .returned (.int .i64 3)) (hb : Below w.heap.size w w') : RChkAns p w e w' := ⟨by rw [h]; exact he, hb⟩
theorem rchk_yes {p : B} {w w' : World} {e : Ending} (h : checkP p = true) (he : e = .returned (.int .i64 0)) (hb : Below w.heap.size w w') : RChkAns p w e w' := ⟨by rw [h]; exact he, hb⟩
/-- Split, where the text does not begin with a slash. -/
theorem rsplit_none {p : B} (hp : p.length ≤ 4398046511104) (hb : begB 47 p = false) (w : World) : Calls Tryd.prog 30 #[.string (str p)] w fun e w' => e = .returned (.tuple #[.slice none 0 0, .bool false]) ∧ w' = w := by
  cases p with
  | nil => exact rsplit_nil w
  | cons c t => exact rsplit_not c t (by simpa [begB] using hb) (by simp at hp; omega) w
set_option maxRecDepth 20000 in
set_option maxHeartbeats 16000000 in
theorem rcheck_any (p : B) (hp : p.length ≤ 4398046511104) (w : World) : Calls Tryd.prog 12 #[.string (str p)] w fun e w' => RChkAns p w e w' := by
  obtain ⟨j0, hj0, hy0, hy1, hy2⟩ := info_parts infoS
  cases hbg : begB 47 p with
  | false =>
    have HC := hid (check_beg hbg)
    have HSp := hid (fun W : World => rsplit_none hp hbg W)
    obtain ⟨S, hS⟩ : ∃ S, str p = S := ⟨_, rfl⟩
    rw [hS] at HSp ⊢
    clear hS hbg
    go_enter Tryd.func12, Tryd.ntmps12
    go_wp2_with (go_at_call 30; (with_reducible refine (HSp.out _).mono ?_); rintro e w1 ⟨rfl, hw1⟩; subst w1)
    go_ret
    exact rchk_no HC.out rfl (Below.refl _ _)
  | true =>
    obtain ⟨t, rfl⟩ := beg_cons hbg
    have HCk := hid (check_cons t)
    obtain ⟨N, hN⟩ : ∃ N, (47 :: t : B).length = N := ⟨_, rfl⟩
    have hN1 : t.length + 1 = N := by rw [← hN]; rfl
    rw [hN] at HCk hp
    obtain ⟨S, hS⟩ : ∃ S, str (47 :: t) = S := ⟨_, rfl⟩
    have hSn : S.size = N := by rw [← hS, str_size, hN]
    have HSp := hid (fun W : World => rsplit_yes t (by omega) W)
    rw [hS] at HSp ⊢
    have HXl := hid (show ∀ x ∈ cutT t, x.length ≤ 4398046511104 from fun x h => Nat.le_trans (cutT_mem_len h) (by omega))
    have hlen := cutT_len t
    obtain ⟨X, hX⟩ : ∃ X, cutT t = X := ⟨_, rfl⟩
    rw [hX] at HSp HXl hlen HCk
    obtain ⟨n, hn⟩ : ∃ n, X.length = n := ⟨_, rfl⟩
    have HN := hid hn
    rw [hn] at HSp hlen HCk
    have hn9 : n ≤ 4398046511105 := by omega
    clear hS hX hn hbg hN hN1
    by_cases h256 : N ≤ 256
    · have h256' : ¬ (256 : Int) < (N : Int) := by omega
      have h256d : decide ((256 : Int) < (N : Int)) = false := decide_eq_false h256'
      rw [decide_eq_true h256, Bool.true_and] at HCk
      by_cases h64 : n ≤ 64
      · rw [decide_eq_true h64, Bool.true_and] at HCk
        have h64' : ¬ (64 : Int) < (n : Int) := by omega
        go_enter Tryd.func12, Tryd.ntmps12
        go_wp2_with (go_at_call 30; (with_reducible refine (HSp.out _).mono ?_); rintro e w1 ⟨p1, c1, rfl, ho, hb⟩; have HT1 := hid ho.tx; have HB1 := hid hb; clear ho hb HSp)
        go_loopg [5, 6] (n + 1) (fun gk s5 s6 wr => ∃ (i m6 c6 : Nat) (p6 : Option Addr) (names : List B), i ≤ n ∧ gk = n - i + 1 ∧ s6 = .int .i64 (i : Int) ∧ s5 = .slice p6 m6 c6 ∧ names.length = m6 ∧ m6 ≤ i ∧ OwnR 9 1 (fun t : B => [.string (str t)]) wr w1.heap.size (.slice p6 m6 c6) names ∧ okSegs visU tokT [] X = okSegs visU tokT names (X.drop i) ∧ Below w1.heap.size w1 wr)
        case atStart => exact ⟨0, 0, 0, none, [], by omega, rfl, rfl, rfl, rfl, by omega, OwnR.nil _ _, rfl, Below.refl _ _⟩
        case round =>
          obtain ⟨i, m6, c6, p6, names, hi, rfl, rfl, rfl, hl6, hm6, hO6, hok, hb⟩ := hrel
          have HOk := hid (HCk.out.trans hok)
          have HB := hid hb
          have HO6 := hid hO6
          have HL6 := hid hl6
          clear hok hb hO6 hl6
          by_cases hin : i < n
          · obtain ⟨x, hx⟩ : ∃ x, X[i]? = some x := ⟨_, List.getElem?_eq_getElem (by rw [HN.out]; exact hin)⟩
            have hle := HXl.out x (List.mem_of_getElem? hx)
            have HD := hid (drop_at hx)
            rw [HD.out] at HOk
            have HKa := hid (fun W : World => rkind_any x hle W)
            have HDn := hid (show decide (X.drop (i + 1) = []) = decide (i + 1 = n) from by
              rw [Bool.eq_iff_iff, decide_eq_true_eq, decide_eq_true_eq, List.drop_eq_nil_iff, HN.out]
              omega)
            obtain ⟨g1, o1, rfl, q1⟩ := (HT1.out.next HB.out) i x hx
            have hk2 := kindT_le x
            obtain ⟨Sx, hSx⟩ : ∃ S, str x = S := ⟨_, rfl⟩
            obtain ⟨xl, hxl⟩ : ∃ xl, x.length = xl := ⟨_, rfl⟩
            have hSxn : Sx.size = xl := by rw [← hSx, str_size, hxl]
            rw [hxl] at hle
            rw [hSx] at HKa q1
            by_cases h0 : kindT x = 0
            · rw [h0] at HKa
              have HRs := hid (show okS x = x.all visU from by unfold okS; rw [if_pos h0])
              rw [ok_step0 h0] at HOk
              rw [HRs.out] at HOk
              have HByte := hid (show ∀ (k : Nat) (h : k < x.length) (h2 : k < Sx.size), Sx[k]'h2 = x[k]'h from fun k h h2 => by subst hSx; rfl)
              have HXL := hid hxl
              clear hx hSx hxl hk2 h0
              go_wp2_with (go_at_call 31; ((with_reducible refine (HKa.out _).mono ?_); rintro e w2 ⟨rfl, hw2⟩; subst w2))
              go_loopg [7] (xl + 1) (fun gk s7 wv => ∃ k : Nat, k ≤ xl ∧ gk = xl - k + 1 ∧ s7 = .int .i64 (k : Int) ∧ (x.take k).all visU = true ∧ wv = wr)
              case atStart => exact ⟨0, by omega, rfl, rfl, rfl, rfl⟩
              case round =>
                obtain ⟨k, hk, rfl, rfl, hall, hwv⟩ := hrel
                rename World => wv
                subst hwv
                by_cases hlt : k < xl
                · have h3 : k < x.length := by rw [HXL.out]; exact hlt
                  obtain ⟨y, hy⟩ : ∃ y, x[k] = y := ⟨_, rfl⟩
                  obtain ⟨Y, hY⟩ : ∃ Y : Nat, y.toNat = Y := ⟨_, rfl⟩
                  have hY256 : Y < 256 := by rw [← hY]; exact y.toNat_lt
                  have hbyte : ∀ h : k < Sx.size, (Sx[k]'h).toNat = Y := fun h => by rw [HByte.out k h3 h, hy, hY]
                  have hvy : visU y = visB (Y : Int) := by unfold visU; rw [hY]
                  have HT := hid (show (x.take (k + 1)).all visU = (visB (Y : Int)) from by rw [List.take_succ_eq_append_getElem h3, List.all_append, hall, hy]; simp [hvy])
                  have HF := hid (show visB (Y : Int) = false → x.all visU = false from fun h => vis_stop h3 (by rw [hy, hvy]; exact h))
                  clear hy hY hall hvy
                  cases hv : visB (Y : Int) with
                  | true =>
                    go_wp2_with (go_at_call 32; refine (rvisible_any _ _ (by omega) (by omega)).mono ?_; rintro e w' ⟨rfl, hw'⟩; subst hw')
                    go_roundg (xl - (k + 1) + 1)
                    case measure => omega
                    case rel => exact ⟨k + 1, by omega, rfl, by push_cast; go_num, by rw [HT.out, hv], rfl⟩
                  | false =>
                    have HC := hid (show checkP (47 :: t) = false from by rw [HOk.out, HF.out hv]; rfl)
                    go_wp2_with (go_at_call 32; refine (rvisible_any _ _ (by omega) (by omega)).mono ?_; rintro e w' ⟨rfl, hw'⟩; subst hw')
                    go_ret
                    exact rchk_no HC.out rfl (below_out HB1.out HB.out)
                · obtain rfl : xl = k := by omega
                  have HR := hid (show okSegs visU tokT [] X = okSegs visU tokT names (X.drop (i + 1)) from by
                    rw [← HCk.out, HOk.out]
                    rw [List.take_of_length_le (by rw [HXL.out]; exact Nat.le_refl _)] at hall
                    rw [hall, Bool.true_and])
                  clear hall
                  go_wp2
                  go_roundg (n - (i + 1) + 1)
                  case measure => omega
                  case rel => exact ⟨i + 1, m6, c6, p6, names, by omega, rfl, by push_cast; go_num, rfl, HL6.out, by omega, HO6.out, HR.out, HB.out⟩
            · have hne : x ≠ [] := fun e => h0 (by rw [e]; rfl)
              have h1x : 1 ≤ xl := by
                rw [← hxl]
                cases x with
                | nil => exact absurd rfl hne
                | cons _ _ => simp
              have he1 : Sx.extract 1 xl = str x.tail := by rw [← hSx, ext_drop x 1 xl hxl, List.drop_one]
              have HTk := hid (fun W : World => ristoken_any (str x.tail) W (by rw [str_size, List.length_tail, hxl]; unfold maxLen; omega))
              obtain ⟨T, hT⟩ : ∃ T, str x.tail = T := ⟨_, rfl⟩
              have HTe := hid hT
              have HXs := hid (show [Value.string (str x.tail)] = [.string T] from by rw [hT])
              rw [hT] at HTk he1
              rw [ok_step1 h0] at HOk
              have HSk := hid (show okS x = isTok T from by unfold okS; rw [if_neg h0]; unfold tokT; rw [hT])
              rw [HSk.out] at HOk
              obtain ⟨K, hK⟩ : ∃ K : Int, (kindT x : Int) = K := ⟨_, rfl⟩
              have hK0 : ¬ K = 0 := by rw [← hK]; omega
              have hK1 : (K == 0) = false := by simpa using hK0
              rw [hK] at HKa
              cases htk : isTok T with
              | false =>
                rw [htk] at HTk HOk
                have HC := hid (show checkP (47 :: t) = false from HOk.out)
                clear hx hSx hxl hk2 h0 hne hT hK htk
                go_wp2_with (first | (go_at_call 31; ((with_reducible refine (HKa.out _).mono ?_); rintro e w2 ⟨rfl, hw2⟩; subst w2)) | (go_at_call 33; ((with_reducible refine (HTk.out _).mono ?_); rintro e w3 ⟨rfl, hw3⟩; subst w3)))
                go_ret
                exact rchk_no HC.out rfl (below_out HB1.out HB.out)
              | true =>
                rw [htk] at HTk HOk
                by_cases hbad : kindT x = 2 ∧ ¬ i + 1 = n
                · obtain rfl : (2 : Int) = K := by rw [← hK, hbad.1]; rfl
                  have hlt : i < n - 1 := by omega
                  have HC := hid (show checkP (47 :: t) = false from by
                    rw [HOk.out, HDn.out, hbad.1, decide_eq_false hbad.2]
                    simp)
                  clear hx hSx hxl hk2 h0 hne hT hK htk hbad
                  go_wp2_with (first | (go_at_call 31; ((with_reducible refine (HKa.out _).mono ?_); rintro e w2 ⟨rfl, hw2⟩; subst w2)) | (go_at_call 33; ((with_reducible refine (HTk.out _).mono ?_); rintro e w3 ⟨rfl, hw3⟩; subst w3)))
                  go_ret
                  exact rchk_no HC.out rfl (below_out HB1.out HB.out)
                · have HG := hid (show (decide (kindT x ≠ 2) || decide (X.drop (i + 1) = [])) = true from by
                    rw [HDn.out, Bool.or_eq_true, decide_eq_true_eq, decide_eq_true_eq]
                    omega)
                  rw [HG.out] at HOk
                  simp only [Bool.true_and, Bool.and_true] at HOk
                  have hnot : ¬ (K = 2 ∧ i < n - 1) := by rw [← hK]; omega
                  clear hx hSx hxl hk2 h0 hne hT hK htk hbad
                  by_cases hK2 : K = 2
                  · have hlt : ¬ i < n - 1 := fun h => hnot ⟨hK2, h⟩
                    subst hK2
                    go_wp2_with (first | (go_at_call 31; ((with_reducible refine (HKa.out _).mono ?_); rintro e w2 ⟨rfl, hw2⟩; subst w2)) | (go_at_call 33; ((with_reducible refine (HTk.out _).mono ?_); rintro e w3 ⟨rfl, hw3⟩; subst w3)))
                    go_loopg [9] (m6 + 1) (fun gk s9 wv => ∃ k : Nat, k ≤ m6 ∧ gk = m6 - k + 1 ∧ s9 = .int .i64 (k : Int) ∧ (names.take k).contains x.tail = false ∧ wv = wr)
                    case atStart => exact ⟨0, by omega, rfl, rfl, rfl, rfl⟩
                    case round =>
                      obtain ⟨k, hk, rfl, rfl, hno, hwv⟩ := hrel
                      rename World => wv
                      subst hwv
                      have HNo := hid hno
                      clear hno
                      by_cases hkm : k < m6
                      · obtain ⟨a, ha⟩ : ∃ a, names[k]? = some a := ⟨_, List.getElem?_eq_getElem (by rw [HL6.out]; exact hkm)⟩
                        obtain ⟨g2, o2, rfl, q2⟩ := (ownR_S HO6.out).tx k a ha
                        obtain ⟨Sa, hSa⟩ : ∃ S, str a = S := ⟨_, rfl⟩
                        rw [hSa] at q2
                        by_cases hab : a = x.tail
                        · obtain rfl : Sa = T := by rw [← hSa, ← HTe.out, hab]
                          have HC := hid (show checkP (47 :: t) = false from by
                            rw [HOk.out]
                            have : names.contains x.tail = true := by rw [List.contains_iff_mem, ← hab]; exact List.mem_of_getElem? ha
                            rw [this]; rfl)
                          clear ha hSa hab
                          go_wp2
                          go_ret
                          exact rchk_no HC.out rfl (below_out HB1.out HB.out)
                        · have hS : ¬ Sa = T := fun h => hab (str_inj (by rw [hSa, HTe.out, h]))
                          have hS4 : (Sa.toList == T.toList) = false := ne_list hS
                          have HR := hid (show (names.take (k + 1)).contains x.tail = false from by
                            rw [List.take_add_one, ha]
                            have h1 := HNo.out
                            rw [List.contains_eq_mem, decide_eq_false_iff_not] at h1 ⊢
                            simp
                            exact ⟨h1, fun e => hab e.symm⟩)
                          clear ha hSa hab
                          go_wp2
                          go_roundg (m6 - (k + 1) + 1)
                          case measure => omega
                          case rel => exact ⟨k + 1, by omega, rfl, by push_cast; go_num, HR.out, rfl⟩
                      · obtain rfl : m6 = k := by omega
                        have HOk2 := hid (show checkP (47 :: t) = okSegs visU tokT (names ++ [x.tail]) (X.drop (i + 1)) from by
                          rw [HOk.out]
                          have h1 := HNo.out
                          rw [List.take_of_length_le (by rw [HL6.out]; exact Nat.le_refl _)] at h1
                          rw [h1]; rfl)
                        go_wp2_with (at_builtin; refine wpList_append_own_at _ rfl (.tmp 91) (.tmp 93) 23 rfl w1.heap.size 9 j0 _ 1 16 Tryd.underlying23 hj0 hy0 hy1 hy2 rfl (by decide) (.slice p6 m6 c6) m6 (names.flatMap fun t : B => [.string (str t)]) (by go_simp) (by have h8 := HO6.out.alloc (.cells #[.string T] 9 (0, 0)); unfold OwnR at h8; rw [HL6.out] at h8; exact h8) ⟨wv.heap.size, 0, none⟩ 1 1 [.string T] (by go_simp) rfl (cells_new wv _ _) (by simp [Value.oneCell']) (by unfold maxLen; omega) (by omega) (by have h1 := HB.out.size; simp; omega) ?_; intro v6 wt hown hgr _ _; obtain ⟨p7, L7, c7, rfl⟩ := own_slice3 hown; have HT7 := hid (show OwnR 9 1 (fun t : B => [.string (str t)]) wt w1.heap.size (.slice p7 L7 c7) (names ++ [x.tail]) from OwnR.put HL6.out (by rw [HXs.out]; exact hown)); have HBt := hid (show Below w1.heap.size w1 wt from (HB.out.trans ((below_new wv _).mono HB.out.size)).trans ((HO6.out.alloc _).below (by have h1 := HB.out.size; simp; omega) hgr)); obtain ⟨hL7, _⟩ : L7 = m6 + 1 ∧ True := ⟨row_len hown, trivial⟩; subst hL7; clear hown hgr)
                        go_roundg (n - (i + 1) + 1)
                        case measure => omega
                        case rel => exact ⟨i + 1, m6 + 1, c7, p7, names ++ [x.tail], by omega, rfl, by push_cast; go_num, rfl, by rw [List.length_append, HL6.out]; rfl, by omega, HT7.out, HCk.out.symm.trans HOk2.out, HBt.out⟩
                  · have hK3 : (K == 2) = false := by simpa using hK2
                    go_wp2_with (first | (go_at_call 31; ((with_reducible refine (HKa.out _).mono ?_); rintro e w2 ⟨rfl, hw2⟩; subst w2)) | (go_at_call 33; ((with_reducible refine (HTk.out _).mono ?_); rintro e w3 ⟨rfl, hw3⟩; subst w3)))
                    go_loopg [9] (m6 + 1) (fun gk s9 wv => ∃ k : Nat, k ≤ m6 ∧ gk = m6 - k + 1 ∧ s9 = .int .i64 (k : Int) ∧ (names.take k).contains x.tail = false ∧ wv = wr)
                    case atStart => exact ⟨0, by omega, rfl, rfl, rfl, rfl⟩
                    case round =>
                      obtain ⟨k, hk, rfl, rfl, hno, hwv⟩ := hrel
                      rename World => wv
                      subst hwv
                      have HNo := hid hno
                      clear hno
                      by_cases hkm : k < m6
                      · obtain ⟨a, ha⟩ : ∃ a, names[k]? = some a := ⟨_, List.getElem?_eq_getElem (by rw [HL6.out]; exact hkm)⟩
                        obtain ⟨g2, o2, rfl, q2⟩ := (ownR_S HO6.out).tx k a ha
                        obtain ⟨Sa, hSa⟩ : ∃ S, str a = S := ⟨_, rfl⟩
                        rw [hSa] at q2
                        by_cases hab : a = x.tail
                        · obtain rfl : Sa = T := by rw [← hSa, ← HTe.out, hab]
                          have HC := hid (show checkP (47 :: t) = false from by
                            rw [HOk.out]
                            have : names.contains x.tail = true := by rw [List.contains_iff_mem, ← hab]; exact List.mem_of_getElem? ha
                            rw [this]; rfl)
                          clear ha hSa hab
                          go_wp2
                          go_ret
                          exact rchk_no HC.out rfl (below_out HB1.out HB.out)
                        · have hS : ¬ Sa = T := fun h => hab (str_inj (by rw [hSa, HTe.out, h]))
                          have hS4 : (Sa.toList == T.toList) = false := ne_list hS
                          have HR := hid (show (names.take (k + 1)).contains x.tail = false from by
                            rw [List.take_add_one, ha]
                            have h1 := HNo.out
                            rw [List.contains_eq_mem, decide_eq_false_iff_not] at h1 ⊢
                            simp
                            exact ⟨h1, fun e => hab e.symm⟩)
                          clear ha hSa hab
                          go_wp2
                          go_roundg (m6 - (k + 1) + 1)
                          case measure => omega
                          case rel => exact ⟨k + 1, by omega, rfl, by push_cast; go_num, HR.out, rfl⟩
                      · obtain rfl : m6 = k := by omega
                        have HOk2 := hid (show checkP (47 :: t) = okSegs visU tokT (names ++ [x.tail]) (X.drop (i + 1)) from by
                          rw [HOk.out]
                          have h1 := HNo.out
                          rw [List.take_of_length_le (by rw [HL6.out]; exact Nat.le_refl _)] at h1
                          rw [h1]; rfl)
                        go_wp2_with (at_builtin; refine wpList_append_own_at _ rfl (.tmp 91) (.tmp 93) 23 rfl w1.heap.size 9 j0 _ 1 16 Tryd.underlying23 hj0 hy0 hy1 hy2 rfl (by decide) (.slice p6 m6 c6) m6 (names.flatMap fun t : B => [.string (str t)]) (by go_simp) (by have h8 := HO6.out.alloc (.cells #[.string T] 9 (0, 0)); unfold OwnR at h8; rw [HL6.out] at h8; exact h8) ⟨wv.heap.size, 0, none⟩ 1 1 [.string T] (by go_simp) rfl (cells_new wv _ _) (by simp [Value.oneCell']) (by unfold maxLen; omega) (by omega) (by have h1 := HB.out.size; simp; omega) ?_; intro v6 wt hown hgr _ _; obtain ⟨p7, L7, c7, rfl⟩ := own_slice3 hown; have HT7 := hid (show OwnR 9 1 (fun t : B => [.string (str t)]) wt w1.heap.size (.slice p7 L7 c7) (names ++ [x.tail]) from OwnR.put HL6.out (by rw [HXs.out]; exact hown)); have HBt := hid (show Below w1.heap.size w1 wt from (HB.out.trans ((below_new wv _).mono HB.out.size)).trans ((HO6.out.alloc _).below (by have h1 := HB.out.size; simp; omega) hgr)); obtain ⟨hL7, _⟩ : L7 = m6 + 1 ∧ True := ⟨row_len hown, trivial⟩; subst hL7; clear hown hgr)
                        go_roundg (n - (i + 1) + 1)
                        case measure => omega
                        case rel => exact ⟨i + 1, m6 + 1, c7, p7, names ++ [x.tail], by omega, rfl, by push_cast; go_num, rfl, by rw [List.length_append, HL6.out]; rfl, by omega, HT7.out, HCk.out.symm.trans HOk2.out, HBt.out⟩
          · obtain rfl : n = i := by omega
            have HFin := hid (show checkP (47 :: t) = true from by rw [HOk.out, List.drop_of_length_le (by rw [HN.out]; exact Nat.le_refl _)]; rfl)
            go_wp2
            go_ret
            exact rchk_yes HFin.out rfl (below_out HB1.out HB.out)
      · have HC := hid (show checkP (47 :: t) = false from by rw [HCk.out, decide_eq_false h64]; rfl)
        have h64' : (64 : Int) < (n : Int) := by omega
        have h64d : decide ((64 : Int) < (n : Int)) = true := decide_eq_true h64'
        go_enter Tryd.func12, Tryd.ntmps12
        go_wp2_with (go_at_call 30; (with_reducible refine (HSp.out _).mono ?_); rintro e w1 ⟨p1, c1, rfl, ho, hb⟩; have HB1 := hid hb; clear ho hb HSp)
        go_ret
        exact rchk_no HC.out rfl HB1.out
    · have HC := hid (show checkP (47 :: t) = false from by rw [HCk.out, decide_eq_false h256]; rfl)
      have h256' : (256 : Int) < (N : Int) := by omega
      have h256d : decide ((256 : Int) < (N : Int)) = true := decide_eq_true h256'
      go_enter Tryd.func12, Tryd.ntmps12
      go_wp2_with (go_at_call 30; (with_reducible refine (HSp.out _).mono ?_); rintro e w1 ⟨p1, c1, rfl, ho, hb⟩; have HB1 := hid hb; clear ho hb HSp)
      go_ret
      exact rchk_no HC.out rfl HB1.out
end Go.Proofs.YtdjjkcpnjocafaaDoor
