/- The document's length that fields tell. -/
import Derived.Test.YthakldcfpndabaaDoorFLen
namespace Go.Proofs.YthakldcfpndabaaDoor
open Go.RowKit

theorem runD_none {s : Option Int} {L : List ByteArray} {i : Nat} {x : ByteArray} {R : Option (Option Int)} (h : runD s (L.drop i) = R) (hx : L[i]? = some x) (he : listS x = []) : R = none := by
  rw [drop_at hx] at h
  unfold runD at h
  rw [if_pos he] at h
  exact h.symm
theorem runD_bad {s : Option Int} {L J : List ByteArray} {i : Nat} {x : ByteArray} {R : Option (Option Int)} (h : runD s (L.drop i) = R) (hx : L[i]? = some x) (hJ : listS x = J) (hne : J ≠ []) (he : run s J = none) : R = none := by
  rw [drop_at hx] at h
  unfold runD at h
  rw [hJ, if_neg hne, he] at h
  exact h.symm
theorem runD_go {s s' : Option Int} {L J : List ByteArray} {i : Nat} {x : ByteArray} {R : Option (Option Int)} (h : runD s (L.drop i) = R) (hx : L[i]? = some x) (hJ : listS x = J) (hne : J ≠ []) (he : run s J = some s') : runD s' (L.drop (i + 1)) = R := by
  rw [drop_at hx] at h
  unfold runD at h
  rw [hJ, if_neg hne, he] at h
  exact h
theorem runD_end {s : Option Int} {J : List ByteArray} {j : Nat} {R : Option (Option Int)} (h : runD s (J.drop j) = R) (hj : J.length ≤ j) : R = some s := by
  rw [List.drop_eq_nil_of_le hj] at h
  exact h.symm
set_option maxRecDepth 20000 in
set_option maxHeartbeats 8000000 in
theorem dlength (fs : List (B × B)) (p : Option Addr) (n c : Nat) (hn : fs.length = n) (w : World) (hF : FAt w p fs) (hsz : szB fs) (hnn : n ≤ 1048576) :
    Calls Tryd.prog 19 #[.slice p n c] w fun e w' => e = .returned (.tuple #[.int .i64 (lenT (lenF fs)).1, .bool (lenT (lenF fs)).2.1, .int .i64 ((lenT (lenF fs)).2.2 : Int)]) ∧ Below w.heap.size w w' := by
  have HV := hid (show ∀ _ : Unit, _ from fun _ => dvals fs p n c hn clN w hF hsz (by decide) hnn)
  unfold clN at HV
  have HZ := hid (show ∀ x ∈ valsB fs clN, x.size ≤ 1048576 from fun x hx => vals_small hsz hx)
  have hLn : (valsB fs clN).length ≤ 1048576 := Nat.le_trans (vals_le fs clN) (by omega)
  have hR : runD none (valsB fs clN) = lenF fs := (runV_runD _ _).symm
  unfold clN at HZ hLn hR
  obtain ⟨L, hL⟩ : ∃ L, valsB fs ⟨#[67, 111, 110, 116, 101, 110, 116, 45, 76, 101, 110, 103, 116, 104]⟩ = L := ⟨_, rfl⟩
  obtain ⟨R, hRR⟩ : ∃ R, lenF fs = R := ⟨_, rfl⟩
  rw [hL] at HV HZ hLn hR
  rw [hRR] at hR ⊢
  have HR := hid hR
  clear hL hF hsz hn hR hRR
  obtain ⟨T, hT⟩ : ∃ T, lenT R = T := ⟨_, rfl⟩
  have HT := hid hT.symm
  rw [hT]
  clear hT
  obtain ⟨k, hk⟩ : ∃ k, L.length = k := ⟨_, rfl⟩
  rw [hk] at hLn
  have HK := hid hk
  clear hk
  by_cases hk0 : k = 0
  · subst hk0
    have HX := hid (show T = (0, false, 0) from by rw [HT.out, ← HR.out, List.length_eq_zero_iff.1 HK.out]; rfl)
    go_enter Tryd.func19, Tryd.ntmps19
    go_wp2_with (go_at_call 44; (with_reducible refine (HV.out ()).mono ?_); rintro e w1 ⟨v, rfl, ho, hb⟩; obtain ⟨q, d, rfl, hq⟩ := row_see ho 0 HK.out; have HB1 := hid hb; clear hb ho hq HV)
    go_ret3
    exact ⟨(by rw [HX.out]; rfl), HB1.out⟩
  have hk1 : ¬ (k : Int) = 0 := by omega
  have hk2 : ((k : Int) == 0) = false := by simpa using hk0
  have hk3 : 0 < k := by omega
  go_enter Tryd.func19, Tryd.ntmps19
  go_wp2_with (go_at_call 44; (with_reducible refine (HV.out ()).mono ?_); rintro e w1 ⟨v, rfl, ho, hb⟩; obtain ⟨q, d, rfl, hq⟩ := row_see ho k HK.out; have HB1 := hid hb; have HQ := hid hq; clear hb ho hq HV)
  go_loopg [6, 7] (k + 1) (fun gk s6 s wr => ∃ (i : Nat) (st : Option Int) (a : Int), s6 = .int .i64 a ∧ s = .int .i64 (i : Int) ∧ i ≤ k ∧ gk = k - i + 1 ∧ Below w1.heap.size w1 wr ∧ StD st a ∧ (0 < i → st.isSome = true) ∧ runD st (L.drop i) = R)
  case atStart => exact ⟨0, none, -1, rfl, rfl, by omega, rfl, Below.refl _ _, rfl, fun h => by omega, HR.out⟩
  case round =>
    obtain ⟨i, st, a, rfl, rfl, hin, rfl, hb, hst, hsome, hh⟩ := hrel
    rename World => wr
    have HB := hid hb
    have HBa := hid (show Below w.heap.size w wr from below_out HB1.out hb)
    have HH := hid hh
    have HSt := hid hst
    have HSo := hid hsome
    clear hb hh hst hsome
    by_cases hlt : i < k
    · obtain ⟨x, hx⟩ : ∃ x, L[i]? = some x := ⟨L[i]'(by rw [HK.out]; exact hlt), List.getElem?_eq_getElem (by rw [HK.out]; exact hlt)⟩
      have hxs := HZ.out x (List.mem_of_getElem? hx)
      obtain ⟨g, hq, hc1⟩ := HQ.out i x hx
      subst hq
      have hc := cell_keep HB.out hc1
      have hltI : (i : Int) < (k : Int) := by omega
      have HX := hid hx
      have HLi := hid (rlist_any x wr (by omega))
      have HZ2 := hid (show ∀ y ∈ listS x, y.size ≤ 1048576 from fun y hy => Nat.le_trans (listS_small hy) hxs)
      have hJn : (listS x).length ≤ 1048577 := Nat.le_trans (listS_many x) (by omega)
      obtain ⟨J, hJ⟩ : ∃ J, listS x = J := ⟨_, rfl⟩
      have HJ := hid hJ
      rw [hJ] at HLi HZ2 hJn
      obtain ⟨n2, hn2⟩ : ∃ n2, J.length = n2 := ⟨_, rfl⟩
      rw [hn2] at hJn
      have HN2 := hid hn2
      clear hx hc1 hJ hn2
      by_cases hn0 : n2 = 0
      · subst hn0
        have HE := hid (show T = (0, false, 3) from by rw [HT.out, runD_none HH.out HX.out (by rw [HJ.out]; exact List.length_eq_zero_iff.1 HN2.out)]; rfl)
        go_wp2_with (go_at_call 45; (with_reducible refine HLi.out.mono ?_); rintro e w2 ⟨v, rfl, ho, hb⟩; obtain ⟨q2, d2, rfl, hq2⟩ := row_see ho 0 HN2.out; have HB2 := hid (below_out HBa.out hb); clear hb ho hq2 hc HLi)
        (try simp only [Exit.inBlock, Exit.then])
        go_ret3
        exact ⟨(by rw [HE.out]; rfl), HB2.out⟩
      have hn1 : ¬ (n2 : Int) = 0 := by omega
      have hn3 : ((n2 : Int) == 0) = false := by simpa using hn0
      have HNe := hid (show J ≠ [] from fun e => hn0 (by rw [← HN2.out, e]; rfl))
      have hn4 : 0 < n2 := by omega
      obtain ⟨RI, hRI⟩ : ∃ RI, run st J = RI := ⟨_, rfl⟩
      have HRI := hid hRI
      clear hn0 hRI
      go_wp2_with (go_at_call 45; (with_reducible refine HLi.out.mono ?_); rintro e w2 ⟨v, rfl, ho, hb⟩; obtain ⟨q2, d2, rfl, hq2⟩ := row_see ho n2 HN2.out; have HB2 := hid hb; have HQ2 := hid hq2; clear hb ho hq2 hc HLi)
      go_loopg [6, 9] (n2 + 1) (fun gk s6 s wr2 => ∃ (j : Nat) (st2 : Option Int) (a2 : Int), s6 = .int .i64 a2 ∧ s = .int .i64 (j : Int) ∧ j ≤ n2 ∧ gk = n2 - j + 1 ∧ Below w2.heap.size w2 wr2 ∧ StD st2 a2 ∧ (0 < j → st2.isSome = true) ∧ run st2 (J.drop j) = RI)
      case atStart => exact ⟨0, st, a, rfl, rfl, by omega, rfl, Below.refl _ _, HSt.out, fun h => by omega, HRI.out⟩
      case round =>
        obtain ⟨j, st2, a2, rfl, rfl, hjn, rfl, hb, hst2, hsome2, hh⟩ := hrel
        rename World => wv
        have HB3 := hid hb
        have HH3 := hid hh
        have HSo2 := hid hsome2
        have HBa := hid (show Below w.heap.size w wv from below_out (below_out (below_out HB1.out HB.out) HB2.out) hb)
        clear hb hh hsome2
        by_cases hlt2 : j < n2
        · obtain ⟨y, hy⟩ : ∃ y, J[j]? = some y := ⟨J[j]'(by rw [HN2.out]; exact hlt2), List.getElem?_eq_getElem (by rw [HN2.out]; exact hlt2)⟩
          have hys := HZ2.out y (List.mem_of_getElem? hy)
          obtain ⟨g2, hq2, hc2⟩ := HQ2.out j y hy
          subst hq2
          have hc := cell_keep HB3.out hc2
          have hltI2 : (j : Int) < (n2 : Int) := by omega
          have HD := hid (show ∀ W : World, _ from fun W => rdecimal_any y 1099511627776 W (Nat.le_trans hys (by decide)) (by decide) (by decide))
          obtain ⟨x', hx'⟩ : ∃ x', numN 10 1099511627776 y = x' := ⟨_, rfl⟩
          obtain ⟨k', hk'⟩ : ∃ k', numE 10 1099511627776 y = k' := ⟨_, rfl⟩
          rw [hx', hk'] at HD
          have HY := hid hy
          by_cases hk0' : k' = 0
          · have HE := hid (elB_yes (by rw [hk']; exact hk0') hx')
            have hx0 : 0 ≤ x' := (elB_nonneg HE.out).1
            have HX0 := hid hx0
            subst hk0'
            clear hy hx' hk' hc2 hlt2 hx0
            rcases st2 with _ | nn
            · have hst3 : a2 = -1 := hst2
              subst hst3
              have HXX := hid (run_go HH3.out HY.out HE.out (.inl rfl))
              go_wp2_with (go_at_call 46; (with_reducible refine (HD.out _).mono ?_); rintro e w1 ⟨rfl, hw1⟩; subst w1)
              go_roundg (n2 - (j + 1) + 1)
              case measure => omega
              case rel => exact ⟨j + 1, some x', x', rfl, by go_num, by omega, rfl, HB3.out, ⟨rfl, HX0.out⟩, fun _ => rfl, HXX.out⟩
            · obtain ⟨rfl, ha0⟩ := hst2
              by_cases hxa : x' = a2
              · subst hxa
                have HXX := hid (run_go HH3.out HY.out HE.out (.inr rfl))
                go_wp2_with (go_at_call 46; (with_reducible refine (HD.out _).mono ?_); rintro e w1 ⟨rfl, hw1⟩; subst w1)
                go_roundg (n2 - (j + 1) + 1)
                case measure => omega
                case rel => exact ⟨j + 1, some x', x', rfl, by go_num, by omega, rfl, HB3.out, ⟨rfl, HX0.out⟩, fun _ => rfl, HXX.out⟩
              · have HXX := hid (show T = (0, false, 3) from by rw [HT.out, runD_bad HH.out HX.out HJ.out HNe.out (by rw [HRI.out]; exact run_part HH3.out HY.out HE.out hxa)]; rfl)
                have hx1 : (x' != a2) = true := by simpa using hxa
                have hx2 : (x' == a2) = false := by simpa using hxa
                go_wp2_with (go_at_call 46; (with_reducible refine (HD.out _).mono ?_); rintro e w1 ⟨rfl, hw1⟩; subst w1)
                (try simp only [Exit.inBlock, Exit.then])
                go_ret3
                exact ⟨(by rw [HXX.out]; rfl), HBa.out⟩
          · have HE := hid (elB_no (by rw [hk']; exact hk0'))
            have HXX := hid (show T = (0, false, 3) from by rw [HT.out, runD_bad HH.out HX.out HJ.out HNe.out (by rw [HRI.out]; exact run_bad HH3.out HY.out HE.out)]; rfl)
            have hk1' : (k' != 0) = true := by simpa using hk0'
            have hk2' : (k' == 0) = false := by simpa using hk0'
            clear hy hx' hk' hc2 hlt2 hst2
            go_wp2_with (go_at_call 46; (with_reducible refine (HD.out _).mono ?_); rintro e w1 ⟨rfl, hw1⟩; subst w1)
            (try simp only [Exit.inBlock, Exit.then])
            go_ret3
            exact ⟨(by rw [HXX.out]; rfl), HBa.out⟩
        · obtain rfl : j = n2 := by omega
          have hltI2 : ¬ (j : Int) < (j : Int) := by omega
          have HE := hid (show run st J = some st2 from by rw [HRI.out]; exact run_end HH3.out (by rw [HN2.out]; exact Nat.le_refl _))
          have HG := hid (runD_go HH.out HX.out HJ.out HNe.out HE.out)
          have HS2 := hid hst2
          have HP := hid hn4
          clear hlt2 hst2 hn4 hn1 hn3
          go_wp2
          go_roundg (k - (i + 1) + 1)
          case measure => omega
          case rel => exact ⟨i + 1, st2, a2, rfl, by go_num, by omega, rfl, below_out (below_out HB.out HB2.out) HB3.out, HS2.out, fun _ => HSo2.out HP.out, HG.out⟩
    · obtain rfl : i = k := by omega
      have hltI : ¬ (i : Int) < (i : Int) := by omega
      have HX := hid (show T = (a, true, 0) from by
        rw [HT.out, runD_end HH.out (by rw [HK.out]; exact Nat.le_refl _)]
        have h8 := HSo.out hk3
        have h9 := HSt.out
        rcases st with _ | n
        · cases h8
        · obtain ⟨rfl, _⟩ := h9; rfl)
      clear hlt
      go_wp2
      go_ret3
      exact ⟨(by rw [HX.out]; rfl), HBa.out⟩
end Go.Proofs.YthakldcfpndabaaDoor
