/- The length that fields tell, on both sides. -/
import Derived.Test.YthakldcfpndabaaDoorFPlain
namespace Go.Proofs.YthakldcfpndabaaDoor
open Go.RowKit

/-- The number so far, and whether there is one. -/
def StN : Option Int → Int → Bool → Prop
  | none, a, b => a = 0 ∧ b = false
  | some n, a, b => a = n ∧ b = true
def StD : Option Int → Int → Prop
  | none, a => a = -1
  | some n, a => a = n ∧ 0 ≤ n
theorem drop_at {α : Type} {L : List α} {j : Nat} {x : α} (h : L[j]? = some x) : L.drop j = x :: L.drop (j + 1) := by
  obtain ⟨hlt, rfl⟩ := List.getElem?_eq_some_iff.1 h
  exact List.drop_eq_getElem_cons hlt
theorem run_bad {s : Option Int} {J : List ByteArray} {j : Nat} {x : ByteArray} {R : Option (Option Int)} (h : run s (J.drop j) = R) (hx : J[j]? = some x) (he : elB x = none) : R = none := by
  rw [drop_at hx] at h
  unfold run at h
  rw [he] at h
  exact h.symm
theorem run_go {s : Option Int} {J : List ByteArray} {j : Nat} {x : ByteArray} {R : Option (Option Int)} {m : Int} (h : run s (J.drop j) = R) (hx : J[j]? = some x) (he : elB x = some m) (hs : s = none ∨ s = some m) : run (some m) (J.drop (j + 1)) = R := by
  rw [drop_at hx] at h
  unfold run at h
  rw [he] at h
  simp only at h
  rw [if_pos hs] at h
  exact h
theorem run_part {n : Int} {J : List ByteArray} {j : Nat} {x : ByteArray} {R : Option (Option Int)} {m : Int} (h : run (some n) (J.drop j) = R) (hx : J[j]? = some x) (he : elB x = some m) (hs : ¬ m = n) : R = none := by
  rw [drop_at hx] at h
  unfold run at h
  rw [he] at h
  simp only at h
  rw [if_neg (by simp; omega)] at h
  exact h.symm
theorem run_end {s : Option Int} {J : List ByteArray} {j : Nat} {R : Option (Option Int)} (h : run s (J.drop j) = R) (hj : J.length ≤ j) : R = some s := by
  rw [List.drop_eq_nil_of_le hj] at h
  exact h.symm
theorem runV_bad {s : Option Int} {J : List ByteArray} {j : Nat} {x : ByteArray} {R : Option (Option Int)} (h : runV s (J.drop j) = R) (hx : J[j]? = some x) (he : oneN x = none) : R = none := by
  rw [drop_at hx] at h
  unfold runV at h
  rw [he] at h
  exact h.symm
theorem runV_go {s : Option Int} {J : List ByteArray} {j : Nat} {x : ByteArray} {R : Option (Option Int)} {m : Int} (h : runV s (J.drop j) = R) (hx : J[j]? = some x) (he : oneN x = some m) (hs : s = none ∨ s = some m) : runV (some m) (J.drop (j + 1)) = R := by
  rw [drop_at hx] at h
  unfold runV at h
  rw [he] at h
  simp only at h
  rw [if_pos hs] at h
  exact h
theorem runV_part {n : Int} {J : List ByteArray} {j : Nat} {x : ByteArray} {R : Option (Option Int)} {m : Int} (h : runV (some n) (J.drop j) = R) (hx : J[j]? = some x) (he : oneN x = some m) (hs : ¬ m = n) : R = none := by
  rw [drop_at hx] at h
  unfold runV at h
  rw [he] at h
  simp only at h
  rw [if_neg (by simp; omega)] at h
  exact h.symm
theorem runV_end {s : Option Int} {J : List ByteArray} {j : Nat} {R : Option (Option Int)} (h : runV s (J.drop j) = R) (hj : J.length ≤ j) : R = some s := by
  rw [List.drop_eq_nil_of_le hj] at h
  exact h.symm
theorem elB_yes {x : ByteArray} {m : Int} (h : numE 10 1099511627776 x = 0) (hm : numN 10 1099511627776 x = m) : elB x = some m := by unfold elB; rw [if_pos h, hm]
theorem elB_no {x : ByteArray} (h : ¬ numE 10 1099511627776 x = 0) : elB x = none := by unfold elB; rw [if_neg h]
/-- The two words that oneNumber answers. -/
def oneV (R : Option Int) : Int × Bool := match R with
  | some n => (n, true)
  | none => (0, false)
def outR : Option (Option Int) → Int × Bool
  | some (some n) => (n, true)
  | _ => (0, false)
theorem oneV_out (v : ByteArray) : oneV (oneN v) = outR (run none (listS v)) := by
  unfold oneN oneV
  rcases run none (listS v) with _ | _ | n <;> rfl
set_option maxRecDepth 20000 in
set_option maxHeartbeats 8000000 in
theorem onenumber_any (v : ByteArray) (w : World) (hv : v.size ≤ 1048576) (hmx : ∃ m : Int, w.cell? ⟨2, 0, none⟩ = some (.int .i64 m)) :
    Calls Tryd.prog 43 #[.string v] w fun e w' => e = .returned (.tuple #[.int .i64 (oneV (oneN v)).1, .bool (oneV (oneN v)).2]) ∧ Below w.heap.size w w' := by
  obtain ⟨mm, hmm⟩ := hmx
  have HLi := hid (list_any v mm w hv hmm)
  have HZ2 := hid (show ∀ y ∈ listS v, y.size ≤ 1048576 from fun y hy => Nat.le_trans (listS_small hy) hv)
  have hJn : (listS v).length ≤ 1048577 := Nat.le_trans (listS_many v) (by omega)
  obtain ⟨T, hT⟩ : ∃ T, oneV (oneN v) = T := ⟨_, rfl⟩
  obtain ⟨R, hR⟩ : ∃ R, run none (listS v) = R := ⟨_, rfl⟩
  have HT := hid (show T = outR R from by rw [← hT, ← hR]; exact oneV_out v)
  rw [hT]
  clear hT
  obtain ⟨J, hJ⟩ : ∃ J, listS v = J := ⟨_, rfl⟩
  rw [hJ] at HLi HZ2 hJn hR
  have HR := hid hR
  obtain ⟨n2, hn2⟩ : ∃ n2, J.length = n2 := ⟨_, rfl⟩
  rw [hn2] at hJn
  have HN2 := hid hn2
  clear hJ hn2 hmm hR
  go_enter Tryd.func43, Tryd.ntmps43
  go_wp2_with (go_at_call 66; (with_reducible refine HLi.out.mono ?_); rintro e w2 ⟨v, rfl, ho, hb⟩; obtain ⟨q2, d2, rfl, hq2⟩ := row_see ho n2 HN2.out; have HB2 := hid hb; have HQ2 := hid hq2; clear hb ho hq2 HLi)
  go_loopg [4, 5, 13] (n2 + 1) (fun gk s4 s5 s wr2 => ∃ (j : Nat) (st : Option Int) (a : Int) (b : Bool), s4 = .int .i64 a ∧ s5 = .bool b ∧ s = .int .i64 (j : Int) ∧ j ≤ n2 ∧ gk = n2 - j + 1 ∧ Below w2.heap.size w2 wr2 ∧ StN st a b ∧ run st (J.drop j) = R)
  case atStart => exact ⟨0, none, 0, false, rfl, rfl, rfl, by omega, rfl, Below.refl _ _, ⟨rfl, rfl⟩, HR.out⟩
  case round =>
    obtain ⟨j, st, a, b, rfl, rfl, rfl, hjn, rfl, hb, hst, hh⟩ := hrel
    rename World => wv
    have HB3 := hid hb
    have HH3 := hid hh
    have HBa := hid (show Below w.heap.size w wv from below_out HB2.out hb)
    clear hb hh
    by_cases hlt2 : j < n2
    · obtain ⟨y, hy⟩ : ∃ y, J[j]? = some y := ⟨J[j]'(by rw [HN2.out]; exact hlt2), List.getElem?_eq_getElem (by rw [HN2.out]; exact hlt2)⟩
      have hys := HZ2.out y (List.mem_of_getElem? hy)
      obtain ⟨g2, hq2, hc2⟩ := HQ2.out j y hy
      subst hq2
      have hc := cell_keep HB3.out hc2
      have hltI2 : (j : Int) < (n2 : Int) := by omega
      have HD := hid (show ∀ W : World, _ from fun W => decimal_any y 1099511627776 W (Nat.le_trans hys (by decide)) (by decide) (by decide))
      obtain ⟨x, hx⟩ : ∃ x, numN 10 1099511627776 y = x := ⟨_, rfl⟩
      obtain ⟨k, hk⟩ : ∃ k, numE 10 1099511627776 y = k := ⟨_, rfl⟩
      rw [hx, hk] at HD
      have HY := hid hy
      by_cases hk0 : k = 0
      · have HE := hid (elB_yes (by rw [hk]; exact hk0) hx)
        subst hk0
        rw [show errV 0 = .nilIface from rfl] at HD
        clear hy hx hk hc2 hlt2
        rcases st with _ | n
        · obtain ⟨rfl, rfl⟩ := hst
          have HX := hid (run_go HH3.out HY.out HE.out (.inl rfl))
          go_wp2_with (go_at_call 67; (with_reducible refine (HD.out _).mono ?_); rintro e w1 ⟨rfl, hw1⟩; subst w1)
          go_roundg (n2 - (j + 1) + 1)
          case measure => omega
          case rel => exact ⟨j + 1, some x, x, true, rfl, rfl, by go_num, by omega, rfl, HB3.out, ⟨rfl, rfl⟩, HX.out⟩
        · obtain ⟨rfl, rfl⟩ := hst
          by_cases hxa : x = a
          · subst hxa
            have HX := hid (run_go HH3.out HY.out HE.out (.inr rfl))
            go_wp2_with (go_at_call 67; (with_reducible refine (HD.out _).mono ?_); rintro e w1 ⟨rfl, hw1⟩; subst w1)
            go_roundg (n2 - (j + 1) + 1)
            case measure => omega
            case rel => exact ⟨j + 1, some x, x, true, rfl, rfl, by go_num, by omega, rfl, HB3.out, ⟨rfl, rfl⟩, HX.out⟩
          · have HX := hid (show T = (0, false) from by rw [HT.out, run_part HH3.out HY.out HE.out hxa]; rfl)
            have hx1 : (x != a) = true := by simpa using hxa
            have hx2 : (x == a) = false := by simpa using hxa
            go_wp2_with (go_at_call 67; (with_reducible refine (HD.out _).mono ?_); rintro e w1 ⟨rfl, hw1⟩; subst w1)
            (try simp only [Exit.inBlock, Exit.then])
            go_ret2
            exact ⟨(by rw [HX.out]; rfl), HBa.out⟩
      · have HE := hid (elB_no (by rw [hk]; exact hk0))
        have HX := hid (show T = (0, false) from by rw [HT.out, run_bad HH3.out HY.out HE.out]; rfl)
        rw [show errV k = .iface 83 (.int .i64 k) from by unfold errV; rw [if_neg hk0]] at HD
        clear hy hx hk hc2 hlt2 hst
        go_wp2_with (go_at_call 67; (with_reducible refine (HD.out _).mono ?_); rintro e w1 ⟨rfl, hw1⟩; subst w1)
        (try simp only [Exit.inBlock, Exit.then])
        go_ret2
        exact ⟨(by rw [HX.out]; rfl), HBa.out⟩
    · obtain rfl : j = n2 := by omega
      have hltI2 : ¬ (j : Int) < (j : Int) := by omega
      have HX := hid (show T = (a, b) from by
        rw [HT.out, run_end HH3.out (by rw [HN2.out]; exact Nat.le_refl _)]
        rcases st with _ | n
        · obtain ⟨rfl, rfl⟩ := hst; rfl
        · obtain ⟨rfl, rfl⟩ := hst; rfl)
      clear hlt2 hst
      go_wp2
      go_ret2
      exact ⟨(by rw [HX.out]; rfl), HBa.out⟩
set_option maxRecDepth 20000 in
set_option maxHeartbeats 8000000 in
theorem plength (fs : List (B × B)) (p : Option Addr) (n c : Nat) (hn : fs.length = n) (w : World) (hF : FAt w p fs) (hsz : szB fs) (hnn : n ≤ 1048576) (hmx : ∃ m : Int, w.cell? ⟨2, 0, none⟩ = some (.int .i64 m)) :
    Calls Tryd.prog 18 #[.slice p n c] w fun e w' => e = .returned (.tuple #[.int .i64 (lenT (lenF fs)).1, .bool (lenT (lenF fs)).2.1, errOf (lenT (lenF fs)).2.2]) ∧ Below w.heap.size w w' := by
  obtain ⟨mm, hmm⟩ := hmx
  have HV := hid (show ∀ _ : Unit, _ from fun _ => pvals fs p n c hn clN w hF hsz (by decide) hnn)
  unfold clN at HV
  have HZ := hid (show ∀ x ∈ valsB fs clN, x.size ≤ 1048576 from fun x hx => vals_small hsz hx)
  have hLn : (valsB fs clN).length ≤ 1048576 := Nat.le_trans (vals_le fs clN) (by omega)
  have hR : runV none (valsB fs clN) = lenF fs := rfl
  unfold clN at HZ hLn hR
  obtain ⟨L, hL⟩ : ∃ L, valsB fs ⟨#[67, 111, 110, 116, 101, 110, 116, 45, 76, 101, 110, 103, 116, 104]⟩ = L := ⟨_, rfl⟩
  obtain ⟨R, hRR⟩ : ∃ R, lenF fs = R := ⟨_, rfl⟩
  rw [hL] at HV HZ hLn hR
  rw [hRR] at hR ⊢
  have HR := hid hR
  have HM := hid hmm
  clear hL hF hsz hn hR hRR hmm
  obtain ⟨T, hT⟩ : ∃ T, lenT R = T := ⟨_, rfl⟩
  have HT := hid hT.symm
  rw [hT]
  clear hT
  obtain ⟨k, hk⟩ : ∃ k, L.length = k := ⟨_, rfl⟩
  rw [hk] at hLn
  have HK := hid hk
  clear hk
  go_enter Tryd.func18, Tryd.ntmps18
  go_wp2_with (go_at_call 42; (with_reducible refine (HV.out ()).mono ?_); rintro e w1 ⟨v, rfl, ho, hb⟩; obtain ⟨q, d, rfl, hq⟩ := row_see ho k HK.out; have HB1 := hid hb; have HQ := hid hq; clear hb ho hq HV)
  go_loopg [5, 6, 14] (k + 1) (fun gk s5 s6 s wr => ∃ (i : Nat) (st : Option Int) (a : Int) (b : Bool), s5 = .int .i64 a ∧ s6 = .bool b ∧ s = .int .i64 (i : Int) ∧ i ≤ k ∧ gk = k - i + 1 ∧ Below w1.heap.size w1 wr ∧ StN st a b ∧ runV st (L.drop i) = R)
  case atStart => exact ⟨0, none, 0, false, rfl, rfl, rfl, by omega, rfl, Below.refl _ _, ⟨rfl, rfl⟩, HR.out⟩
  case round =>
    obtain ⟨i, st, a, b, rfl, rfl, rfl, hin, rfl, hb, hst, hh⟩ := hrel
    rename World => wr
    have HB := hid hb
    have HBa := hid (show Below w.heap.size w wr from below_out HB1.out hb)
    have HH := hid hh
    clear hb hh
    by_cases hlt : i < k
    · obtain ⟨x, hx⟩ : ∃ x, L[i]? = some x := ⟨L[i]'(by rw [HK.out]; exact hlt), List.getElem?_eq_getElem (by rw [HK.out]; exact hlt)⟩
      have hxs := HZ.out x (List.mem_of_getElem? hx)
      obtain ⟨g, hq, hc1⟩ := HQ.out i x hx
      subst hq
      have hc := cell_keep HB.out hc1
      have hltI : (i : Int) < (k : Int) := by omega
      have HX := hid hx
      have HO := hid (onenumber_any x wr hxs ⟨mm, cell_keep HBa.out HM.out⟩)
      cases ho : oneN x with
      | none =>
        have HE := hid (show T = (0, false, 3) from by rw [HT.out, runV_bad HH.out HX.out ho]; rfl)
        rw [ho, show oneV none = (0, false) from rfl] at HO
        dsimp only at HO
        clear hx hc1 hst ho hlt
        go_wp2_with (go_at_call 43; (with_reducible refine HO.out.mono ?_); rintro e w2 ⟨rfl, hb⟩; have HB2 := hid (below_out HBa.out hb); clear hb HO)
        (try simp only [Exit.inBlock, Exit.then])
        go_ret3
        exact ⟨(by rw [HE.out]; rfl), HB2.out⟩
      | some m =>
        rw [ho, show oneV (some m) = (m, true) from rfl] at HO
        dsimp only at HO
        have HE := hid ho
        clear hx hc1 ho hlt
        rcases st with _ | n0
        · obtain ⟨rfl, rfl⟩ := hst
          have HG := hid (runV_go HH.out HX.out HE.out (.inl rfl))
          go_wp2_with (go_at_call 43; (with_reducible refine HO.out.mono ?_); rintro e w2 ⟨rfl, hb⟩; have HB2 := hid (below_out HB.out hb); clear hb HO)
          go_roundg (k - (i + 1) + 1)
          case measure => omega
          case rel => exact ⟨i + 1, some m, m, true, rfl, rfl, by go_num, by omega, rfl, HB2.out, ⟨rfl, rfl⟩, HG.out⟩
        · obtain ⟨rfl, rfl⟩ := hst
          by_cases hxa : m = a
          · subst hxa
            have HG := hid (runV_go HH.out HX.out HE.out (.inr rfl))
            go_wp2_with (go_at_call 43; (with_reducible refine HO.out.mono ?_); rintro e w2 ⟨rfl, hb⟩; have HB2 := hid (below_out HB.out hb); clear hb HO)
            go_roundg (k - (i + 1) + 1)
            case measure => omega
            case rel => exact ⟨i + 1, some m, m, true, rfl, rfl, by go_num, by omega, rfl, HB2.out, ⟨rfl, rfl⟩, HG.out⟩
          · have HG := hid (show T = (0, false, 3) from by rw [HT.out, runV_part HH.out HX.out HE.out hxa]; rfl)
            have hx1 : (m != a) = true := by simpa using hxa
            have hx2 : (m == a) = false := by simpa using hxa
            go_wp2_with (go_at_call 43; (with_reducible refine HO.out.mono ?_); rintro e w2 ⟨rfl, hb⟩; have HB2 := hid (below_out HBa.out hb); clear hb HO)
            (try simp only [Exit.inBlock, Exit.then])
            go_ret3
            exact ⟨(by rw [HG.out]; rfl), HB2.out⟩
    · obtain rfl : i = k := by omega
      have hltI : ¬ (i : Int) < (i : Int) := by omega
      have HX := hid (show T = (a, b, 0) from by
        rw [HT.out, runV_end HH.out (by rw [HK.out]; exact Nat.le_refl _)]
        rcases st with _ | n
        · obtain ⟨rfl, rfl⟩ := hst; rfl
        · obtain ⟨rfl, rfl⟩ := hst; rfl)
      clear hlt hst
      go_wp2
      go_ret3
      exact ⟨(by rw [HX.out]; rfl), HBa.out⟩
end Go.Proofs.YthakldcfpndabaaDoor
