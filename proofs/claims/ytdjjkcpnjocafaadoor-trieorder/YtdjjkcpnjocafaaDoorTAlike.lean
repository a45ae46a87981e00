/- Whether two patterns are alike but for tokens, by the document. -/
import Derived.Test.YtdjjkcpnjocafaaDoorTBetter
namespace Go.Proofs.YtdjjkcpnjocafaaDoor
open Go.RowKit

theorem alike_len : ∀ {x y : List B}, alikeT x y = true → x.length = y.length
  | [], [], _ => rfl
  | [], _ :: _, h => by simp [alikeT] at h
  | _ :: _, [], h => by simp [alikeT] at h
  | a :: x, b :: y, h => by
    unfold alikeT at h
    rw [Bool.and_eq_true] at h
    rw [List.length_cons, List.length_cons, alike_len h.2]
theorem alike_step {x y : List B} {i : Nat} {a b : B} (ha : x[i]? = some a) (hb : y[i]? = some b) : alikeT (x.drop i) (y.drop i) = (decide (kindT a = kindT b) && (decide (kindT a ≠ 0) || decide (a = b)) && alikeT (x.drop (i + 1)) (y.drop (i + 1))) := by
  obtain ⟨h1, e1⟩ := (List.getElem?_eq_some_iff.1 ha)
  obtain ⟨h2, e2⟩ := (List.getElem?_eq_some_iff.1 hb)
  rw [List.drop_eq_getElem_cons h1, List.drop_eq_getElem_cons h2, e1, e2]
  rfl
theorem str_injT {a b : B} (h : str a = str b) : a = b := by
  have := congrArg (fun s : ByteArray => s.data.toList) h
  simpa [str] using this
set_option maxRecDepth 20000 in
set_option maxHeartbeats 8000000 in
theorem ralike_any (ta tb : B) (ha : ta.length < 4398046511104) (hb : tb.length < 4398046511104) (w : World) : Calls Tryd.prog 28 #[.string (str (47 :: ta)), .string (str (47 :: tb))] w fun e w' => e = .returned (.bool (alikeT (cutT ta) (cutT tb))) ∧ Below w.heap.size w w' := by
  have HSa := hid (fun W : World => rsplit_yes ta ha W)
  have HSb := hid (fun W : World => rsplit_yes tb hb W)
  have HXa := hid (show ∀ x ∈ cutT ta, x.length ≤ 4398046511104 from fun x h => Nat.le_trans (cutT_mem_len h) (by omega))
  have HXb := hid (show ∀ x ∈ cutT tb, x.length ≤ 4398046511104 from fun x h => Nat.le_trans (cutT_mem_len h) (by omega))
  have hla := cutT_len ta
  have hlb := cutT_len tb
  have HKi := hid (fun (x : B) (hx : x.length ≤ 4398046511104) (W : World) => rkind_any x hx W)
  obtain ⟨x, hx⟩ : ∃ x, cutT ta = x := ⟨_, rfl⟩
  obtain ⟨y, hy⟩ : ∃ y, cutT tb = y := ⟨_, rfl⟩
  rw [hx] at HSa HXa hla ⊢
  rw [hy] at HSb HXb hlb ⊢
  obtain ⟨A, hA⟩ : ∃ A, str (47 :: ta) = A := ⟨_, rfl⟩
  obtain ⟨C, hC⟩ : ∃ C, str (47 :: tb) = C := ⟨_, rfl⟩
  rw [hA] at HSa ⊢
  rw [hC] at HSb ⊢
  obtain ⟨n, hn⟩ : ∃ n, x.length = n := ⟨_, rfl⟩
  obtain ⟨m, hm⟩ : ∃ m, y.length = m := ⟨_, rfl⟩
  have HN := hid hn
  have HM := hid hm
  rw [hn] at HSa hla
  rw [hm] at HSb hlb
  have hnn : n ≤ 4398046511104 := by omega
  have hmm : m ≤ 4398046511104 := by omega
  clear hx hy hA hC hn hm ha hb hla hlb
  by_cases hnm : n = m
  case neg =>
    have HV := hid (show alikeT x y = false from by
      cases h : alikeT x y with
      | false => rfl
      | true => exact absurd (by have := alike_len h; rw [HN.out, HM.out] at this; exact this) hnm)
    have hz1 : ¬ (n : Int) = (m : Int) := by omega
    have hz2 : ((n : Int) != (m : Int)) = true := by simp; omega
    have hz3 : ((n : Int) == (m : Int)) = false := by simp; omega
    rw [HV.out]
    go_enter Tryd.func28, Tryd.ntmps28
    go_wp2_with (go_at_call 30; first | ((with_reducible refine (HSa.out _).mono ?_); rintro e w1 ⟨p1, c1, rfl, ho, hb⟩; have HT1 := hid ho.tx; have HB1 := hid hb; clear ho hb HSa) | ((with_reducible refine (HSb.out _).mono ?_); rintro e w2 ⟨p2, c2, rfl, ho, hb⟩; have HT2 := hid ho.tx; have HT3 := hid (HT1.out.next hb); have HB2 := hid (below_out HB1.out hb); clear ho hb HSb HT1 HB1))
    go_ret
    exact ⟨rfl, HB2.out⟩
  subst hnm
  go_enter Tryd.func28, Tryd.ntmps28
  go_wp2_with (go_at_call 30; first | ((with_reducible refine (HSa.out _).mono ?_); rintro e w1 ⟨p1, c1, rfl, ho, hb⟩; have HT1 := hid ho.tx; have HB1 := hid hb; clear ho hb HSa) | ((with_reducible refine (HSb.out _).mono ?_); rintro e w2 ⟨p2, c2, rfl, ho, hb⟩; have HT2 := hid ho.tx; have HT3 := hid (HT1.out.next hb); have HB2 := hid (below_out HB1.out hb); clear ho hb HSb HT1 HB1))
  go_loopg [9] (n + 1) (fun gk s9 wr => ∃ i : Nat, i ≤ n ∧ gk = n - i + 1 ∧ s9 = .int .i64 (i : Int) ∧ alikeT x y = alikeT (x.drop i) (y.drop i) ∧ Below w2.heap.size w2 wr)
  case atStart => exact ⟨0, by omega, rfl, rfl, rfl, Below.refl _ _⟩
  case round =>
    obtain ⟨i, hi, rfl, rfl, hE, hb⟩ := hrel
    have HE := hid hE
    have HB := hid hb
    clear hE hb
    by_cases hin : i < n
    · have h1 : i < x.length := by rw [HN.out]; exact hin
      have h2 : i < y.length := by rw [HM.out]; exact hin
      obtain ⟨a, ha⟩ : ∃ a, x[i]? = some a := ⟨_, List.getElem?_eq_getElem h1⟩
      obtain ⟨b, hb⟩ : ∃ b, y[i]? = some b := ⟨_, List.getElem?_eq_getElem h2⟩
      obtain ⟨g1, o1, rfl, q1⟩ := (HT3.out.next HB.out) i a ha
      obtain ⟨g2, o2, rfl, q2⟩ := (HT2.out.next HB.out) i b hb
      have HSt := hid (alike_step ha hb)
      have HKa := hid (fun W : World => HKi.out a (HXa.out a (List.mem_of_getElem? ha)) W)
      have HKb := hid (fun W : World => HKi.out b (HXb.out b (List.mem_of_getElem? hb)) W)
      obtain ⟨Ka, hKa⟩ : ∃ K, kindT a = K := ⟨_, rfl⟩
      obtain ⟨Kb, hKb⟩ : ∃ K, kindT b = K := ⟨_, rfl⟩
      have hka2 := kindT_le a
      have hkb2 := kindT_le b
      obtain ⟨Sa, hSa⟩ : ∃ S, str a = S := ⟨_, rfl⟩
      obtain ⟨Sb, hSb⟩ : ∃ S, str b = S := ⟨_, rfl⟩
      have HIn := hid (show Sa = Sb → a = b from fun h => str_injT (by rw [hSa, hSb]; exact h))
      have HIn2 := hid (show a = b → Sa = Sb from fun h => by rw [← hSa, ← hSb, h])
      rw [hKa] at HKa HSt hka2
      rw [hKb] at HKb HSt hkb2
      rw [hSa] at HKa q1
      rw [hSb] at HKb q2
      clear h1 h2 ha hb hKa hKb hSa hSb
      by_cases hk : Ka = Kb
      · subst hk
        rw [decide_eq_true (rfl : Ka = Ka), Bool.true_and] at HSt
        by_cases h0 : Ka = 0
        · subst h0
          by_cases hab : a = b
          · have hS := HIn2.out hab
            subst hS
            rw [decide_eq_true hab, Bool.or_true, Bool.true_and] at HSt
            clear hab
            go_wp2
            go_quiet ((go_at_call 31; first | (with_reducible exact Calls.quiet_of_same (HKa.out _)) | (with_reducible exact Calls.quiet_of_same (HKb.out _))))
            go_wp2
            go_roundg (n - (i + 1) + 1)
            case measure => omega
            case rel => exact ⟨i + 1, by omega, rfl, by push_cast; go_num, HE.out.trans HSt.out, HB.out.trans ((below_drewT _ _).mono HB.out.size)⟩
          · have hS : ¬ Sa = Sb := fun h => hab (HIn.out h)
            have hS4 : (Sa.toList == Sb.toList) = false := ne_list hS
            have hS5 : (!Sa.toList == Sb.toList) = true := by rw [hS4]; rfl
            rw [decide_eq_false hab, Bool.or_false, show decide ((0 : Nat) ≠ 0) = false from rfl, Bool.false_and] at HSt
            clear hab
            go_wp2
            go_quiet ((go_at_call 31; first | (with_reducible exact Calls.quiet_of_same (HKa.out _)) | (with_reducible exact Calls.quiet_of_same (HKb.out _))))
            go_wp2
            go_ret
            exact ⟨by rw [HE.out, HSt.out]; rfl, below_out HB2.out (HB.out.trans ((below_drewT _ _).mono HB.out.size))⟩
        · have hk1 : ¬ (Ka : Int) = 0 := by omega
          have hk2 : ((Ka : Int) == 0) = false := by simp; omega
          rw [decide_eq_true h0, Bool.true_or, Bool.true_and] at HSt
          go_wp2
          go_quiet ((go_at_call 31; first | (with_reducible exact Calls.quiet_of_same (HKa.out _)) | (with_reducible exact Calls.quiet_of_same (HKb.out _))))
          go_wp2
          go_roundg (n - (i + 1) + 1)
          case measure => omega
          case rel => exact ⟨i + 1, by omega, rfl, by push_cast; go_num, HE.out.trans HSt.out, HB.out.trans ((below_drewT _ _).mono HB.out.size)⟩
      · have hk1 : ¬ (Ka : Int) = (Kb : Int) := by omega
        have hk2 : ((Ka : Int) == (Kb : Int)) = false := by simp; omega
        have hk3 : ((Ka : Int) != (Kb : Int)) = true := by simp; omega
        rw [decide_eq_false hk, Bool.false_and, Bool.false_and] at HSt
        go_wp2
        go_quiet ((go_at_call 31; first | (with_reducible exact Calls.quiet_of_same (HKa.out _)) | (with_reducible exact Calls.quiet_of_same (HKb.out _))))
        go_wp2
        go_ret
        exact ⟨by rw [HE.out, HSt.out]; rfl, below_out HB2.out (HB.out.trans ((below_drewT _ _).mono HB.out.size))⟩
    · obtain rfl : n = i := by omega
      have HV := hid (show alikeT (x.drop n) (y.drop n) = true from by
        rw [List.drop_of_length_le (l := x) (by rw [HN.out]; exact Nat.le_refl _), List.drop_of_length_le (l := y) (by rw [HM.out]; exact Nat.le_refl _)]
        rfl)
      go_wp2
      go_ret
      exact ⟨by rw [HE.out, HV.out]; rfl, below_out HB2.out HB.out⟩
end Go.Proofs.YtdjjkcpnjocafaaDoor
