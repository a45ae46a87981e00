/- Which of two patterns is better, by the document. -/
import Derived.Test.YtdjjkcpnjocafaaDoorTJoin
import Derived.Deep.QuietTactic
import Derived.BigQuiet
namespace Go.Proofs.YtdjjkcpnjocafaaDoor
open Go.RowKit

theorem below_drewT (w : World) (n : Nat) : Below w.heap.size w (w.drewN n) := ⟨rfl, rfl, rfl, Nat.le_refl _, fun _ _ => rfl⟩
theorem cutT_mem_len {t x : B} (h : x ∈ cutT t) : x.length ≤ t.length := by
  have := joinT_mem h
  rwa [joinT_cut] at this
theorem better_step {x y : List B} {i : Nat} {a b : B} (ha : x[i]? = some a) (hb : y[i]? = some b) : betterT (x.drop i) (y.drop i) = if kindT a = kindT b then betterT (x.drop (i + 1)) (y.drop (i + 1)) else decide (kindT a < kindT b) := by
  have e1 := (List.getElem?_eq_some_iff.1 ha)
  have e2 := (List.getElem?_eq_some_iff.1 hb)
  obtain ⟨h1, e1⟩ := e1
  obtain ⟨h2, e2⟩ := e2
  rw [List.drop_eq_getElem_cons h1, List.drop_eq_getElem_cons h2, e1, e2]
  rfl
set_option maxRecDepth 20000 in
set_option maxHeartbeats 8000000 in
theorem rbetter_any (ta tb : B) (ha : ta.length < 4398046511104) (hb : tb.length < 4398046511104) (w : World) : Calls Tryd.prog 38 #[.string (str (47 :: ta)), .string (str (47 :: tb))] w fun e w' => e = .returned (.bool (betterT (cutT ta) (cutT tb))) ∧ Below w.heap.size w w' := by
  have HSa := hid (fun W : World => rsplit_yes ta ha W)
  have HSb := hid (fun W : World => rsplit_yes tb hb W)
  have HXa := hid (show ∀ x ∈ cutT ta, x.length ≤ 4398046511104 from fun x h => Nat.le_trans (cutT_mem_len h) (by omega))
  have HXb := hid (show ∀ x ∈ cutT tb, x.length ≤ 4398046511104 from fun x h => Nat.le_trans (cutT_mem_len h) (by omega))
  have hla := cutT_len ta
  have hlb := cutT_len tb
  have HKi := hid (fun (x : B) (hx : x.length ≤ 4398046511104) (W : World) => rkind_any x hx W)
  obtain ⟨x, hx⟩ : ∃ x, cutT ta = x := ⟨_, rfl⟩
  obtain ⟨y, hy⟩ : ∃ y, cutT tb = y := ⟨_, rfl⟩
  rw [hx] at HSa HXa hla ⊢
  rw [hy] at HSb HXb hlb ⊢
  obtain ⟨A, hA⟩ : ∃ A, str (47 :: ta) = A := ⟨_, rfl⟩
  obtain ⟨C, hC⟩ : ∃ C, str (47 :: tb) = C := ⟨_, rfl⟩
  rw [hA] at HSa ⊢
  rw [hC] at HSb ⊢
  obtain ⟨n, hn⟩ : ∃ n, x.length = n := ⟨_, rfl⟩
  obtain ⟨m, hm⟩ : ∃ m, y.length = m := ⟨_, rfl⟩
  have HN := hid hn
  have HM := hid hm
  rw [hn] at HSa hla
  rw [hm] at HSb hlb
  have hnn : n ≤ 4398046511104 := by omega
  have hmm : m ≤ 4398046511104 := by omega
  clear hx hy hA hC hn hm ha hb hla hlb
  go_enter Tryd.func38, Tryd.ntmps38
  go_wp2_with (go_at_call 30; first | ((with_reducible refine (HSa.out _).mono ?_); rintro e w1 ⟨p1, c1, rfl, ho, hb⟩; have HT1 := hid ho.tx; have HB1 := hid hb; clear ho hb HSa) | ((with_reducible refine (HSb.out _).mono ?_); rintro e w2 ⟨p2, c2, rfl, ho, hb⟩; have HT2 := hid ho.tx; have HT3 := hid (HT1.out.next hb); have HB2 := hid (below_out HB1.out hb); clear ho hb HSb HT1 HB1))
  go_loopg [9] (n + 1) (fun gk s9 wr => ∃ i : Nat, i ≤ n ∧ i ≤ m ∧ gk = n - i + 1 ∧ s9 = .int .i64 (i : Int) ∧ betterT x y = betterT (x.drop i) (y.drop i) ∧ Below w2.heap.size w2 wr)
  case atStart => exact ⟨0, by omega, by omega, rfl, rfl, rfl, Below.refl _ _⟩
  case round =>
    obtain ⟨i, hi, hi', rfl, rfl, hE, hb⟩ := hrel
    have HE := hid hE
    have HB := hid hb
    clear hE hb
    by_cases hin : i < n
    · by_cases him : i < m
      · have h1 : i < x.length := by rw [HN.out]; exact hin
        have h2 : i < y.length := by rw [HM.out]; exact him
        obtain ⟨a, ha⟩ : ∃ a, x[i]? = some a := ⟨_, List.getElem?_eq_getElem h1⟩
        obtain ⟨b, hb⟩ : ∃ b, y[i]? = some b := ⟨_, List.getElem?_eq_getElem h2⟩
        obtain ⟨g1, o1, rfl, q1⟩ := (HT3.out.next HB.out) i a ha
        obtain ⟨g2, o2, rfl, q2⟩ := (HT2.out.next HB.out) i b hb
        have HSt := hid (better_step ha hb)
        have HKa := hid (fun W : World => HKi.out a (HXa.out a (List.mem_of_getElem? ha)) W)
        have HKb := hid (fun W : World => HKi.out b (HXb.out b (List.mem_of_getElem? hb)) W)
        obtain ⟨Ka, hKa⟩ : ∃ K, kindT a = K := ⟨_, rfl⟩
        obtain ⟨Kb, hKb⟩ : ∃ K, kindT b = K := ⟨_, rfl⟩
        have hka2 := kindT_le a
        have hkb2 := kindT_le b
        obtain ⟨Sa, hSa⟩ : ∃ S, str a = S := ⟨_, rfl⟩
        obtain ⟨Sb, hSb⟩ : ∃ S, str b = S := ⟨_, rfl⟩
        rw [hKa] at HKa HSt hka2
        rw [hKb] at HKb HSt hkb2
        rw [hSa] at HKa q1
        rw [hSb] at HKb q2
        clear h1 h2 ha hb hKa hKb hSa hSb
        by_cases hk : Ka = Kb
        · subst hk
          rw [if_pos rfl] at HSt
          go_wp2
          go_quiet ((go_at_call 31; first | (with_reducible exact Calls.quiet_of_same (HKa.out _)) | (with_reducible exact Calls.quiet_of_same (HKb.out _))))
          go_wp2
          go_roundg (n - (i + 1) + 1)
          case measure => omega
          case rel => exact ⟨i + 1, by omega, by omega, rfl, by push_cast; go_num, HE.out.trans HSt.out, HB.out.trans ((below_drewT _ _).mono HB.out.size)⟩
        · have hk1 : ¬ (Ka : Int) = (Kb : Int) := by omega
          have hk2 : ((Ka : Int) == (Kb : Int)) = false := by simp; omega
          have hk3 : ((Ka : Int) != (Kb : Int)) = true := by simp; omega
          rw [if_neg hk] at HSt
          go_wp2
          go_quiet ((go_at_call 31; first | (with_reducible exact Calls.quiet_of_same (HKa.out _)) | (with_reducible exact Calls.quiet_of_same (HKb.out _))))
          go_wp2
          obtain ⟨w5, hw5⟩ : ∃ w5, wr.drewN nq = w5 := ⟨_, rfl⟩
          have q3 : w5.cell? ⟨g1, o1 + i, none⟩ = some (.string Sa) := by rw [← hw5]; exact q1
          have q4 : w5.cell? ⟨g2, o2 + i, none⟩ = some (.string Sb) := by rw [← hw5]; exact q2
          have HB5 := hid (show Below w2.heap.size w2 w5 from by rw [← hw5]; exact HB.out.trans ((below_drewT _ _).mono HB.out.size))
          rw [hw5]
          clear hw5 q1 q2 HB
          go_quiet ((go_at_call 31; first | (with_reducible exact Calls.quiet_of_same (HKa.out _)) | (with_reducible exact Calls.quiet_of_same (HKb.out _))))
          go_wp2
          go_ret
          refine ⟨?_, below_out HB2.out (HB5.out.trans ((below_drewT _ _).mono HB5.out.size))⟩
          rw [HE.out, HSt.out]
          simp
      · obtain rfl : m = i := by omega
        have HV := hid (show betterT (x.drop m) (y.drop m) = false from by
          rw [List.drop_of_length_le (l := y) (by rw [HM.out]; exact Nat.le_refl _)]
          cases x.drop m <;> rfl)
        go_wp2
        go_ret
        exact ⟨by rw [HE.out, HV.out]; rfl, below_out HB2.out HB.out⟩
    · obtain rfl : n = i := by omega
      have HV := hid (show betterT (x.drop n) (y.drop n) = false from by
        rw [List.drop_of_length_le (l := x) (by rw [HN.out]; exact Nat.le_refl _)]
        rfl)
      go_wp2
      go_ret
      exact ⟨by rw [HE.out, HV.out]; rfl, below_out HB2.out HB.out⟩
end Go.Proofs.YtdjjkcpnjocafaaDoor
