/- Whether a pattern fits a host, and which of two goes ahead, by the document. -/
import Derived.Test.YtkjgdfihhhdjaaaDoorSLab
import Derived.BigQuiet
namespace Go.Proofs.YtkjgdfihhhdjaaaDoor
open Go.RowKit

/-- Texts of a row. -/
def LbAt (w : World) (p : Option Addr) (l : List B) : Prop := ∀ (j : Nat) (t : B), l[j]? = some t → ∃ g o, p = some ⟨g, o, none⟩ ∧ w.cell? ⟨g, o + j, none⟩ = some (.string (str t))
theorem OwnS.lb {w : World} {base n c : Nat} {p : Option Addr} {l : List B} (h : OwnS w base (.slice p n c) l) : LbAt w p l := fun _ _ hj => h.at hj
theorem LbAt.next {w w' : World} {p : Option Addr} {l : List B} (h : LbAt w p l) (hb : Below w.heap.size w w') : LbAt w' p l := by
  intro j t hj
  obtain ⟨g, o, e, hc⟩ := h j t hj
  exact ⟨g, o, e, cell_keep hb hc⟩
theorem below_drewH (w : World) (n : Nat) : Below w.heap.size w (w.drewN n) := ⟨rfl, rfl, rfl, Nat.le_refl _, fun _ _ => rfl⟩
theorem labsH_some {wild : Bool} {s : B} {x : List B} (h : labsH wild s = some x) : s ≠ [] ∧ s.length ≤ 253 ∧ x = (cutH s).map lowH ∧ x.length ≤ 254 ∧ x ≠ [] := by
  unfold labsH at h
  split at h
  · cases h
  · rename_i h1
    split at h
    · injection h with h
      subst h
      have := cutH_len s
      refine ⟨fun e => h1 (.inl e), Nat.le_of_not_lt (fun e => h1 (.inr e)), rfl, ?_, ?_⟩
      · rw [List.length_map]
        have h2 : ¬ 253 < s.length := fun e => h1 (.inr e)
        omega
      · intro e
        exact cutH_ne s (List.map_eq_nil_iff.1 e)
    · cases h
theorem fitsL_len : ∀ {x y : List B}, fitsL x y = true → x.length = y.length
  | [], [], _ => rfl
  | [], _ :: _, h => by simp [fitsL] at h
  | _ :: _, [], h => by simp [fitsL] at h
  | a :: x, b :: y, h => by
    unfold fitsL at h
    rw [Bool.and_eq_true] at h
    rw [List.length_cons, List.length_cons, fitsL_len h.2]
theorem fitsL_step {x y : List B} {i : Nat} {a b : B} (ha : x[i]? = some a) (hb : y[i]? = some b) : fitsL (x.drop i) (y.drop i) = ((decide (a = starL) || decide (a = b)) && fitsL (x.drop (i + 1)) (y.drop (i + 1))) := by
  obtain ⟨h1, e1⟩ := (List.getElem?_eq_some_iff.1 ha)
  obtain ⟨h2, e2⟩ := (List.getElem?_eq_some_iff.1 hb)
  rw [List.drop_eq_getElem_cons h1, List.drop_eq_getElem_cons h2, e1, e2]
  rfl
theorem rfits_nil (h : B) (w : World) : Calls Tryd.prog 38 #[.string (str []), .string (str h)] w fun e w' => e = .returned (.bool true) ∧ w' = w := by
  go_enter Tryd.func38, Tryd.ntmps38
  go_wp2
  go_ret
  exact ⟨rfl, rfl⟩
set_option maxRecDepth 20000 in
set_option maxHeartbeats 8000000 in
theorem rfits_any (p h : B) (x y : List B) (hp : labsH true p = some x) (hh : labsH false h = some y) (w : World) : Calls Tryd.prog 38 #[.string (str p), .string (str h)] w fun e w' => e = .returned (.bool (fitsL x y)) ∧ Below w.heap.size w w' := by
  obtain ⟨hp0, hpl, _, hxl, _⟩ := labsH_some hp
  obtain ⟨_, hhl, _, hyl, _⟩ := labsH_some hh
  have HSa := hid (fun W : World => by have h1 := rlabels_any p true (by omega) W; rw [hp] at h1; exact h1)
  have HSb := hid (fun W : World => by have h1 := rlabels_any h false (by omega) W; rw [hh] at h1; exact h1)
  obtain ⟨A, hA⟩ : ∃ A, str p = A := ⟨_, rfl⟩
  obtain ⟨C, hC⟩ : ∃ C, str h = C := ⟨_, rfl⟩
  have hne1 : ¬ A = (⟨#[]⟩ : ByteArray) := fun e => hp0 (str_inj (by rw [hA, e]))
  have hne2 : (A.toList == (⟨#[]⟩ : ByteArray).toList) = false := ne_list hne1
  have hne3 : A.toList.isEmpty = false := ne_empty hne1
  have hne4 : (A.toList == []) = false := by have h := hne2; rw [ByteArray.toList_eq, ByteArray.toList_eq] at h; rw [ByteArray.toList_eq]; exact h
  rw [hA] at HSa ⊢
  rw [hC] at HSb ⊢
  obtain ⟨n, hn⟩ : ∃ n, x.length = n := ⟨_, rfl⟩
  obtain ⟨m, hm⟩ : ∃ m, y.length = m := ⟨_, rfl⟩
  have HN := hid hn
  have HM := hid hm
  have hnn : n ≤ 254 := by omega
  have hmm : m ≤ 254 := by omega
  unfold LabAns at HSa HSb
  dsimp only at HSa HSb
  rw [hn] at HSa
  rw [hm] at HSb
  clear hA hC hn hm hp hh hp0 hpl hhl hxl hyl
  by_cases hnm : n = m
  case neg =>
    have HV := hid (show fitsL x y = false from by
      cases h : fitsL x y with
      | false => rfl
      | true => exact absurd (by have := fitsL_len h; rw [HN.out, HM.out] at this; exact this) hnm)
    have hz1 : ¬ (n : Int) = (m : Int) := by omega
    have hz2 : ((n : Int) != (m : Int)) = true := by simp; omega
    have hz3 : ((n : Int) == (m : Int)) = false := by simp; omega
    rw [HV.out]
    go_enter Tryd.func38, Tryd.ntmps38
    go_wp2_with (go_at_call 31; first | ((with_reducible refine (HSa.out _).mono ?_); rintro e w1 ⟨hb, p1, c1, rfl, ho⟩; have HT1 := hid ho.lb; have HB1 := hid hb; clear ho hb HSa) | ((with_reducible refine (HSb.out _).mono ?_); rintro e w2 ⟨hb, p2, c2, rfl, ho⟩; have HT2 := hid ho.lb; have HT3 := hid (HT1.out.next hb); have HB2 := hid (below_out HB1.out hb); clear ho hb HSb HT1 HB1))
    go_ret
    exact ⟨rfl, HB2.out⟩
  subst hnm
  go_enter Tryd.func38, Tryd.ntmps38
  go_wp2_with (go_at_call 31; first | ((with_reducible refine (HSa.out _).mono ?_); rintro e w1 ⟨hb, p1, c1, rfl, ho⟩; have HT1 := hid ho.lb; have HB1 := hid hb; clear ho hb HSa) | ((with_reducible refine (HSb.out _).mono ?_); rintro e w2 ⟨hb, p2, c2, rfl, ho⟩; have HT2 := hid ho.lb; have HT3 := hid (HT1.out.next hb); have HB2 := hid (below_out HB1.out hb); clear ho hb HSb HT1 HB1))
  go_loopg [9] (n + 1) (fun gk s9 wr => ∃ i : Nat, i ≤ n ∧ gk = n - i + 1 ∧ s9 = .int .i64 (i : Int) ∧ fitsL x y = fitsL (x.drop i) (y.drop i) ∧ Below w2.heap.size w2 wr)
  case atStart => exact ⟨0, by omega, rfl, rfl, rfl, Below.refl _ _⟩
  case round =>
    obtain ⟨i, hi, rfl, rfl, hE, hb⟩ := hrel
    have HE := hid hE
    have HB := hid hb
    clear hE hb
    by_cases hin : i < n
    · have h1 : i < x.length := by rw [HN.out]; exact hin
      have h2 : i < y.length := by rw [HM.out]; exact hin
      obtain ⟨a, ha⟩ : ∃ a, x[i]? = some a := ⟨_, List.getElem?_eq_getElem h1⟩
      obtain ⟨b, hb⟩ : ∃ b, y[i]? = some b := ⟨_, List.getElem?_eq_getElem h2⟩
      obtain ⟨g1, o1, rfl, q1⟩ := (HT3.out.next HB.out) i a ha
      obtain ⟨g2, o2, rfl, q2⟩ := (HT2.out.next HB.out) i b hb
      have HSt := hid (fitsL_step ha hb)
      obtain ⟨Sa, hSa⟩ : ∃ S, str a = S := ⟨_, rfl⟩
      obtain ⟨Sb, hSb⟩ : ∃ S, str b = S := ⟨_, rfl⟩
      have HIn := hid (show Sa = Sb → a = b from fun h => str_inj (by rw [hSa, hSb]; exact h))
      have HIn2 := hid (show a = b → Sa = Sb from fun h => by rw [← hSa, ← hSb, h])
      have HStar := hid (show Sa = (⟨#[42]⟩ : ByteArray) → a = starL from fun h => str_inj (by rw [hSa, h]; rfl))
      have HStar2 := hid (show a = starL → Sa = (⟨#[42]⟩ : ByteArray) from fun h => by rw [← hSa, h]; rfl)
      rw [hSa] at q1
      rw [hSb] at q2
      clear h1 h2 ha hb hSa hSb
      by_cases hs : a = starL
      · have hS := HStar2.out hs
        subst hS
        rw [decide_eq_true hs, Bool.true_or, Bool.true_and] at HSt
        clear hs
        go_wp2
        go_quiet (fail)
        go_wp2
        go_roundg (n - (i + 1) + 1)
        case measure => omega
        case rel => exact ⟨i + 1, by omega, rfl, by push_cast; go_num, HE.out.trans HSt.out, HB.out.trans ((below_drewH _ _).mono HB.out.size)⟩
      · have hs1 : ¬ Sa = (⟨#[42]⟩ : ByteArray) := fun h => hs (HStar.out h)
        have hs4 : (Sa.toList == (⟨#[42]⟩ : ByteArray).toList) = false := ne_list hs1
        have hs5 : (Sa.toList == [42]) = false := by have h := hs4; rw [ByteArray.toList_eq, ByteArray.toList_eq] at h; rw [ByteArray.toList_eq]; exact h
        have hs6 : (!Sa.toList == [42]) = true := by rw [hs5]; rfl
        rw [decide_eq_false hs, Bool.false_or] at HSt
        clear hs
        by_cases hab : a = b
        · have hS := HIn2.out hab
          subst hS
          rw [decide_eq_true hab, Bool.true_and] at HSt
          clear hab
          go_wp2
          go_quiet (fail)
          go_wp2
          go_roundg (n - (i + 1) + 1)
          case measure => omega
          case rel => exact ⟨i + 1, by omega, rfl, by push_cast; go_num, HE.out.trans HSt.out, HB.out.trans ((below_drewH _ _).mono HB.out.size)⟩
        · have hS : ¬ Sa = Sb := fun h => hab (HIn.out h)
          have hS4 : (Sa.toList == Sb.toList) = false := ne_list hS
          have hS5 : (!Sa.toList == Sb.toList) = true := by rw [hS4]; rfl
          rw [decide_eq_false hab, Bool.false_and] at HSt
          clear hab
          go_wp2
          go_quiet (fail)
          go_wp2
          go_ret
          exact ⟨by rw [HE.out, HSt.out]; rfl, below_out HB2.out (HB.out.trans ((below_drewH _ _).mono HB.out.size))⟩
    · obtain rfl : n = i := by omega
      have HV := hid (show fitsL (x.drop n) (y.drop n) = true from by
        rw [List.drop_of_length_le (l := x) (by rw [HN.out]; exact Nat.le_refl _), List.drop_of_length_le (l := y) (by rw [HM.out]; exact Nat.le_refl _)]
        rfl)
      go_wp2
      go_ret
      exact ⟨by rw [HE.out, HV.out]; rfl, below_out HB2.out HB.out⟩
end Go.Proofs.YtkjgdfihhhdjaaaDoor
