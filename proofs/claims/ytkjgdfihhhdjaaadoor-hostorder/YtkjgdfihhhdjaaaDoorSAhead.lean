/- Which of two patterns goes ahead, by the document. -/
import Derived.Test.YtkjgdfihhhdjaaaDoorSFit
namespace Go.Proofs.YtkjgdfihhhdjaaaDoor
open Go.RowKit

/-- Going ahead, from the last label on. -/
def aheadR (x y : List B) : Bool := aheadL x.reverse y.reverse
theorem take_rev {x : List B} {i : Nat} {a : B} (h : x[i]? = some a) : (x.take (i + 1)).reverse = a :: (x.take i).reverse := by
  rw [List.take_add_one, h]
  simp
theorem aheadR_step {x y : List B} {i : Nat} {a b : B} (ha : x[i]? = some a) (hb : y[i]? = some b) : aheadL (x.take (i + 1)).reverse (y.take (i + 1)).reverse = if (a = starL) = (b = starL) then aheadL (x.take i).reverse (y.take i).reverse else decide (b = starL) := by
  rw [take_rev ha, take_rev hb]
  rfl
theorem rahead_nil (b : B) (w : World) : Calls Tryd.prog 40 #[.string (str []), .string (str b)] w fun e w' => e = .returned (.bool false) ∧ w' = w := by
  obtain ⟨C, hC⟩ : ∃ C, str b = C := ⟨_, rfl⟩
  rw [hC]
  clear hC
  go_enter Tryd.func40, Tryd.ntmps40
  go_wp2
  go_ret
  exact ⟨rfl, rfl⟩
theorem rahead_one (a : B) (ha : a ≠ []) (w : World) : Calls Tryd.prog 40 #[.string (str a), .string (str [])] w fun e w' => e = .returned (.bool true) ∧ w' = w := by
  obtain ⟨A, hA⟩ : ∃ A, str a = A := ⟨_, rfl⟩
  have hne1 : ¬ A = (⟨#[]⟩ : ByteArray) := fun e => ha (str_inj (by rw [hA, e]))
  have hne2 : (A.toList == (⟨#[]⟩ : ByteArray).toList) = false := ne_list hne1
  have hne3 : A.toList.isEmpty = false := ne_empty hne1
  have hne4 : (A.toList == []) = false := by have h := hne2; rw [ByteArray.toList_eq, ByteArray.toList_eq] at h; rw [ByteArray.toList_eq]; exact h
  rw [hA]
  clear hA ha
  go_enter Tryd.func40, Tryd.ntmps40
  go_wp2
  go_ret
  exact ⟨rfl, rfl⟩
theorem star_or (S : ByteArray) {a : B} (h : str a = S) : (a = starL ∧ S = (⟨#[42]⟩ : ByteArray)) ∨ (¬ a = starL ∧ ¬ S = (⟨#[42]⟩ : ByteArray)) := by
  by_cases e : a = starL
  · exact .inl ⟨e, by rw [← h, e]; rfl⟩
  · exact .inr ⟨e, fun h1 => e (str_inj (by rw [h, h1]; rfl))⟩
theorem star_not {S : ByteArray} (h : ¬ S = (⟨#[42]⟩ : ByteArray)) : (S.toList == [42]) = false := by
  have h := ne_list h
  rw [ByteArray.toList_eq, ByteArray.toList_eq] at h
  rw [ByteArray.toList_eq]
  exact h
set_option maxRecDepth 20000 in
set_option maxHeartbeats 8000000 in
theorem rahead_any (p h : B) (x y : List B) (hp : labsH true p = some x) (hh : labsH true h = some y) (hxy : x.length = y.length) (w : World) : Calls Tryd.prog 40 #[.string (str p), .string (str h)] w fun e w' => e = .returned (.bool (aheadR x y)) ∧ Below w.heap.size w w' := by
  obtain ⟨hp0, hpl, hp7, hxl, hp8⟩ := labsH_some hp
  obtain ⟨hh0, hhl, hh7, hyl, hh8⟩ := labsH_some hh
  clear hp7 hp8 hh7 hh8
  have HSa := hid (fun W : World => by have h1 := rlabels_any p true (by omega) W; rw [hp] at h1; exact h1)
  have HSb := hid (fun W : World => by have h1 := rlabels_any h true (by omega) W; rw [hh] at h1; exact h1)
  obtain ⟨A, hA⟩ : ∃ A, str p = A := ⟨_, rfl⟩
  obtain ⟨C, hC⟩ : ∃ C, str h = C := ⟨_, rfl⟩
  have hne1 : ¬ A = (⟨#[]⟩ : ByteArray) := fun e => hp0 (str_inj (by rw [hA, e]))
  have hne2 : (A.toList == (⟨#[]⟩ : ByteArray).toList) = false := ne_list hne1
  have hne3 : A.toList.isEmpty = false := ne_empty hne1
  have hne4 : (A.toList == []) = false := by have h := hne2; rw [ByteArray.toList_eq, ByteArray.toList_eq] at h; rw [ByteArray.toList_eq]; exact h
  have hnf1 : ¬ C = (⟨#[]⟩ : ByteArray) := fun e => hh0 (str_inj (by rw [hC, e]))
  have hnf2 : (C.toList == (⟨#[]⟩ : ByteArray).toList) = false := ne_list hnf1
  have hnf3 : C.toList.isEmpty = false := ne_empty hnf1
  have hnf4 : (C.toList == []) = false := by have h := hnf2; rw [ByteArray.toList_eq, ByteArray.toList_eq] at h; rw [ByteArray.toList_eq]; exact h
  rw [hA] at HSa ⊢
  rw [hC] at HSb ⊢
  obtain ⟨n, hn⟩ : ∃ n, x.length = n := ⟨_, rfl⟩
  have hm : y.length = n := by rw [← hxy, hn]
  have HN := hid hn
  have HM := hid hm
  have hnn : n ≤ 254 := by omega
  unfold LabAns at HSa HSb
  dsimp only at HSa HSb
  rw [hn] at HSa
  rw [hm] at HSb
  have HX := hid (show x.take n = x from List.take_of_length_le (by omega))
  have HY := hid (show y.take n = y from List.take_of_length_le (by omega))
  clear hA hC hn hm hp hh hp0 hh0 hpl hhl hxl hyl hxy
  go_enter Tryd.func40, Tryd.ntmps40
  go_wp2_with (go_at_call 31; first | ((with_reducible refine (HSa.out _).mono ?_); rintro e w1 ⟨hb, p1, c1, rfl, ho⟩; have HT1 := hid ho.lb; have HB1 := hid hb; clear ho hb HSa) | ((with_reducible refine (HSb.out _).mono ?_); rintro e w2 ⟨hb, p2, c2, rfl, ho⟩; have HT2 := hid ho.lb; have HT3 := hid (HT1.out.next hb); have HB2 := hid (below_out HB1.out hb); clear ho hb HSb HT1 HB1))
  go_loopg [9] (n + 1) (fun gk s9 wr => ∃ i : Nat, i ≤ n ∧ gk = i + 1 ∧ s9 = .int .i64 ((i : Int) - 1) ∧ aheadR x y = aheadL (x.take i).reverse (y.take i).reverse ∧ Below w2.heap.size w2 wr)
  case atStart => exact ⟨n, by omega, rfl, by go_num, by rw [HX.out, HY.out]; rfl, Below.refl _ _⟩
  case round =>
    obtain ⟨i0, hi, rfl, rfl, hE, hb⟩ := hrel
    have HE := hid hE
    have HB := hid hb
    clear hE hb
    rcases i0 with _ | i
    · obtain ⟨z, hz⟩ : ∃ z : Int, ((0 : Nat) : Int) - 1 = z := ⟨_, rfl⟩
      rw [hz]
      have hz0 : ¬ (0 : Int) ≤ z := by omega
      clear hz
      have HV := hid (show aheadL (x.take 0).reverse (y.take 0).reverse = false from rfl)
      go_wp2
      go_ret
      exact ⟨by rw [HE.out, HV.out]; rfl, below_out HB2.out HB.out⟩
    · rw [show (((i + 1 : Nat) : Int) - 1) = (i : Int) by omega]
      have h1 : i < x.length := by rw [HN.out]; omega
      have h2 : i < y.length := by rw [HM.out]; omega
      obtain ⟨a, ha⟩ : ∃ a, x[i]? = some a := ⟨_, List.getElem?_eq_getElem h1⟩
      obtain ⟨b, hb⟩ : ∃ b, y[i]? = some b := ⟨_, List.getElem?_eq_getElem h2⟩
      obtain ⟨g1, o1, rfl, q1⟩ := (HT3.out.next HB.out) i a ha
      obtain ⟨g2, o2, rfl, q2⟩ := (HT2.out.next HB.out) i b hb
      have HSt := hid (aheadR_step ha hb)
      obtain ⟨Sa, hSa⟩ : ∃ S, str a = S := ⟨_, rfl⟩
      obtain ⟨Sb, hSb⟩ : ∃ S, str b = S := ⟨_, rfl⟩
      have ka := star_or Sa hSa
      have kb := star_or Sb hSb
      rw [hSa] at q1
      rw [hSb] at q2
      clear h1 h2 ha hb hSa hSb
      rcases ka with ⟨ka, rfl⟩ | ⟨ka, ka1⟩
      · rcases kb with ⟨kb, rfl⟩ | ⟨kb, kb1⟩
        · rw [if_pos (propext ⟨fun _ => kb, fun _ => ka⟩)] at HSt
          clear ka kb
          go_wp2
          go_quiet (fail)
          go_wp2
          go_roundg (i + 1)
          case measure => omega
          case rel => exact ⟨i, by omega, rfl, by push_cast; go_num, HE.out.trans HSt.out, HB.out.trans ((below_drewH _ _).mono HB.out.size)⟩
        · rw [if_neg (fun e : (a = starL) = (b = starL) => kb (e.mp ka)), decide_eq_false kb] at HSt
          have kb2 := star_not kb1
          clear ka kb
          go_wp2
          go_quiet (fail)
          go_wp2
          go_ret
          exact ⟨by rw [HE.out, HSt.out]; rfl, below_out HB2.out (HB.out.trans ((below_drewH _ _).mono HB.out.size))⟩
      · have ka2 := star_not ka1
        rcases kb with ⟨kb, rfl⟩ | ⟨kb, kb1⟩
        · rw [if_neg (fun e : (a = starL) = (b = starL) => ka (e.mpr kb)), decide_eq_true kb] at HSt
          clear ka kb
          go_wp2
          go_quiet (fail)
          go_wp2
          go_ret
          exact ⟨by rw [HE.out, HSt.out]; rfl, below_out HB2.out (HB.out.trans ((below_drewH _ _).mono HB.out.size))⟩
        · rw [if_pos (propext ⟨fun h => absurd h ka, fun h => absurd h kb⟩)] at HSt
          have kb2 := star_not kb1
          clear ka kb
          go_wp2
          go_quiet (fail)
          go_wp2
          go_roundg (i + 1)
          case measure => omega
          case rel => exact ⟨i, by omega, rfl, by push_cast; go_num, HE.out.trans HSt.out, HB.out.trans ((below_drewH _ _).mono HB.out.size)⟩
end Go.Proofs.YtkjgdfihhhdjaaaDoor
