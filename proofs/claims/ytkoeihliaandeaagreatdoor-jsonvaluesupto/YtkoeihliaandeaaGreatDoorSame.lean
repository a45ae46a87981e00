/- Same. -/
import Derived.Test.YtkoeihliaandeaaGreatDoorVals
namespace Go.Proofs.YtkoeihliaandeaaGreatDoor
open Go.RowKit

/-- Same tells whether the value is the same as another. -/
def SameOk (a : JV) : Prop := ∀ (b : JV) (w : World) (cs ds : List Value), Fits a → Fits b → ValOn w a cs → ValOn w b ds → Calls Tryz.prog 17 #[.agg cs.toArray, .agg ds.toArray] w fun e w' => e = .returned (.bool (sameV a b)) ∧ Below w.heap.size w w'
theorem sameL_lens : ∀ (a b : List JV), a.length ≠ b.length → sameL a b = false
  | [], [], h => absurd rfl h
  | [], _ :: _, _ => by simp [sameL]
  | _ :: _, [], _ => by simp [sameL]
  | x :: xs, y :: ys, h => by
    simp only [sameL]
    rw [sameL_lens xs ys (fun e => h (by simp [e]))]
    simp
theorem drop_get {α : Type} {l : List α} {i : Nat} (h : i < l.length) : l.drop i = l[i] :: l.drop (i + 1) := by simp
set_option maxRecDepth 20000 in
set_option maxHeartbeats 4000000 in
theorem equal_func {w : World} {ls ms : List JV} {p1 p2 : Option Addr} {c1 c2 : Nat} (hS : ∀ x ∈ ls, SameOk x) (h1 : PartsOn w ls p1) (h2 : PartsOn w ms p2) (hf1 : ∀ x ∈ ls, Fits x) (hf2 : ∀ x ∈ ms, Fits x) (hn : ls.length ≤ maxI) :
    Calls Tryz.prog 29 #[.slice p1 ls.length c1, .slice p2 ms.length c2, .func (.func 17) #[] #[]] w fun e w' => e = .returned (.bool (sameL ls ms)) ∧ Below w.heap.size w w' := by
  unfold maxI at hn
  by_cases hl : ls.length = ms.length
  · have HL := hid hl
    have HS := hid (And.intro hS (And.intro hf1 hf2))
    have H1 := hid h1
    have H2 := hid h2
    obtain ⟨n, hn2⟩ : ∃ n, ls.length = n := ⟨_, rfl⟩
    have HN := hid hn2
    rw [← hl]
    rw [hn2] at hn ⊢
    clear hl hS hf1 hf2 h1 h2 hn2
    go_enter Tryz.func29, Tryz.ntmps29
    go_wp2
    go_loopg [17] (n + 1) (fun gk s17 wr => ∃ i : Nat, i ≤ n ∧ gk = n - i + 1 ∧ s17 = .int .i64 (i : Int) ∧ sameL (ls.drop i) (ms.drop i) = sameL ls ms ∧ Below w.heap.size w wr)
    case atStart => exact ⟨0, by omega, rfl, rfl, rfl, Below.refl _ _⟩
    case round =>
      obtain ⟨i, hi, rfl, rfl, hs, hb⟩ := hrel
      have HB := hid hb
      have HD := hid hs
      clear hs hb
      by_cases hin : i < n
      · have hi1 : i < ls.length := by rw [HN.out]; exact hin
        have hi2 : i < ms.length := by rw [← HL.out]; exact hi1
        obtain ⟨g, o, cs, rfl, hv1, hc1⟩ := H1.out.below HB.out i ls[i] (List.getElem?_eq_getElem hi1)
        obtain ⟨g2, o2, ds, rfl, hv2, hc2⟩ := H2.out.below HB.out i ms[i] (List.getElem?_eq_getElem hi2)
        have HStep := hid (show sameL (ls.drop i) (ms.drop i) = (sameV ls[i] ms[i] && sameL (ls.drop (i + 1)) (ms.drop (i + 1))) from by rw [drop_get hi1, drop_get hi2]; simp only [sameL])
        have HC := hid (HS.out.1 ls[i] (List.getElem_mem hi1) ms[i])
        have HF := hid (And.intro (HS.out.2.1 ls[i] (List.getElem_mem hi1)) (HS.out.2.2 ms[i] (List.getElem_mem hi2)))
        generalize ls[i] = x at hv1 HStep HC HF
        generalize ms[i] = y at hv2 HStep HC HF
        obtain ⟨k1, k2, k3, k4, k5, k6, k7, k8, k9, k10, k11, rfl⟩ := hv1.form
        obtain ⟨m1, m2, m3, m4, m5, m6, m7, m8, m9, m10, m11, rfl⟩ := hv2.form
        obtain ⟨a0, a1, a2, a3, a4, a5, a6⟩ := row7 hc1
        obtain ⟨b0, b1, b2, b3, b4, b5, b6⟩ := (row7 hc2).below (below_new wr (C7 k1 k2 k3 k4 k5 k6 k7 k8 k9 k10 k11))
        have HV := hid (And.intro hv1 hv2)
        clear hc1 hc2 hv1 hv2 hi1 hi2 H1 H2
        cases hsm : sameV x y with
        | true =>
          have HT := hid hsm
          clear hsm
          go_wp2_with (go_at_call 17; have hcall := HC.out _ _ _ HF.out.1 HF.out.2 ((HV.out.1.below (below_new wr (C7 k1 k2 k3 k4 k5 k6 k7 k8 k9 k10 k11))).below (below_new _ (C7 m1 m2 m3 m4 m5 m6 m7 m8 m9 m10 m11))) ((HV.out.2.below (below_new wr (C7 k1 k2 k3 k4 k5 k6 k7 k8 k9 k10 k11))).below (below_new _ (C7 m1 m2 m3 m4 m5 m6 m7 m8 m9 m10 m11))); (with_reducible refine hcall.mono ?_); clear hcall; rintro e w1 ⟨rfl, hb⟩; rw [HT.out]; have HB1 := hid (HB.out.trans (((below_new wr (C7 k1 k2 k3 k4 k5 k6 k7 k8 k9 k10 k11)).mono HB.out.size).trans (((below_new _ (C7 m1 m2 m3 m4 m5 m6 m7 m8 m9 m10 m11)).mono (Nat.le_trans HB.out.size (below_new _ _).size)).trans (hb.mono (Nat.le_trans HB.out.size (Nat.le_trans (below_new _ _).size (below_new _ _).size)))))); clear hb)
          go_roundg (n - (i + 1) + 1)
          case measure => omega
          case rel =>
            refine ⟨i + 1, by omega, rfl, by push_cast; rfl, ?_, HB1.out⟩
            rw [← HD.out, HStep.out, HT.out]
            rfl
        | false =>
          have HT := hid hsm
          clear hsm
          go_wp2_with (go_at_call 17; have hcall := HC.out _ _ _ HF.out.1 HF.out.2 ((HV.out.1.below (below_new wr (C7 k1 k2 k3 k4 k5 k6 k7 k8 k9 k10 k11))).below (below_new _ (C7 m1 m2 m3 m4 m5 m6 m7 m8 m9 m10 m11))) ((HV.out.2.below (below_new wr (C7 k1 k2 k3 k4 k5 k6 k7 k8 k9 k10 k11))).below (below_new _ (C7 m1 m2 m3 m4 m5 m6 m7 m8 m9 m10 m11))); (with_reducible refine hcall.mono ?_); clear hcall; rintro e w1 ⟨rfl, hb⟩; rw [HT.out]; have HB1 := hid (HB.out.trans (((below_new wr (C7 k1 k2 k3 k4 k5 k6 k7 k8 k9 k10 k11)).mono HB.out.size).trans (((below_new _ (C7 m1 m2 m3 m4 m5 m6 m7 m8 m9 m10 m11)).mono (Nat.le_trans HB.out.size (below_new _ _).size)).trans (hb.mono (Nat.le_trans HB.out.size (Nat.le_trans (below_new _ _).size (below_new _ _).size)))))); clear hb)
          go_ret
          refine ⟨?_, HB1.out⟩
          rw [← HD.out, HStep.out, HT.out]
          rfl
      · obtain rfl : i = n := by omega
        go_wp2
        go_ret
        refine ⟨?_, HB.out⟩
        have e1 : ls.drop i = [] := List.drop_of_length_le (by rw [HN.out]; exact Nat.le_refl _)
        have e2 : ms.drop i = [] := List.drop_of_length_le (by rw [← HL.out, HN.out]; exact Nat.le_refl _)
        rw [← HD.out, e1, e2]
        simp [sameL]
  · rw [sameL_lens ls ms hl]
    obtain ⟨n, hn2⟩ : ∃ n, ls.length = n := ⟨_, rfl⟩
    obtain ⟨m, hm2⟩ : ∃ m, ms.length = m := ⟨_, rfl⟩
    rw [hn2, hm2] at hl ⊢
    clear hn2 hm2 hS h1 h2 hf1 hf2 hn
    have q1 : ((n : Int) == (m : Int)) = false := by simp only [beq_eq_false_iff_ne, ne_eq]; omega
    have q2 : (n == m) = false := by simp only [beq_eq_false_iff_ne, ne_eq]; omega
    go_enter Tryz.func29, Tryz.ntmps29
    go_wp2
    go_ret
    exact ⟨rfl, Below.refl _ _⟩
theorem two_box (w : World) (o1 o2 : Obj) : Below w.heap.size w ((w.alloc o1).alloc o2) := (below_new w o1).trans ((below_new _ o2).mono (by simp))
theorem boxes5 {w w1 : World} {a0 a1 a2 a3 a4 a5 a6 b0 b1 b2 b3 b4 b5 b6 : Value} {T : TypeId} (h : Below ((w.alloc (.cells #[a0, a1, a2, a3, a4, a5, a6] T (0, 0))).alloc (.cells #[b0, b1, b2, b3, b4, b5, b6] T (0, 0))).heap.size ((w.alloc (.cells #[a0, a1, a2, a3, a4, a5, a6] T (0, 0))).alloc (.cells #[b0, b1, b2, b3, b4, b5, b6] T (0, 0))) w1) :
    w1.cell? ⟨w.heap.size, 5, none⟩ = some a5 ∧ w1.cell? ⟨w.heap.size + 1, 5, none⟩ = some b5 := by
  obtain ⟨h1, h2, _⟩ := two_new h
  exact ⟨(seven h1).a5, (seven h2).a5⟩
set_option maxRecDepth 20000 in
set_option maxHeartbeats 4000000 in
theorem same_one {k : Int} {b : Bool} {t : B} {n : Int} {hh : Bool} {ls : List JV} {ns : List B} (hS : ∀ x ∈ ls, SameOk x) : SameOk (.mk k b t n hh ls ns) := by
  intro b2 w cs ds hfa hfb ha hb
  obtain ⟨k', b', t', n', hh', ls', ns'⟩ := b2
  obtain ⟨p1, c1, p2, c2, rfl, hp1, hp2⟩ := ha.open
  obtain ⟨p3, c3, p4, c4, rfl, hp3, hp4⟩ := hb.open
  simp only [Fits, fitsL_iff] at hfa hfb
  have H := hid (And.intro hfa (And.intro hfb (And.intro hp1 (And.intro hp2 (And.intro hp3 hp4)))))
  have HSO := hid hS
  obtain ⟨n1, e1⟩ : ∃ n1, ls.length = n1 := ⟨_, rfl⟩
  obtain ⟨n2, e2⟩ : ∃ n2, ns.length = n2 := ⟨_, rfl⟩
  obtain ⟨n3, e3⟩ : ∃ n3, ls'.length = n3 := ⟨_, rfl⟩
  obtain ⟨n4, e4⟩ : ∃ n4, ns'.length = n4 := ⟨_, rfl⟩
  rw [e1, e2, e3, e4]
  have HE := hid (And.intro e1 (And.intro e2 (And.intro e3 e4)))
  clear ha hb hfa hfb hp1 hp2 hp3 hp4 hS e1 e2 e3 e4
  by_cases hk : k = k'
  case neg =>
    have q1 : (k == k') = false := by simpa using hk
    have HR : Hid (sameV (.mk k b t n hh ls ns) (.mk k' b' t' n' hh' ls' ns') = false) := by unfold Hid; simp only [sameV, q1]; rfl
    clear hk
    go_enter Tryz.func17, Tryz.ntmps17
    go_wp2
    go_ret
    rw [HR.out]
    exact ⟨rfl, two_box _ _ _⟩
  subst hk
  by_cases hb : b = b'
  case neg =>
    have q1 : (b == b') = false := by simpa using hb
    have HR : Hid (sameV (.mk k b t n hh ls ns) (.mk k b' t' n' hh' ls' ns') = false) := by unfold Hid; simp only [sameV, q1]; simp
    obtain rfl : b' = !b := by cases b <;> cases b' <;> simp_all
    clear hb q1
    go_enter Tryz.func17, Tryz.ntmps17
    go_wp2
    go_ret
    rw [HR.out]
    exact ⟨rfl, two_box _ _ _⟩
  subst hb
  by_cases ht : t = t'
  case neg =>
    have q0 : (t == t') = false := by simpa using ht
    have HR : Hid (sameV (.mk k b t n hh ls ns) (.mk k b t' n' hh' ls' ns') = false) := by unfold Hid; simp only [sameV, q0]; simp
    have q1 : ¬ (str t).toList = (str t').toList := fun e => ht (by rw [ByteArray.toList_eq, ByteArray.toList_eq] at e; simpa using e)
    have q2 : ((str t).toList == (str t').toList) = false := beq_eq_false_iff_ne.2 q1
    have q3 : decide ((str t).toList = (str t').toList) = false := decide_eq_false q1
    generalize str t = T at q1 q2 q3 ⊢
    generalize str t' = T' at q1 q2 q3 ⊢
    clear ht q0
    go_enter Tryz.func17, Tryz.ntmps17
    go_wp2
    go_ret
    rw [HR.out]
    exact ⟨rfl, two_box _ _ _⟩
  subst ht
  by_cases hn : n = n'
  case neg =>
    have q1 : (n == n') = false := by simpa using hn
    have HR : Hid (sameV (.mk k b t n hh ls ns) (.mk k b t n' hh' ls' ns') = false) := by unfold Hid; simp only [sameV, q1]; simp
    clear hn
    go_enter Tryz.func17, Tryz.ntmps17
    go_wp2
    go_ret
    rw [HR.out]
    exact ⟨rfl, two_box _ _ _⟩
  subst hn
  by_cases hw : hh = hh'
  case neg =>
    have q1 : (hh == hh') = false := by simpa using hw
    have HR : Hid (sameV (.mk k b t n hh ls ns) (.mk k b t n hh' ls' ns') = false) := by unfold Hid; simp only [sameV, q1]; simp
    obtain rfl : hh' = !hh := by cases hh <;> cases hh' <;> simp_all
    clear hw q1
    go_enter Tryz.func17, Tryz.ntmps17
    go_wp2
    go_ret
    rw [HR.out]
    exact ⟨rfl, two_box _ _ _⟩
  subst hw
  have HR : Hid (sameV (.mk k b t n hh ls ns) (.mk k b t n hh ls' ns') = ((ns == ns') && sameL ls ls')) := by unfold Hid; simp only [sameV]; simp
  rw [HR.out]
  clear HR
  cases hns : (ns == ns') with
  | false =>
    have HNS := hid hns
    clear hns
    go_enter Tryz.func17, Tryz.ntmps17
    go_wp2_with (go_at_call 28; (have hcall := equal_names (c1 := c2) (c2 := c4) (H.out.2.2.2.1.below (two_box w (C7 k b t n hh p1 n1 c1 p2 n2 c2) (C7 k b t n hh p3 n3 c3 p4 n4 c4))) (H.out.2.2.2.2.2.below (two_box w (C7 k b t n hh p1 n1 c1 p2 n2 c2) (C7 k b t n hh p3 n3 c3 p4 n4 c4))) H.out.1.2.2.1 H.out.2.1.2.2.1; rw [HNS.out, HE.out.2.1, HE.out.2.2.2] at hcall; refine hcall.mono ?_; clear hcall; rintro e w1 ⟨rfl, hb⟩; have HB := hid ((two_box w _ _).trans (hb.mono (two_box w _ _).size)); clear hb))
    go_ret
    exact ⟨rfl, HB.out⟩
  | true =>
    have HNS := hid hns
    clear hns
    go_enter Tryz.func17, Tryz.ntmps17
    go_wp2_with (first
      | (go_at_call 28; (have hcall := equal_names (c1 := c2) (c2 := c4) (H.out.2.2.2.1.below (two_box w (C7 k b t n hh p1 n1 c1 p2 n2 c2) (C7 k b t n hh p3 n3 c3 p4 n4 c4))) (H.out.2.2.2.2.2.below (two_box w (C7 k b t n hh p1 n1 c1 p2 n2 c2) (C7 k b t n hh p3 n3 c3 p4 n4 c4))) H.out.1.2.2.1 H.out.2.1.2.2.1; rw [HNS.out, HE.out.2.1, HE.out.2.2.2] at hcall; refine hcall.mono ?_; clear hcall; rintro e w1 ⟨rfl, hb⟩; have HB := hid ((two_box w _ _).trans (hb.mono (two_box w _ _).size)); have HB0 := hid hb; obtain ⟨x5, x6⟩ := boxes5 hb; clear hb))
      | (go_at_call 29; have hcall := equal_func (c1 := c1) (c2 := c3) HSO.out (H.out.2.2.1.below HB.out) (H.out.2.2.2.2.1.below HB.out) H.out.1.2.2.2.2 H.out.2.1.2.2.2.2 H.out.1.2.1; rw [HE.out.1, HE.out.2.2.1] at hcall; refine hcall.mono ?_; clear hcall; rintro e w2 ⟨rfl, hb⟩; have HB2 := hid (HB.out.trans (hb.mono HB.out.size)); clear hb))
    go_ret
    exact ⟨by simp, HB2.out⟩
mutual
theorem same_any : ∀ a : JV, SameOk a
  | .mk _ _ _ _ _ ls _ => same_one (same_all ls)
theorem same_all : ∀ ls : List JV, ∀ x ∈ ls, SameOk x
  | [], x, h => by simp at h
  | y :: ys, x, h => by
    simp only [List.mem_cons] at h
    rcases h with rfl | h
    · exact same_any x
    · exact same_all ys x h
end
end Go.Proofs.YtkoeihliaandeaaGreatDoor
