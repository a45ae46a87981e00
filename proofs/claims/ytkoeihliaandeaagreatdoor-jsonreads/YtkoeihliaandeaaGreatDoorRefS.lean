/- The document's answer: whether two values are the same. -/
import Derived.Test.YtkoeihliaandeaaGreatDoorFit
namespace Go.Proofs.YtkoeihliaandeaaGreatDoor
open Go.RowKit

def RSameOk (a : JV) : Prop := ∀ (b : JV) (w : World) (cs ds : List Value), Fits a → Fits b → ValOn w a cs → ValOn w b ds → Calls Tryz.prog 8 #[.agg cs.toArray, .agg ds.toArray] w fun e w' => e = .returned (.bool (sameV a b)) ∧ Below w.heap.size w w'
/-- What is read while two parts are held against each other. -/
structure RdS (U : World) (g1 g2 : Nat) (o1 o2 : Obj) (g o gg oo : Nat) (a0 a1 a2 a3 a4 a5 a6 b0 b1 b2 b3 b4 b5 b6 : Value) : Prop where
  x : U.heap[g1]? = some o1
  y : U.heap[g2]? = some o2
  r : Row7 U g o a0 a1 a2 a3 a4 a5 a6
  q : Row7 U gg oo b0 b1 b2 b3 b4 b5 b6
theorem RdS.below {U V : World} {g1 g2 : Nat} {o1 o2 : Obj} {g o gg oo : Nat} {a0 a1 a2 a3 a4 a5 a6 b0 b1 b2 b3 b4 b5 b6 : Value} (h : RdS U g1 g2 o1 o2 g o gg oo a0 a1 a2 a3 a4 a5 a6 b0 b1 b2 b3 b4 b5 b6) (hb : Below U.heap.size U V) : RdS V g1 g2 o1 o2 g o gg oo a0 a1 a2 a3 a4 a5 a6 b0 b1 b2 b3 b4 b5 b6 :=
  ⟨(hb.block g1 (lt_of_heap h.x)).trans h.x, (hb.block g2 (lt_of_heap h.y)).trans h.y, h.r.below hb, h.q.below hb⟩
set_option maxRecDepth 20000 in
set_option maxHeartbeats 8000000 in
theorem rsame_one {k : Int} {b : Bool} {t : B} {n : Int} {hh : Bool} {ls : List JV} {ns : List B} (hS : ∀ x ∈ ls, RSameOk x) : RSameOk (.mk k b t n hh ls ns) := by
  intro b2 w cs ds hfa hfb ha hb
  obtain ⟨k', b', t', n', hh', ls', ns'⟩ := b2
  obtain ⟨p1, c1, p2, c2, rfl, hp1, hp2⟩ := ha.open
  obtain ⟨p3, c3, p4, c4, rfl, hp3, hp4⟩ := hb.open
  simp only [Fits, fitsL_iff] at hfa hfb
  have hl1 := hfa.2.1
  have hl2 := hfa.2.2.1
  unfold maxI at hl1 hl2
  have H := hid (And.intro hfa (And.intro hfb (And.intro hp1 (And.intro hp2 (And.intro hp3 hp4)))))
  have HSO := hid hS
  obtain ⟨n1, e1⟩ : ∃ n1, ls.length = n1 := ⟨_, rfl⟩
  obtain ⟨n2, e2⟩ : ∃ n2, ns.length = n2 := ⟨_, rfl⟩
  obtain ⟨n3, e3⟩ : ∃ n3, ls'.length = n3 := ⟨_, rfl⟩
  obtain ⟨n4, e4⟩ : ∃ n4, ns'.length = n4 := ⟨_, rfl⟩
  rw [e1, e2, e3, e4]
  rw [e1] at hl1
  rw [e2] at hl2
  have HE := hid (And.intro e1 (And.intro e2 (And.intro e3 e4)))
  clear ha hb hfa hfb hp1 hp2 hp3 hp4 hS e1 e2 e3 e4
  by_cases hk : k = k'
  case neg =>
    have q1 : (k == k') = false := by simpa using hk
    have q2 : (k != k') = true := by simpa using hk
    have HR : Hid (sameV (.mk k b t n hh ls ns) (.mk k' b' t' n' hh' ls' ns') = false) := by unfold Hid; simp only [sameV, q1]; rfl
    clear hk
    go_enter Tryz.func8, Tryz.ntmps8
    go_wp2
    go_ret
    rw [HR.out]
    exact ⟨rfl, two_box _ _ _⟩
  subst hk
  by_cases hb : b = b'
  case neg =>
    have q1 : (b == b') = false := by simpa using hb
    have HR : Hid (sameV (.mk k b t n hh ls ns) (.mk k b' t' n' hh' ls' ns') = false) := by unfold Hid; simp only [sameV, q1]; simp
    obtain rfl : b' = !b := by cases b <;> cases b' <;> simp_all
    clear hb q1
    go_enter Tryz.func8, Tryz.ntmps8
    go_wp2
    go_ret
    rw [HR.out]
    exact ⟨rfl, two_box _ _ _⟩
  subst hb
  by_cases ht : t = t'
  case neg =>
    have q0 : (t == t') = false := by simpa using ht
    have HR : Hid (sameV (.mk k b t n hh ls ns) (.mk k b t' n' hh' ls' ns') = false) := by unfold Hid; simp only [sameV, q0]; simp
    have q1 : ¬ (str t).toList = (str t').toList := fun e => ht (by rw [ByteArray.toList_eq, ByteArray.toList_eq] at e; simpa using e)
    have q2 : ((str t).toList == (str t').toList) = false := beq_eq_false_iff_ne.2 q1
    have q3 : decide ((str t).toList = (str t').toList) = false := decide_eq_false q1
    have q4 : ((str t).toList != (str t').toList) = true := by simpa using q1
    generalize str t = T at q1 q2 q3 q4 ⊢
    generalize str t' = T' at q1 q2 q3 q4 ⊢
    clear ht q0
    go_enter Tryz.func8, Tryz.ntmps8
    go_wp2
    go_ret
    rw [HR.out]
    exact ⟨rfl, two_box _ _ _⟩
  subst ht
  by_cases hn : n = n'
  case neg =>
    have q1 : (n == n') = false := by simpa using hn
    have q2 : (n != n') = true := by simpa using hn
    have HR : Hid (sameV (.mk k b t n hh ls ns) (.mk k b t n' hh' ls' ns') = false) := by unfold Hid; simp only [sameV, q1]; simp
    clear hn
    go_enter Tryz.func8, Tryz.ntmps8
    go_wp2
    go_ret
    rw [HR.out]
    exact ⟨rfl, two_box _ _ _⟩
  subst hn
  by_cases hw : hh = hh'
  case neg =>
    have q1 : (hh == hh') = false := by simpa using hw
    have HR : Hid (sameV (.mk k b t n hh ls ns) (.mk k b t n hh' ls' ns') = false) := by unfold Hid; simp only [sameV, q1]; simp
    obtain rfl : hh' = !hh := by cases hh <;> cases hh' <;> simp_all
    clear hw q1
    go_enter Tryz.func8, Tryz.ntmps8
    go_wp2
    go_ret
    rw [HR.out]
    exact ⟨rfl, two_box _ _ _⟩
  subst hw
  have HR : Hid (sameV (.mk k b t n hh ls ns) (.mk k b t n hh ls' ns') = ((ns == ns') && sameL ls ls')) := by unfold Hid; simp only [sameV]; simp
  rw [HR.out]
  clear HR
  by_cases h13 : n1 = n3
  case neg =>
    have q1 : ((n1 : Int) == (n3 : Int)) = false := by simp only [beq_eq_false_iff_ne, ne_eq]; omega
    have q2 : ((n1 : Int) != (n3 : Int)) = true := by simpa using (show ¬ (n1 : Int) = (n3 : Int) by omega)
    have q3 : (n1 != n3) = true := by simpa using h13
    have q4 : (n1 == n3) = false := by simpa using h13
    have HR : Hid (((ns == ns') && sameL ls ls') = false) := by unfold Hid; rw [sameL_lens ls ls' (by rw [HE.out.1, HE.out.2.2.1]; exact h13)]; simp
    clear h13
    go_enter Tryz.func8, Tryz.ntmps8
    go_wp2
    go_ret
    rw [HR.out]
    exact ⟨rfl, two_box _ _ _⟩
  subst h13
  by_cases h24 : n2 = n4
  case neg =>
    have q1 : ((n2 : Int) == (n4 : Int)) = false := by simp only [beq_eq_false_iff_ne, ne_eq]; omega
    have q2 : ((n2 : Int) != (n4 : Int)) = true := by simpa using (show ¬ (n2 : Int) = (n4 : Int) by omega)
    have q3 : (n2 != n4) = true := by simpa using h24
    have q4 : (n2 == n4) = false := by simpa using h24
    have HR : Hid (((ns == ns') && sameL ls ls') = false) := by unfold Hid; rw [beq_eq_false_iff_ne.2 (fun e => h24 (by rw [← HE.out.2.1, ← HE.out.2.2.2, e]))]; simp
    clear h24
    go_enter Tryz.func8, Tryz.ntmps8
    go_wp2
    go_ret
    rw [HR.out]
    exact ⟨rfl, two_box _ _ _⟩
  subst h24
  obtain ⟨W0, hW0⟩ : ∃ W0, W0 = (w.alloc (C7 k b t n hh p1 n1 c1 p2 n2 c2)).alloc (C7 k b t n hh p3 n1 c3 p4 n2 c4) := ⟨_, rfl⟩
  have HW0 := hid hW0
  have HT := hid (two_at hW0)
  have HNa := hid (H.out.2.2.2.1.below HT.out.2.2)
  have HNb := hid (H.out.2.2.2.2.2.below HT.out.2.2)
  have HPa := hid (H.out.2.2.1.below HT.out.2.2)
  have HPb := hid (H.out.2.2.2.2.1.below HT.out.2.2)
  clear hW0
  obtain ⟨G, hG⟩ : ∃ G, ((ns == ns') && sameL ls ls') = G := ⟨_, rfl⟩
  have HG := hid hG
  rw [hG]
  clear hG
  go_enter Tryz.func8, Tryz.ntmps8
  go_wp2
  go_loopg [5] (n2 + 1) (fun gk s5 wr => ∃ i : Nat, i ≤ n2 ∧ gk = n2 - i + 1 ∧ s5 = .int .i64 (i : Int) ∧ ((ns.drop i == ns'.drop i) = (ns == ns')) ∧ Below W0.heap.size W0 wr)
  case atStart => exact ⟨0, by omega, rfl, rfl, rfl, by rw [← HW0.out]; exact Below.refl _ _⟩
  case round =>
    obtain ⟨i, hi, rfl, rfl, hs, hb⟩ := hrel
    have HB := hid hb
    have HD := hid hs
    obtain ⟨x0, x1, x2, x3, x4, x5, x6, _⟩ := seven (keep7 HT.out.1 hb)
    obtain ⟨y0, y1, y2, y3, y4, y5, y6, _⟩ := seven (keep7 HT.out.2.1 hb)
    clear hs hb
    by_cases hin : i < n2
    · have b1 : (i : Int) < (n2 : Int) := by omega
      have hi1 : i < ns.length := by rw [HE.out.2.1]; exact hin
      have hi2 : i < ns'.length := by rw [HE.out.2.2.2]; exact hin
      obtain ⟨g, o, rfl, hc1⟩ := HNa.out.below HB.out i ns[i] (List.getElem?_eq_getElem hi1)
      obtain ⟨g2, o2, rfl, hc2⟩ := HNb.out.below HB.out i ns'[i] (List.getElem?_eq_getElem hi2)
      have HStep := hid (show (ns.drop i == ns'.drop i) = ((ns[i] == ns'[i]) && (ns.drop (i + 1) == ns'.drop (i + 1))) from by rw [drop_get hi1, drop_get hi2]; rfl)
      generalize ns[i] = z1 at hc1 HStep
      generalize ns'[i] = z2 at hc2 HStep
      clear hi1 hi2
      by_cases hz : z1 = z2
      · subst hz
        generalize str z1 = T at hc1 hc2
        go_wp2
        go_quiet (fail)
        go_wp2
        go_roundg (n2 - (i + 1) + 1)
        case measure => omega
        case rel => exact ⟨i + 1, by omega, rfl, by push_cast; rfl, by rw [← HD.out, HStep.out]; simp, HB.out.trans (below_drew (Below.refl _ _) nq |>.mono HB.out.size)⟩
      · have q1 : ¬ (str z1).toList = (str z2).toList := fun e => hz (by rw [ByteArray.toList_eq, ByteArray.toList_eq] at e; simpa using e)
        have q2 : ((str z1).toList == (str z2).toList) = false := beq_eq_false_iff_ne.2 q1
        have q4 : ((str z1).toList != (str z2).toList) = true := by simpa using q1
        have HF := hid (show G = false from by rw [← HG.out, ← HD.out, HStep.out, beq_eq_false_iff_ne.2 hz]; simp)
        generalize str z1 = T at hc1 q1 q2 q4
        generalize str z2 = T' at hc2 q1 q2 q4
        clear hz
        go_wp2
        go_quiet (fail)
        go_wp2
        go_ret
        rw [HF.out]
        exact ⟨rfl, HT.out.2.2.trans ((HB.out.trans (below_drew (Below.refl _ _) nq |>.mono HB.out.size)).mono HT.out.2.2.size)⟩
    · have b1 : ¬ (i : Int) < (n2 : Int) := by omega
      have hin3 : i = n2 := by omega
      have HNS := hid (show (ns == ns') = true from by
        rw [← HD.out, List.drop_of_length_le (show ns.length ≤ i by rw [HE.out.2.1]; omega), List.drop_of_length_le (show ns'.length ≤ i by rw [HE.out.2.2.2]; omega)]
        rfl)
      have HGs := hid (show sameL ls ls' = G from by rw [← HG.out, HNS.out]; simp)
      clear hin3
      go_wp2
      go_loopg [6] (n1 + 1) (fun gk s6 wr2 => ∃ i2 : Nat, i2 ≤ n1 ∧ gk = n1 - i2 + 1 ∧ s6 = .int .i64 (i2 : Int) ∧ sameL (ls.drop i2) (ls'.drop i2) = G ∧ Below W0.heap.size W0 wr2)
      case atStart => exact ⟨0, by omega, rfl, rfl, HGs.out, HB.out⟩
      case round =>
        obtain ⟨i2, hi2, rfl, rfl, hs2, hb2⟩ := hrel
        have HB2 := hid hb2
        have HD2 := hid hs2
        have HXa := hid (keep7 HT.out.1 hb2)
        have HXb := hid (keep7 HT.out.2.1 hb2)
        obtain ⟨u0, u1, u2, u3, u4, u5, u6, _⟩ := seven HXa.out
        obtain ⟨v0, v1, v2, v3, v4, v5, v6, _⟩ := seven HXb.out
        have HBw := hid (HT.out.2.2.trans (hb2.mono HT.out.2.2.size))
        clear hs2 hb2
        by_cases hin2 : i2 < n1
        · have d1 : (i2 : Int) < (n1 : Int) := by omega
          have hj1 : i2 < ls.length := by rw [HE.out.1]; exact hin2
          have hj2 : i2 < ls'.length := by rw [HE.out.2.2.1]; exact hin2
          obtain ⟨g, o, cs, rfl, hv1, hc1⟩ := HPa.out.below HB2.out i2 ls[i2] (List.getElem?_eq_getElem hj1)
          obtain ⟨g2, o2, ds, rfl, hv2, hc2⟩ := HPb.out.below HB2.out i2 ls'[i2] (List.getElem?_eq_getElem hj2)
          have HStep := hid (show sameL (ls.drop i2) (ls'.drop i2) = (sameV ls[i2] ls'[i2] && sameL (ls.drop (i2 + 1)) (ls'.drop (i2 + 1))) from by rw [drop_get hj1, drop_get hj2]; simp only [sameL])
          have HC := hid (HSO.out ls[i2] (List.getElem_mem hj1) ls'[i2])
          have HFx := hid (And.intro (H.out.1.2.2.2.2 ls[i2] (List.getElem_mem hj1)) (H.out.2.1.2.2.2.2 ls'[i2] (List.getElem_mem hj2)))
          generalize ls[i2] = x at hv1 HStep HC HFx
          generalize ls'[i2] = y at hv2 HStep HC HFx
          obtain ⟨k1, k2, k3, k4, k5, k6, k7, k8, k9, k10, k11, rfl⟩ := hv1.form
          obtain ⟨m1, m2, m3, m4, m5, m6, m7, m8, m9, m10, m11, rfl⟩ := hv2.form
          have HRd := hid (RdS.mk HXa.out HXb.out (row7 hc1) (row7 hc2))
          have HV := hid (And.intro hv1 hv2)
          clear hc1 hc2 hv1 hv2 hj1 hj2
          cases hsm : sameV x y with
          | false =>
            have HSm := hid hsm
            clear hsm
            go_wp2
            refine wp_region_noPanic ?_
            refine any_begin 12 (by kernel_rfl) (by kernel_rfl) ?_
            refine late_begin (fun U => RdS U w.heap.size (w.heap.size + 1) _ _ g (o + i2 * 7) g2 (o2 + i2 * 7) _ _ _ _ _ _ _ _ _ _ _ _ _ _) (fun _ => false) (HRd.out.below (below_drew (Below.refl _ _) 1)) (fun hS => ?_)
            have HBV := hid (show Below wr.heap.size wr wr.drew from below_drew (Below.refl _ _) 1)
            generalize wr.drew = V at hS HBV ⊢
            refine late_take (i := 0) (some 83) rfl rfl (by kernel_rfl) (by kernel_rfl) (by kernel_rfl) (by kernel_rfl) (by kernel_rfl) (fun _ _ _ h => h) (by rfl) (v := ?v0f) ?hy0f hS ?rest0f
            case hy0f => intro w0 hSw; obtain ⟨sx, sy, sr, sq⟩ := hSw; obtain ⟨e0, e1, e2, e3, e4, e5, e6, _⟩ := seven sx; obtain ⟨f0, f1, f2, f3, f4, f5, f6, _⟩ := seven sy; obtain ⟨r0, r1, r2, r3, r4, r5, r6⟩ := sr; obtain ⟨q0, q1, q2, q3, q4, q5, q6⟩ := sq; go_simp; try with_reducible rfl
            simp only [Act.put, List.setIfInBounds_toArray, List.set_cons_zero, List.set_cons_succ]
            refine late_take (i := 1) (some 84) rfl rfl (by kernel_rfl) (by kernel_rfl) (by kernel_rfl) (by kernel_rfl) (by kernel_rfl) (fun _ _ _ h => h) (by rfl) (v := ?v1f) ?hy1f hS ?rest1f
            case hy1f => intro w0 hSw; obtain ⟨sx, sy, sr, sq⟩ := hSw; obtain ⟨e0, e1, e2, e3, e4, e5, e6, _⟩ := seven sx; obtain ⟨f0, f1, f2, f3, f4, f5, f6, _⟩ := seven sy; obtain ⟨r0, r1, r2, r3, r4, r5, r6⟩ := sr; obtain ⟨q0, q1, q2, q3, q4, q5, q6⟩ := sq; go_simp; try with_reducible rfl
            simp only [Act.put, List.setIfInBounds_toArray, List.set_cons_zero, List.set_cons_succ]
            refine late_take (i := 2) (some 85) rfl rfl (by kernel_rfl) (by kernel_rfl) (by kernel_rfl) (by kernel_rfl) (by kernel_rfl) (fun _ _ _ h => h) (by rfl) (v := ?v2f) ?hy2f hS ?rest2f
            case hy2f => intro w0 hSw; obtain ⟨sx, sy, sr, sq⟩ := hSw; obtain ⟨e0, e1, e2, e3, e4, e5, e6, _⟩ := seven sx; obtain ⟨f0, f1, f2, f3, f4, f5, f6, _⟩ := seven sy; obtain ⟨r0, r1, r2, r3, r4, r5, r6⟩ := sr; obtain ⟨q0, q1, q2, q3, q4, q5, q6⟩ := sq; go_simp; try with_reducible rfl
            simp only [Act.put, List.setIfInBounds_toArray, List.set_cons_zero, List.set_cons_succ]
            refine late_take (i := 3) (some 86) rfl rfl (by kernel_rfl) (by kernel_rfl) (by kernel_rfl) (by kernel_rfl) (by kernel_rfl) (fun _ _ _ h => h) (by rfl) (v := ?v3f) ?hy3f hS ?rest3f
            case hy3f => intro w0 hSw; obtain ⟨sx, sy, sr, sq⟩ := hSw; obtain ⟨e0, e1, e2, e3, e4, e5, e6, _⟩ := seven sx; obtain ⟨f0, f1, f2, f3, f4, f5, f6, _⟩ := seven sy; obtain ⟨r0, r1, r2, r3, r4, r5, r6⟩ := sr; obtain ⟨q0, q1, q2, q3, q4, q5, q6⟩ := sq; go_simp; try with_reducible rfl
            simp only [Act.put, List.setIfInBounds_toArray, List.set_cons_zero, List.set_cons_succ]
            refine late_take (i := 4) (some 87) rfl rfl (by kernel_rfl) (by kernel_rfl) (by kernel_rfl) (by kernel_rfl) (by kernel_rfl) (fun _ _ _ h => h) (by rfl) (v := ?v4f) ?hy4f hS ?rest4f
            case hy4f => intro w0 hSw; obtain ⟨sx, sy, sr, sq⟩ := hSw; obtain ⟨e0, e1, e2, e3, e4, e5, e6, _⟩ := seven sx; obtain ⟨f0, f1, f2, f3, f4, f5, f6, _⟩ := seven sy; obtain ⟨r0, r1, r2, r3, r4, r5, r6⟩ := sr; obtain ⟨q0, q1, q2, q3, q4, q5, q6⟩ := sq; go_simp; try with_reducible rfl
            simp only [Act.put, List.setIfInBounds_toArray, List.set_cons_zero, List.set_cons_succ]
            refine late_take (i := 5) (some 88) rfl rfl (by kernel_rfl) (by kernel_rfl) (by kernel_rfl) (by kernel_rfl) (by kernel_rfl) (fun _ _ _ h => h) (by rfl) (v := ?v5f) ?hy5f hS ?rest5f
            case hy5f => intro w0 hSw; obtain ⟨sx, sy, sr, sq⟩ := hSw; obtain ⟨e0, e1, e2, e3, e4, e5, e6, _⟩ := seven sx; obtain ⟨f0, f1, f2, f3, f4, f5, f6, _⟩ := seven sy; obtain ⟨r0, r1, r2, r3, r4, r5, r6⟩ := sr; obtain ⟨q0, q1, q2, q3, q4, q5, q6⟩ := sq; go_simp; try with_reducible rfl
            simp only [Act.put, List.setIfInBounds_toArray, List.set_cons_zero, List.set_cons_succ]
            refine late_take (i := 6) (some 89) rfl rfl (by kernel_rfl) (by kernel_rfl) (by kernel_rfl) (by kernel_rfl) (by kernel_rfl) (fun _ _ _ h => h) (by rfl) (v := ?v6f) ?hy6f hS ?rest6f
            case hy6f => intro w0 hSw; obtain ⟨sx, sy, sr, sq⟩ := hSw; obtain ⟨e0, e1, e2, e3, e4, e5, e6, _⟩ := seven sx; obtain ⟨f0, f1, f2, f3, f4, f5, f6, _⟩ := seven sy; obtain ⟨r0, r1, r2, r3, r4, r5, r6⟩ := sr; obtain ⟨q0, q1, q2, q3, q4, q5, q6⟩ := sq; go_simp; try with_reducible rfl
            simp only [Act.put, List.setIfInBounds_toArray, List.set_cons_zero, List.set_cons_succ]
            refine late_take (i := 7) (some 90) rfl rfl (by kernel_rfl) (by kernel_rfl) (by kernel_rfl) (by kernel_rfl) (by kernel_rfl) (fun _ _ _ h => h) (by rfl) (v := ?v7f) ?hy7f hS ?rest7f
            case hy7f => intro w0 hSw; obtain ⟨sx, sy, sr, sq⟩ := hSw; obtain ⟨e0, e1, e2, e3, e4, e5, e6, _⟩ := seven sx; obtain ⟨f0, f1, f2, f3, f4, f5, f6, _⟩ := seven sy; obtain ⟨r0, r1, r2, r3, r4, r5, r6⟩ := sr; obtain ⟨q0, q1, q2, q3, q4, q5, q6⟩ := sq; go_simp; try with_reducible rfl
            simp only [Act.put, List.setIfInBounds_toArray, List.set_cons_zero, List.set_cons_succ]
            refine late_take (i := 8) (some 91) rfl rfl (by kernel_rfl) (by kernel_rfl) (by kernel_rfl) (by kernel_rfl) (by kernel_rfl) (fun _ _ _ h => h) (by rfl) (v := ?v8f) ?hy8f hS ?rest8f
            case hy8f => intro w0 hSw; obtain ⟨sx, sy, sr, sq⟩ := hSw; obtain ⟨e0, e1, e2, e3, e4, e5, e6, _⟩ := seven sx; obtain ⟨f0, f1, f2, f3, f4, f5, f6, _⟩ := seven sy; obtain ⟨r0, r1, r2, r3, r4, r5, r6⟩ := sr; obtain ⟨q0, q1, q2, q3, q4, q5, q6⟩ := sq; go_simp; try with_reducible rfl
            simp only [Act.put, List.setIfInBounds_toArray, List.set_cons_zero, List.set_cons_succ]
            refine late_take (i := 9) (some 92) rfl rfl (by kernel_rfl) (by kernel_rfl) (by kernel_rfl) (by kernel_rfl) (by kernel_rfl) (fun _ _ _ h => h) (by rfl) (v := ?v9f) ?hy9f hS ?rest9f
            case hy9f => intro w0 hSw; obtain ⟨sx, sy, sr, sq⟩ := hSw; obtain ⟨e0, e1, e2, e3, e4, e5, e6, _⟩ := seven sx; obtain ⟨f0, f1, f2, f3, f4, f5, f6, _⟩ := seven sy; obtain ⟨r0, r1, r2, r3, r4, r5, r6⟩ := sr; obtain ⟨q0, q1, q2, q3, q4, q5, q6⟩ := sq; go_simp; try with_reducible rfl
            simp only [Act.put, List.setIfInBounds_toArray, List.set_cons_zero, List.set_cons_succ]
            refine wpAnyD_one (i := 10) (by kernel_rfl) rfl (fun K hK => ?_)
            go_simp
            go_at_call 8
            refine (HC.out V _ _ HFx.out.1 HFx.out.2 (HV.out.1.below HBV.out) (HV.out.2.below HBV.out)).mono ?_
            rintro e w5 ⟨rfl, hb⟩
            rw [HSm.out]
            have HB5 := hid (HBV.out.trans (hb.mono HBV.out.size))
            have hS5 := hS.below hb
            clear hb
            refine hK _ _ ⟨fun _ => hS5, ?_⟩
            clear hK K
            replace hS := hS5
            clear hS5
            refine late_take (i := 11) (some 94) rfl rfl (by kernel_rfl) (by kernel_rfl) (by kernel_rfl) (by kernel_rfl) (by kernel_rfl) (fun _ _ _ h => h) (by rfl) (v := ?v11f) ?hy11f hS ?rest11f
            case hy11f => intro w0 hSw; obtain ⟨sx, sy, sr, sq⟩ := hSw; obtain ⟨e0, e1, e2, e3, e4, e5, e6, _⟩ := seven sx; obtain ⟨f0, f1, f2, f3, f4, f5, f6, _⟩ := seven sy; obtain ⟨r0, r1, r2, r3, r4, r5, r6⟩ := sr; obtain ⟨q0, q1, q2, q3, q4, q5, q6⟩ := sq; go_simp; try with_reducible rfl
            simp only [Act.put, List.setIfInBounds_toArray, List.set_cons_zero, List.set_cons_succ]
            refine late_done (by kernel_rfl) ?_ _
            refine NoPanic.normal ?_
            clear hS
            go_wp2
            go_ret
            refine ⟨?_, HBw.out.trans (HB5.out.mono HBw.out.size)⟩
            rw [← HD2.out, HStep.out, HSm.out]
            rfl
          | true =>
            have HSm := hid hsm
            clear hsm
            go_wp2
            refine wp_region_noPanic ?_
            refine any_begin 12 (by kernel_rfl) (by kernel_rfl) ?_
            refine late_begin (fun U => RdS U w.heap.size (w.heap.size + 1) _ _ g (o + i2 * 7) g2 (o2 + i2 * 7) _ _ _ _ _ _ _ _ _ _ _ _ _ _) (fun _ => false) (HRd.out.below (below_drew (Below.refl _ _) 1)) (fun hS => ?_)
            have HBV := hid (show Below wr.heap.size wr wr.drew from below_drew (Below.refl _ _) 1)
            generalize wr.drew = V at hS HBV ⊢
            refine late_take (i := 0) (some 83) rfl rfl (by kernel_rfl) (by kernel_rfl) (by kernel_rfl) (by kernel_rfl) (by kernel_rfl) (fun _ _ _ h => h) (by rfl) (v := ?v0t) ?hy0t hS ?rest0t
            case hy0t => intro w0 hSw; obtain ⟨sx, sy, sr, sq⟩ := hSw; obtain ⟨e0, e1, e2, e3, e4, e5, e6, _⟩ := seven sx; obtain ⟨f0, f1, f2, f3, f4, f5, f6, _⟩ := seven sy; obtain ⟨r0, r1, r2, r3, r4, r5, r6⟩ := sr; obtain ⟨q0, q1, q2, q3, q4, q5, q6⟩ := sq; go_simp; try with_reducible rfl
            simp only [Act.put, List.setIfInBounds_toArray, List.set_cons_zero, List.set_cons_succ]
            refine late_take (i := 1) (some 84) rfl rfl (by kernel_rfl) (by kernel_rfl) (by kernel_rfl) (by kernel_rfl) (by kernel_rfl) (fun _ _ _ h => h) (by rfl) (v := ?v1t) ?hy1t hS ?rest1t
            case hy1t => intro w0 hSw; obtain ⟨sx, sy, sr, sq⟩ := hSw; obtain ⟨e0, e1, e2, e3, e4, e5, e6, _⟩ := seven sx; obtain ⟨f0, f1, f2, f3, f4, f5, f6, _⟩ := seven sy; obtain ⟨r0, r1, r2, r3, r4, r5, r6⟩ := sr; obtain ⟨q0, q1, q2, q3, q4, q5, q6⟩ := sq; go_simp; try with_reducible rfl
            simp only [Act.put, List.setIfInBounds_toArray, List.set_cons_zero, List.set_cons_succ]
            refine late_take (i := 2) (some 85) rfl rfl (by kernel_rfl) (by kernel_rfl) (by kernel_rfl) (by kernel_rfl) (by kernel_rfl) (fun _ _ _ h => h) (by rfl) (v := ?v2t) ?hy2t hS ?rest2t
            case hy2t => intro w0 hSw; obtain ⟨sx, sy, sr, sq⟩ := hSw; obtain ⟨e0, e1, e2, e3, e4, e5, e6, _⟩ := seven sx; obtain ⟨f0, f1, f2, f3, f4, f5, f6, _⟩ := seven sy; obtain ⟨r0, r1, r2, r3, r4, r5, r6⟩ := sr; obtain ⟨q0, q1, q2, q3, q4, q5, q6⟩ := sq; go_simp; try with_reducible rfl
            simp only [Act.put, List.setIfInBounds_toArray, List.set_cons_zero, List.set_cons_succ]
            refine late_take (i := 3) (some 86) rfl rfl (by kernel_rfl) (by kernel_rfl) (by kernel_rfl) (by kernel_rfl) (by kernel_rfl) (fun _ _ _ h => h) (by rfl) (v := ?v3t) ?hy3t hS ?rest3t
            case hy3t => intro w0 hSw; obtain ⟨sx, sy, sr, sq⟩ := hSw; obtain ⟨e0, e1, e2, e3, e4, e5, e6, _⟩ := seven sx; obtain ⟨f0, f1, f2, f3, f4, f5, f6, _⟩ := seven sy; obtain ⟨r0, r1, r2, r3, r4, r5, r6⟩ := sr; obtain ⟨q0, q1, q2, q3, q4, q5, q6⟩ := sq; go_simp; try with_reducible rfl
            simp only [Act.put, List.setIfInBounds_toArray, List.set_cons_zero, List.set_cons_succ]
            refine late_take (i := 4) (some 87) rfl rfl (by kernel_rfl) (by kernel_rfl) (by kernel_rfl) (by kernel_rfl) (by kernel_rfl) (fun _ _ _ h => h) (by rfl) (v := ?v4t) ?hy4t hS ?rest4t
            case hy4t => intro w0 hSw; obtain ⟨sx, sy, sr, sq⟩ := hSw; obtain ⟨e0, e1, e2, e3, e4, e5, e6, _⟩ := seven sx; obtain ⟨f0, f1, f2, f3, f4, f5, f6, _⟩ := seven sy; obtain ⟨r0, r1, r2, r3, r4, r5, r6⟩ := sr; obtain ⟨q0, q1, q2, q3, q4, q5, q6⟩ := sq; go_simp; try with_reducible rfl
            simp only [Act.put, List.setIfInBounds_toArray, List.set_cons_zero, List.set_cons_succ]
            refine late_take (i := 5) (some 88) rfl rfl (by kernel_rfl) (by kernel_rfl) (by kernel_rfl) (by kernel_rfl) (by kernel_rfl) (fun _ _ _ h => h) (by rfl) (v := ?v5t) ?hy5t hS ?rest5t
            case hy5t => intro w0 hSw; obtain ⟨sx, sy, sr, sq⟩ := hSw; obtain ⟨e0, e1, e2, e3, e4, e5, e6, _⟩ := seven sx; obtain ⟨f0, f1, f2, f3, f4, f5, f6, _⟩ := seven sy; obtain ⟨r0, r1, r2, r3, r4, r5, r6⟩ := sr; obtain ⟨q0, q1, q2, q3, q4, q5, q6⟩ := sq; go_simp; try with_reducible rfl
            simp only [Act.put, List.setIfInBounds_toArray, List.set_cons_zero, List.set_cons_succ]
            refine late_take (i := 6) (some 89) rfl rfl (by kernel_rfl) (by kernel_rfl) (by kernel_rfl) (by kernel_rfl) (by kernel_rfl) (fun _ _ _ h => h) (by rfl) (v := ?v6t) ?hy6t hS ?rest6t
            case hy6t => intro w0 hSw; obtain ⟨sx, sy, sr, sq⟩ := hSw; obtain ⟨e0, e1, e2, e3, e4, e5, e6, _⟩ := seven sx; obtain ⟨f0, f1, f2, f3, f4, f5, f6, _⟩ := seven sy; obtain ⟨r0, r1, r2, r3, r4, r5, r6⟩ := sr; obtain ⟨q0, q1, q2, q3, q4, q5, q6⟩ := sq; go_simp; try with_reducible rfl
            simp only [Act.put, List.setIfInBounds_toArray, List.set_cons_zero, List.set_cons_succ]
            refine late_take (i := 7) (some 90) rfl rfl (by kernel_rfl) (by kernel_rfl) (by kernel_rfl) (by kernel_rfl) (by kernel_rfl) (fun _ _ _ h => h) (by rfl) (v := ?v7t) ?hy7t hS ?rest7t
            case hy7t => intro w0 hSw; obtain ⟨sx, sy, sr, sq⟩ := hSw; obtain ⟨e0, e1, e2, e3, e4, e5, e6, _⟩ := seven sx; obtain ⟨f0, f1, f2, f3, f4, f5, f6, _⟩ := seven sy; obtain ⟨r0, r1, r2, r3, r4, r5, r6⟩ := sr; obtain ⟨q0, q1, q2, q3, q4, q5, q6⟩ := sq; go_simp; try with_reducible rfl
            simp only [Act.put, List.setIfInBounds_toArray, List.set_cons_zero, List.set_cons_succ]
            refine late_take (i := 8) (some 91) rfl rfl (by kernel_rfl) (by kernel_rfl) (by kernel_rfl) (by kernel_rfl) (by kernel_rfl) (fun _ _ _ h => h) (by rfl) (v := ?v8t) ?hy8t hS ?rest8t
            case hy8t => intro w0 hSw; obtain ⟨sx, sy, sr, sq⟩ := hSw; obtain ⟨e0, e1, e2, e3, e4, e5, e6, _⟩ := seven sx; obtain ⟨f0, f1, f2, f3, f4, f5, f6, _⟩ := seven sy; obtain ⟨r0, r1, r2, r3, r4, r5, r6⟩ := sr; obtain ⟨q0, q1, q2, q3, q4, q5, q6⟩ := sq; go_simp; try with_reducible rfl
            simp only [Act.put, List.setIfInBounds_toArray, List.set_cons_zero, List.set_cons_succ]
            refine late_take (i := 9) (some 92) rfl rfl (by kernel_rfl) (by kernel_rfl) (by kernel_rfl) (by kernel_rfl) (by kernel_rfl) (fun _ _ _ h => h) (by rfl) (v := ?v9t) ?hy9t hS ?rest9t
            case hy9t => intro w0 hSw; obtain ⟨sx, sy, sr, sq⟩ := hSw; obtain ⟨e0, e1, e2, e3, e4, e5, e6, _⟩ := seven sx; obtain ⟨f0, f1, f2, f3, f4, f5, f6, _⟩ := seven sy; obtain ⟨r0, r1, r2, r3, r4, r5, r6⟩ := sr; obtain ⟨q0, q1, q2, q3, q4, q5, q6⟩ := sq; go_simp; try with_reducible rfl
            simp only [Act.put, List.setIfInBounds_toArray, List.set_cons_zero, List.set_cons_succ]
            refine wpAnyD_one (i := 10) (by kernel_rfl) rfl (fun K hK => ?_)
            go_simp
            go_at_call 8
            refine (HC.out V _ _ HFx.out.1 HFx.out.2 (HV.out.1.below HBV.out) (HV.out.2.below HBV.out)).mono ?_
            rintro e w5 ⟨rfl, hb⟩
            rw [HSm.out]
            have HB5 := hid (HBV.out.trans (hb.mono HBV.out.size))
            have hS5 := hS.below hb
            clear hb
            refine hK _ _ ⟨fun _ => hS5, ?_⟩
            clear hK K
            replace hS := hS5
            clear hS5
            refine late_take (i := 11) (some 94) rfl rfl (by kernel_rfl) (by kernel_rfl) (by kernel_rfl) (by kernel_rfl) (by kernel_rfl) (fun _ _ _ h => h) (by rfl) (v := ?v11t) ?hy11t hS ?rest11t
            case hy11t => intro w0 hSw; obtain ⟨sx, sy, sr, sq⟩ := hSw; obtain ⟨e0, e1, e2, e3, e4, e5, e6, _⟩ := seven sx; obtain ⟨f0, f1, f2, f3, f4, f5, f6, _⟩ := seven sy; obtain ⟨r0, r1, r2, r3, r4, r5, r6⟩ := sr; obtain ⟨q0, q1, q2, q3, q4, q5, q6⟩ := sq; go_simp; try with_reducible rfl
            simp only [Act.put, List.setIfInBounds_toArray, List.set_cons_zero, List.set_cons_succ]
            refine late_done (by kernel_rfl) ?_ _
            refine NoPanic.normal ?_
            clear hS
            go_wp2
            go_roundg (n1 - (i2 + 1) + 1)
            case measure => omega
            case rel => exact ⟨i2 + 1, by omega, rfl, by push_cast; rfl, by rw [← HD2.out, HStep.out, HSm.out]; rfl, HB2.out.trans (HB5.out.mono HB2.out.size)⟩
        · have d1 : ¬ (i2 : Int) < (n1 : Int) := by omega
          have HGt := hid (show G = true from by
            rw [← HD2.out, List.drop_of_length_le (show ls.length ≤ i2 by rw [HE.out.1]; omega), List.drop_of_length_le (show ls'.length ≤ i2 by rw [HE.out.2.2.1]; omega)]
            simp [sameL])
          go_wp2
          go_ret
          rw [HGt.out]
          exact ⟨rfl, HBw.out⟩
mutual
theorem rsame_any : ∀ a : JV, RSameOk a
  | .mk _ _ _ _ _ ls _ => rsame_one (rsame_all ls)
theorem rsame_all : ∀ ls : List JV, ∀ x ∈ ls, RSameOk x
  | [], x, h => by simp at h
  | y :: ys, x, h => by
    simp only [List.mem_cons] at h
    rcases h with rfl | h
    · exact rsame_any x
    · exact rsame_all ys x h
end
end Go.Proofs.YtkoeihliaandeaaGreatDoor
