/- The document's answers: how deep a value is nested. -/
import Derived.Test.YtkoeihliaandeaaGreatDoorRefV
import Derived.Test.YtkoeihliaandeaaGreatDoorRefN
namespace Go.Proofs.YtkoeihliaandeaaGreatDoor
open Go.RowKit

def RDeepOk (m : Nat) : Prop := ∀ (t : JV) (w : World) (cs : List Value), Fits t → ValOn w t cs → Calls Tryz.prog 27 #[.agg cs.toArray, .int .i64 (m : Int)] w fun e w' => e = .returned (.int .i64 ((depthN m t : Nat) : Int)) ∧ Below w.heap.size w w'
set_option maxRecDepth 20000 in
set_option maxHeartbeats 4000000 in
theorem deep_loop {m : Nat} (hm : m < 10000) (ih : RDeepOk m) (k : Int) (hk : k = 5 ∨ k = 6) (b : Bool) (t : B) (n : Int) (hh : Bool) (ls : List JV) (ns : List B) (w : World) (cs : List Value) (hf : Fits (.mk k b t n hh ls ns)) (hv : ValOn w (.mk k b t n hh ls ns) cs) :
    Calls Tryz.prog 27 #[.agg cs.toArray, .int .i64 ((m : Int) + 1)] w fun e w' => e = .returned (.int .i64 (((ls.map (depthN m)).foldl max 0 + 1 : Nat) : Int)) ∧ Below w.heap.size w w' := by
  obtain ⟨p1, c1, p2, c2, rfl, hp1, hp2⟩ := hv.open
  simp only [Fits, fitsL_iff] at hf
  have HF := hid hf.2.2.2.2
  have hn := hf.2.1
  unfold maxI at hn
  have HI := hid ih
  obtain ⟨G, hG⟩ : ∃ G, (ls.map (depthN m)).foldl max 0 = G := ⟨_, rfl⟩
  have HG := hid hG
  rw [hG]
  obtain ⟨n1, e1⟩ : ∃ n1, ls.length = n1 := ⟨_, rfl⟩
  obtain ⟨n2, e2⟩ : ∃ n2, ns.length = n2 := ⟨_, rfl⟩
  have HN := hid e1
  have HLE : ∀ x ∈ ls.map (depthN m), x ≤ m := fun x hx => by
    obtain ⟨y, _, rfl⟩ := List.mem_map.1 hx
    exact depthN_le m y
  have HLe := hid HLE
  rw [e1, e2]
  rw [e1] at hn
  obtain ⟨W0, hW0⟩ : ∃ W0, W0 = w.alloc (C7 k b t n hh p1 n1 c1 p2 n2 c2) := ⟨_, rfl⟩
  have HW0 := hid hW0
  have HB0 := hid (show Below w.heap.size w W0 from by rw [hW0]; exact below_new _ _)
  have HX0 := hid (show W0.heap[w.heap.size]? = some (C7 k b t n hh p1 n1 c1 p2 n2 c2) from by rw [hW0]; exact heap_alloc_new _ _)
  have HP := hid (hp1.below HB0.out)
  clear hf hv hp1 hp2 ih hG e1 e2 HLE hW0
  have hz : ((m : Int) + 1 == 0) = false := by simp only [beq_eq_false_iff_ne, ne_eq]; omega
  rcases hk with rfl | rfl
  all_goals
    go_enter Tryz.func27, Tryz.ntmps27
    go_wp2
    go_loopg [5, 6] (n1 + 1) (fun gk s5 s6 wr => ∃ i a : Nat, i ≤ n1 ∧ gk = n1 - i + 1 ∧ s5 = .int .i64 (a : Int) ∧ s6 = .int .i64 (i : Int) ∧ ((ls.drop i).map (depthN m)).foldl max a = G ∧ a ≤ m ∧ Below W0.heap.size W0 wr)
    case atStart => exact ⟨0, 0, by omega, rfl, rfl, rfl, HG.out, by omega, by rw [← HW0.out]; exact Below.refl _ _⟩
    case round =>
      obtain ⟨i, a, hi, rfl, rfl, rfl, hs, ha, hb⟩ := hrel
      have HB := hid hb
      have HD := hid hs
      obtain ⟨x0, x1, x2, x3, x4, x5, x6, _⟩ := seven (keep7 HX0.out hb)
      clear hs hb
      by_cases hin : i < n1
      · have b1 : (i : Int) < (n1 : Int) := by omega
        by_cases hlt : a < m
        · have b2 : (a : Int) < (m : Int) := by omega
          have hi1 : i < ls.length := by rw [HN.out]; exact hin
          obtain ⟨g, o, cs, rfl, hv1, hc1⟩ := HP.out.below HB.out i ls[i] (List.getElem?_eq_getElem hi1)
          have HStep := hid (show ((ls.drop i).map (depthN m)).foldl max a = ((ls.drop (i + 1)).map (depthN m)).foldl max (max a (depthN m ls[i])) from by rw [drop_get hi1]; rfl)
          have HC := hid (HI.out ls[i])
          have HFx := hid (HF.out ls[i] (List.getElem_mem hi1))
          have hdle := depthN_le m ls[i]
          generalize ls[i] = x at hv1 HStep HC HFx hdle
          obtain ⟨k1, k2, k3, k4, k5, k6, k7, k8, k9, k10, k11, rfl⟩ := hv1.form
          obtain ⟨a0, a1, a2, a3, a4, a5, a6⟩ := row7 hc1
          have HV := hid hv1
          generalize hdx : depthN m x = D at HStep hdle
          have HDx := hid hdx
          generalize hM : max a D = M at HStep
          have HM := hid hM
          have hle : M ≤ m := by omega
          clear hc1 hv1 hi1 hdx hM
          go_wp2_with (first
            | (go_at_call 27; have hcall := HC.out _ _ HFx.out HV.out; (with_reducible refine hcall.mono ?_); clear hcall; rintro e w1 ⟨rfl, hb⟩; rw [HDx.out]; have HB1 := hid (HB.out.trans (hb.mono HB.out.size)); clear hb)
            | (refine wpList_max_as rfl _ _ rfl a D rfl rfl ?_; rw [HM.out]))
          go_roundg (n1 - (i + 1) + 1)
          case measure => omega
          case rel => exact ⟨i + 1, M, by omega, rfl, rfl, by push_cast; rfl, by rw [← HD.out, HStep.out], hle, HB1.out⟩
        · have b2 : ¬ (a : Int) < (m : Int) := by omega
          have HGm := hid (show G = a from by
            rw [← HD.out]
            exact (fold_top _ a m (by omega) (fun x hx => HLe.out x (by
              obtain ⟨y, hy, rfl⟩ := List.mem_map.1 hx
              exact List.mem_map.2 ⟨y, List.mem_of_mem_drop hy, rfl⟩))).trans (by omega))
          go_wp2
          go_ret
          refine ⟨?_, below_out HB0.out HB.out⟩
          rw [HGm.out]
          push_cast
          rfl
      · have b1 : ¬ (i : Int) < (n1 : Int) := by omega
        have HGm := hid (show G = a from by
          rw [← HD.out, List.drop_of_length_le (show ls.length ≤ i by rw [HN.out]; omega)]
          rfl)
        go_wp2
        go_ret
        refine ⟨?_, below_out HB0.out HB.out⟩
        rw [HGm.out]
        push_cast
        rfl
set_option maxRecDepth 20000 in
set_option maxHeartbeats 4000000 in
theorem deep_any : ∀ m, m ≤ 10000 → RDeepOk m := by
  intro m
  induction m with
  | zero =>
    intro _ t w cs _ hv
    obtain ⟨k, b, t, n, hh, ls, ns⟩ := t
    obtain ⟨p1, c1, p2, c2, rfl, _, _⟩ := hv.open
    obtain ⟨n1, e1⟩ : ∃ n1, ls.length = n1 := ⟨_, rfl⟩
    obtain ⟨n2, e2⟩ : ∃ n2, ns.length = n2 := ⟨_, rfl⟩
    rw [e1, e2]
    clear hv e1 e2
    show Calls Tryz.prog 27 #[.agg _, .int .i64 0] w _
    by_cases h5 : k = 5
    · subst h5
      go_enter Tryz.func27, Tryz.ntmps27
      go_wp2
      go_ret
      exact ⟨rfl, below_new _ _⟩
    · have q5 : (k != 5) = true := by simpa using h5
      by_cases h6 : k = 6
      · subst h6
        clear h5 q5
        go_enter Tryz.func27, Tryz.ntmps27
        go_wp2
        go_ret
        exact ⟨rfl, below_new _ _⟩
      · have q6 : (k != 6) = true := by simpa using h6
        clear h5 h6
        go_enter Tryz.func27, Tryz.ntmps27
        go_wp2
        go_ret
        exact ⟨rfl, below_new _ _⟩
  | succ m ih =>
    intro hm t w cs hf hv
    obtain ⟨k, b, t, n, hh, ls, ns⟩ := t
    have hcast : ((m + 1 : Nat) : Int) = (m : Int) + 1 := by push_cast; rfl
    rw [hcast]
    by_cases hk : k = 5 ∨ k = 6
    · have := deep_loop (by omega) (ih (by omega)) k hk b t n hh ls ns w cs hf hv
      simp only [depthN, if_pos hk]
      exact this
    · simp only [depthN, if_neg hk]
      have q5 : (k != 5) = true := by simp only [bne_iff_ne, ne_eq]; omega
      have q6 : (k != 6) = true := by simp only [bne_iff_ne, ne_eq]; omega
      obtain ⟨p1, c1, p2, c2, rfl, _, _⟩ := hv.open
      obtain ⟨n1, e1⟩ : ∃ n1, ls.length = n1 := ⟨_, rfl⟩
      obtain ⟨n2, e2⟩ : ∃ n2, ns.length = n2 := ⟨_, rfl⟩
      rw [e1, e2]
      clear hv hf ih hk e1 e2
      go_enter Tryz.func27, Tryz.ntmps27
      go_wp2
      go_ret
      exact ⟨rfl, below_new _ _⟩
set_option maxRecDepth 20000 in
set_option maxHeartbeats 4000000 in
theorem rdepth_any (t : JV) (w : World) (cs : List Value) (hf : Fits t) (hv : ValOn w t cs) : Calls Tryz.prog 16 #[.agg cs.toArray] w fun e w' => e = .returned (.int .i64 ((depthN 10000 t : Nat) : Int)) ∧ Below w.heap.size w w' := by
  obtain ⟨k1, k2, k3, k4, k5, k6, k7, k8, k9, k10, k11, rfl⟩ := hv.form
  have HB0 := hid (below_new w (C7 k1 k2 k3 k4 k5 k6 k7 k8 k9 k10 k11))
  have HC := hid (deep_any 10000 (by decide) t (w.alloc (C7 k1 k2 k3 k4 k5 k6 k7 k8 k9 k10 k11)) _ hf (hv.below HB0.out))
  obtain ⟨D, hD⟩ : ∃ D, depthN 10000 t = D := ⟨_, rfl⟩
  rw [hD]
  rw [hD] at HC
  clear hf hv hD
  go_enter Tryz.func16, Tryz.ntmps16
  go_wp2_with (go_at_call 27; have hcall : Calls Tryz.prog 27 #[.agg #[.int .i64 k1, .bool k2, .string (str k3), .int .i64 k4, .bool k5, .slice k6 k7 k8, .slice k9 k10 k11], .int .i64 10000] (w.alloc (C7 k1 k2 k3 k4 k5 k6 k7 k8 k9 k10 k11)) _ := HC.out; (with_reducible refine hcall.mono ?_); clear hcall; rintro e w1 ⟨rfl, hb⟩; have HB := hid (below_out HB0.out hb); clear hb)
  go_ret
  exact ⟨rfl, HB.out⟩
end Go.Proofs.YtkoeihliaandeaaGreatDoor
