/- The document's feed. -/
import Derived.Test.YtfmkkkkdfkjdlaaDoorHFeedP
import Derived.Test.YtfmkkkkdfkjdlaaDoorPFeed
namespace Go.Proofs.YtfmkkkkdfkjdlaaDoor
open Go.RowKit

theorem ownS_type {w : World} {N k : Nat} {v : Value} {acc : List B} {cs : Array Value} {T : TypeId} {fr : Nat × Nat} (h : OwnS w N v acc) (e : v.ownBlock = some k) (hk : w.heap[k]? = some (.cells cs T fr)) : T = 9 := by
  rcases h.2 with ⟨h4, _⟩ | ⟨g, cap, cur, h4, h5, h6, _⟩
  · rw [h4] at e; simp [Value.ownBlock] at e
  · rw [h4] at e
    simp [Value.ownBlock] at e
    subst e
    rw [h6] at hk
    simp at hk
    exact hk.2.1.symm
theorem OwnS.aside7 {w : World} {b g : Nat} {v : Value} {ns : List B} {cs : Array Value} {T : TypeId} {fr : Nat × Nat} (h : OwnS w b v ns) (hg : w.heap[g]? = some (.cells cs T fr)) (hT : T ≠ 9) (a0 a1 a2 a3 a4 a5 a6 : Value) : OwnS (((((((w.setCell ⟨g, 0, none⟩ a0).setCell ⟨g, 1, none⟩ a1).setCell ⟨g, 2, none⟩ a2).setCell ⟨g, 3, none⟩ a3).setCell ⟨g, 4, none⟩ a4).setCell ⟨g, 5, none⟩ a5).setCell ⟨g, 6, none⟩ a6) b v ns := by
  have h0 := h
  refine ⟨h.1, ?_⟩
  rcases h.2 with h1 | ⟨g', cap, cur, h1, h2, h3, h4⟩
  · exact .inl h1
  · have hne : g' ≠ g := fun e => hT (ownS_type h0 (by rw [h1]; rfl) (by rw [e]; exact hg))
    exact .inr ⟨g', cap, cur, h1, h2, by iterate 7 rw [Below.heap_setCell _ _ _ _ hne]
                                         exact h3, h4⟩
theorem HWd.all {w W : World} {c0 c1 c2 c3 c4 c5 c6 : Value} (h : HWd w W c0 c1 c2 c3 c4 c5 c6) (a0 a1 a2 a3 a4 a5 a6 : Value) : HWd w (((((((W.setCell ⟨w.heap.size, 0, none⟩ a0).setCell ⟨w.heap.size, 1, none⟩ a1).setCell ⟨w.heap.size, 2, none⟩ a2).setCell ⟨w.heap.size, 3, none⟩ a3).setCell ⟨w.heap.size, 4, none⟩ a4).setCell ⟨w.heap.size, 5, none⟩ a5).setCell ⟨w.heap.size, 6, none⟩ a6) a0 a1 a2 a3 a4 a5 a6 := by
  refine ⟨?_, ?_, ?_⟩
  · simp [World.setCell, Array.getElem?_modify, h.r]
  · iterate 7 rw [Below.heap_setCell _ _ _ _ (show w.heap.size + 1 ≠ w.heap.size by omega)]
    exact h.o
  · iterate 7 refine Below.setCell ?_ (show w.heap.size ≤ w.heap.size from Nat.le_refl _) _
    exact h.low
theorem hd_ne : (32 : Nat) ≠ 9 := by decide
theorem ended_of {h : HS} (he : endedH h = false) : h.done = false ∧ h.err = 0 := by
  unfold endedH at he
  simpa using he
set_option maxRecDepth 20000 in
set_option maxHeartbeats 8000000 in
theorem feedR_any (h : HS) (l : B) (p : Option Addr) (n cb : Nat) (hn : l.length = n) (base : Nat) (v : Value) (w : World) (ho : OwnS w base v h.lines) (hA : ArgAt w p l) (hb : base ≤ w.heap.size) (hi : InvH h) (hnb : n ≤ 140737488355328) :
    Calls Tryd.prog 18 #[headV h v, .slice p n cb] w fun e w' => ∃ v', e = .returned (.tuple #[headV (feedH h l) v', .int .i64 (feedHN h l : Int)]) ∧ OwnS w' base v' (feedH h l).lines ∧ Below w.heap.size w w' := by
  obtain ⟨W0, hW0⟩ : ∃ W0, W0 = (w.alloc (.cells #[.bool h.resp, .int .i64 h.most, v, .string (str h.line), .int .i64 (h.len : Int), .bool h.done, .int .i64 (h.err : Int)] 32 (0, 0))).alloc (.cells #[.bool false, .int .i64 0, .slice none 0 0, .string ⟨#[]⟩, .int .i64 0, .bool false, .int .i64 0] 32 (0, 0)) := ⟨_, rfl⟩
  have HT0 := hid (HWd.start hW0)
  have HW0 := hid hW0
  have HO0 := hid (ho.keep HT0.out.low)
  have HI := hid hi
  have HA := hid hA
  have HN := hid hn
  obtain ⟨F, hF⟩ : ∃ F, feedH h l = F := ⟨_, rfl⟩
  obtain ⟨N, hN⟩ : ∃ N, feedHN h l = N := ⟨_, rfl⟩
  have HFN := hid (And.intro hF hN)
  rw [hF, hN]
  obtain ⟨M, hM⟩ : ∃ M, str h.line = M := ⟨_, rfl⟩
  have HM := hid hM
  obtain ⟨vp, vc, hv⟩ := own_slice ho
  clear hF hN hi hA hn hW0 ho
  subst hv
  unfold headV
  rw [hM] at HT0 HW0 ⊢
  clear hM
  go_enter Tryd.func18, Tryd.ntmps18
  go_wp2
  (try rw [← HW0.out])
  go_loopg [6] (n + 1) (fun gk s6 wr => ∃ (j : Nat) (hs : HS) (v : Value), s6 = .int .i64 (j : Int) ∧ j ≤ n ∧ gk = n - j + 1 ∧ HWd w wr (.bool hs.resp) (.int .i64 hs.most) v (.string (str hs.line)) (.int .i64 (hs.len : Int)) (.bool hs.done) (.int .i64 (hs.err : Int)) ∧ OwnS wr base v hs.lines ∧ InvH hs ∧ F = feedH hs (l.drop j) ∧ N = j + feedHN hs (l.drop j))
  case atStart => exact ⟨0, h, _, rfl, Nat.zero_le _, rfl, (by rw [HM.out]; exact HT0.out), HO0.out, HI.out, HFN.out.1.symm, (by rw [Nat.zero_add]; exact HFN.out.2.symm)⟩
  case round =>
    obtain ⟨j, hs, v, rfl, hj, rfl, ht, ho, hi, hf, hk⟩ := hrel
    obtain ⟨vp1, vc1, hv1⟩ := own_slice ho
    subst hv1
    have HT := hid ht
    have HO := hid ho
    have HIs := hid hi
    have HFk := hid (And.intro hf hk)
    have HSv := hid (seven ht.r)
    have hS := HSv.out
    obtain ⟨k0, k1, k2, k3, k4, k5, k6, _⟩ := hS
    clear ht ho hi hf hk
    by_cases hjn : j < n
    · obtain ⟨y, hy⟩ : ∃ y, l[j]? = some y := ⟨l[j]'(by rw [HN.out]; exact hjn), List.getElem?_eq_getElem _⟩
      have HY := hid hy
      obtain ⟨g, o, hap, hac0⟩ := HA.out j y hy
      have hac : wr.cell? ⟨g, o + j, none⟩ = some (.int .u8 (y.toNat : Int)) := by obtain ⟨g2, o2, e2, h2⟩ := (HA.out.next HT.out.low) j y HY.out; rw [hap] at e2; simp only [Option.some.injEq, Addr.mk.injEq, and_true] at e2; obtain ⟨rfl, rfl⟩ := e2; exact h2
      clear hac0 hy
      subst hap
      have hjI : (j : Int) < (n : Int) := Int.ofNat_lt.2 hjn
      cases he : endedH hs with
      | true =>
        have HE1 := hid (show F = hs ∧ N = j from ⟨HFk.out.1.trans (feedH_ended he _).1, by rw [HFk.out.2, (feedH_ended he _).2, Nat.add_zero]⟩)
        obtain ⟨_, _, _, _, _, _, _, oz⟩ := seven HT.out.o
        obtain ⟨n0, n1, n2, n3, n4, n5, n6, _⟩ := seven HT.out.o
        have oz0 := oz 0
        have oz1 := oz 1
        have oz2 := oz 2
        have oz3 := oz 3
        have oz4 := oz 4
        have oz5 := oz 5
        have oz6 := oz 6
        clear oz
        cases hdn : hs.done with
        | true =>
          rw [hdn] at k5
          go_wp2
          refine bodyPost_ret (results_hd2 rfl _ _ _ 32 _ (0, 0) rfl (seven_put (has_seven HT.out.o) _ _ _ _ _ _ _) rfl) rfl ?_
          refine ⟨.slice vp1 hs.lines.length vc1, ?_, ?_, HT.out.out _ _ _ _ _ _ _⟩
          · rw [HE1.out.1, HE1.out.2, hdn]
            try rfl
          · rw [HE1.out.1]
            exact HO.out.aside7 HT.out.o hd_ne _ _ _ _ _ _ _
        | false =>
          have her : hs.err ≠ 0 := fun e => by unfold endedH at he; rw [hdn, e] at he; simp at he
          rw [hdn] at k5
          have her2 : ((hs.err : Int) == 0) = false := by simpa using her
          have her3 : ¬ (hs.err : Int) = 0 := by simpa using her
          go_wp2
          refine bodyPost_ret (results_hd2 rfl _ _ _ 32 _ (0, 0) rfl (seven_put (has_seven HT.out.o) _ _ _ _ _ _ _) rfl) rfl ?_
          refine ⟨.slice vp1 hs.lines.length vc1, ?_, ?_, HT.out.out _ _ _ _ _ _ _⟩
          · rw [HE1.out.1, HE1.out.2, hdn]
            try rfl
          · rw [HE1.out.1]
            exact HO.out.aside7 HT.out.o hd_ne _ _ _ _ _ _ _
      | false =>
        obtain ⟨hd0, he0⟩ := ended_of he
        · rw [hd0] at k5
          rw [he0, show ((0 : Nat) : Int) = 0 from rfl] at k6
          have HBy := hid (byte_any hs y base _ wr.drew HO.out (Nat.le_trans (HIs.out.len he0) (by decide)) (Nat.le_trans HIs.out.line (Nat.le_trans (HIs.out.len he0) (by decide))) (Nat.le_trans hb HT.out.low.size) (Nat.le_trans HIs.out.lines (Nat.le_trans (HIs.out.len he0) (by decide))))
          unfold headV byteV at HBy
          rw [hd0, he0, show ((0 : Nat) : Int) = 0 from rfl] at HBy
          go_wp2
          refine wp_region_noPanic ?_
          refine any_begin 7 (by kernel_rfl) (by kernel_rfl) ?_
          refine late_begin (fun U => Seven U w.heap.size (.bool hs.resp) (.int .i64 hs.most) (.slice vp1 hs.lines.length vc1) (.string (str hs.line)) (.int .i64 (hs.len : Int)) (.bool hs.done) (.int .i64 (hs.err : Int)) ∧ U.cell? ⟨g, o + j, none⟩ = some (.int .u8 (y.toNat : Int))) (fun j => decide (6 ≤ j)) ⟨seven (w := wr.drew) HT.out.r, hac⟩ (fun hS => ?_)
          refine late_take (i := 0) (some 21) rfl rfl (by kernel_rfl) (by kernel_rfl) (by kernel_rfl) (by kernel_rfl) (by kernel_rfl) (fun _ _ _ h => h) (by rfl) (v := ?v0f) ?hy0f hS ?rest0f
          case hy0f => intro w0 hSw; (try dsimp only at hSw); obtain ⟨⟨q0, q1, q2, q3, q4, q5, q6, _⟩, q7⟩ := hSw; go_simp; try with_reducible rfl
          simp only [Act.put, List.setIfInBounds_toArray, List.set_cons_zero, List.set_cons_succ]
          refine late_take (i := 1) (some 22) rfl rfl (by kernel_rfl) (by kernel_rfl) (by kernel_rfl) (by kernel_rfl) (by kernel_rfl) (fun _ _ _ h => h) (by rfl) (v := ?v1f) ?hy1f hS ?rest1f
          case hy1f => intro w0 hSw; (try dsimp only at hSw); obtain ⟨⟨q0, q1, q2, q3, q4, q5, q6, _⟩, q7⟩ := hSw; go_simp; try with_reducible rfl
          simp only [Act.put, List.setIfInBounds_toArray, List.set_cons_zero, List.set_cons_succ]
          refine late_take (i := 2) (some 23) rfl rfl (by kernel_rfl) (by kernel_rfl) (by kernel_rfl) (by kernel_rfl) (by kernel_rfl) (fun _ _ _ h => h) (by rfl) (v := ?v2f) ?hy2f hS ?rest2f
          case hy2f => intro w0 hSw; (try dsimp only at hSw); obtain ⟨⟨q0, q1, q2, q3, q4, q5, q6, _⟩, q7⟩ := hSw; go_simp; try with_reducible rfl
          simp only [Act.put, List.setIfInBounds_toArray, List.set_cons_zero, List.set_cons_succ]
          refine late_take (i := 3) (some 24) rfl rfl (by kernel_rfl) (by kernel_rfl) (by kernel_rfl) (by kernel_rfl) (by kernel_rfl) (fun _ _ _ h => h) (by rfl) (v := ?v3f) ?hy3f hS ?rest3f
          case hy3f => intro w0 hSw; (try dsimp only at hSw); obtain ⟨⟨q0, q1, q2, q3, q4, q5, q6, _⟩, q7⟩ := hSw; go_simp; try with_reducible rfl
          simp only [Act.put, List.setIfInBounds_toArray, List.set_cons_zero, List.set_cons_succ]
          refine late_take (i := 4) (some 25) rfl rfl (by kernel_rfl) (by kernel_rfl) (by kernel_rfl) (by kernel_rfl) (by kernel_rfl) (fun _ _ _ h => h) (by rfl) (v := ?v4f) ?hy4f hS ?rest4f
          case hy4f => intro w0 hSw; (try dsimp only at hSw); obtain ⟨⟨q0, q1, q2, q3, q4, q5, q6, _⟩, q7⟩ := hSw; go_simp; try with_reducible rfl
          simp only [Act.put, List.setIfInBounds_toArray, List.set_cons_zero, List.set_cons_succ]
          refine wpAnyD_one (i := 5) (by kernel_rfl) rfl (fun K hK => ?_)
          go_simp
          go_at_call 40
          with_reducible refine HBy.out.mono ?_
          rintro e w2 ⟨v2, rfl, ho2, hb2⟩
          obtain ⟨vp2, vc2, hv2⟩ := own_slice ho2
          subst hv2
          have HTd := hid (show HWd w wr.drew (.bool hs.resp) (.int .i64 hs.most) (.slice vp1 hs.lines.length vc1) (.string (str hs.line)) (.int .i64 (hs.len : Int)) (.bool hs.done) (.int .i64 (hs.err : Int)) from ⟨HT.out.r, HT.out.o, HT.out.low.drew⟩)
          have HT2 := hid (HTd.out.below hb2)
          have HO2 := hid ho2
          have HX2 := hid (seven HT2.out.r)
          refine hK _ _ ⟨fun _ => ⟨HX2.out, (by obtain ⟨g2, o2, e2, h2⟩ := (HA.out.next HT2.out.low) j y HY.out; simp only [Option.some.injEq, Addr.mk.injEq, and_true] at e2; obtain ⟨rfl, rfl⟩ := e2; exact h2)⟩, ?_⟩
          clear hK K
          refine late_over (by kernel_rfl) ?_
          refine any_one (i := 6) (by kernel_rfl) rfl (fun K hK => ?_)
          obtain ⟨m0, m1, m2, m3, m4, m5, m6, mz⟩ := HX2.out
          have mz0 := mz 0
          have mz1 := mz 1
          have mz2 := mz 2
          have mz3 := mz 3
          have mz4 := mz 4
          have mz5 := mz 5
          have mz6 := mz 6
          clear mz
          unfold headV
          go_simp
          refine hK _ _ ?_
          clear hK K
          refine any_done (by kernel_rfl) ?_ _
          refine NoPanic.normal ?_
          have hwj : wrap64 ((j : Int) + 1) = (j : Int) + 1 := by unfold wrap64; omega
          go_wp2
          go_roundg (n - (j + 1) + 1)
          case measure => exact Nat.succ_lt_succ (Nat.sub_lt_sub_left hjn (Nat.lt_succ_self j))
          case rel =>
            obtain ⟨r1, r2⟩ := feedH_step HY.out he
            refine ⟨j + 1, byteH hs y, _, (by (try rw [hwj]); push_cast; rfl), hjn, rfl, HT2.out.all _ _ _ _ _ _ _, ?_, byteH_inv y HIs.out, HFk.out.1.trans r1, ?_⟩
            · exact HO2.out.aside7 HT2.out.r hd_ne _ _ _ _ _ _ _
            · rw [HFk.out.2, r2]; omega
    · have hjn2 : j = n := Nat.le_antisymm hj (Nat.le_of_not_lt hjn)
      have HE1 := hid (show F = hs ∧ N = j from by have hd9 : l.drop j = [] := List.drop_eq_nil_of_le (by rw [HN.out, hjn2]; exact Nat.le_refl _); rw [hd9] at HFk; exact ⟨HFk.out.1, HFk.out.2⟩)
      have hjI : ¬ (j : Int) < (n : Int) := fun h => hjn (Int.ofNat_lt.1 h)
      clear hjn2 hjn hj
      obtain ⟨_, _, _, _, _, _, _, oz⟩ := seven HT.out.o
      obtain ⟨n0, n1, n2, n3, n4, n5, n6, _⟩ := seven HT.out.o
      have oz0 := oz 0
      have oz1 := oz 1
      have oz2 := oz 2
      have oz3 := oz 3
      have oz4 := oz 4
      have oz5 := oz 5
      have oz6 := oz 6
      clear oz
      go_wp2
      refine bodyPost_ret (results_hd2 rfl _ _ _ 32 _ (0, 0) rfl (seven_put (has_seven HT.out.o) _ _ _ _ _ _ _) rfl) rfl ?_
      refine ⟨.slice vp1 hs.lines.length vc1, ?_, ?_, HT.out.out _ _ _ _ _ _ _⟩
      · rw [HE1.out.1, HE1.out.2]
        try rfl
      · rw [HE1.out.1]
        exact HO.out.aside7 HT.out.o hd_ne _ _ _ _ _ _ _
end Go.Proofs.YtfmkkkkdfkjdlaaDoor
