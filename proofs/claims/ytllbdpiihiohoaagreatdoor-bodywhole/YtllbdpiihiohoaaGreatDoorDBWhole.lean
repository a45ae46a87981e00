/- The document's reader of bodies: a whole body. -/
import Derived.Test.YtllbdpiihiohoaaGreatDoorDBNew
import Derived.Test.YtllbdpiihiohoaaGreatDoorDBFeedX
import Derived.Test.YtllbdpiihiohoaaGreatDoorDBEnd
import Derived.BigQuiet
namespace Go.Proofs.YtllbdpiihiohoaaGreatDoor
open Go.RowKit

def DWholeAns (K N m : Int) (l : B) (w : World) (e : Ending) (w' : World) : Prop :=
  (wholeX K N m l ≠ 0 ∧ e = .returned (.tuple #[.slice none 0 0, .int .i64 0, .int .i64 (wholeX K N m l : Int)]) ∧ Below w.heap.size w w') ∨
  (wholeX K N m l = 0 ∧ ∃ q d, e = .returned (.tuple #[.slice q (saidX (newX K N m) l).length d, .int .i64 (tookX (newX K N m) l : Int), .int .i64 0]) ∧ Own w' w.heap.size (.slice q (saidX (newX K N m) l).length d) (saidX (newX K N m) l) ∧ Below w.heap.size w w')
set_option maxRecDepth 20000 in
set_option maxHeartbeats 8000000 in
theorem dwh_no (K N m : Int) (h9 : m ≤ 9223372036854775807) (l : B) (p : Option Addr) (n c : Nat) (w : World) (h0 : newE K N m ≠ 0) : Calls Tryz.prog 19 #[.agg #[.int .i64 K, .int .i64 N], .int .i64 m, .slice p n c] w (DWholeAns K N m l w) := by
  have HB0 := hid (below_new w (frmO K N))
  have HW := hid (show wholeX K N m l = newE K N m from by unfold wholeX; rw [if_neg h0])
  obtain ⟨k, hk⟩ : ∃ k : Int, (newE K N m : Int) = k := ⟨_, rfl⟩
  have HNw := hid (show ∀ W : World, Below w.heap.size w W → Calls Tryz.prog 6 #[.agg #[.int .i64 K, .int .i64 N], .int .i64 m] W fun e w' => e = .returned (.tuple #[.agg zzB, .int .i64 k]) ∧ Below w.heap.size w w' from fun W hb => (dnew_any K N m h9 W).mono (by
    rintro e w' (⟨_, rfl, hb2⟩ | ⟨h1, _⟩)
    · rw [hk]; exact ⟨rfl, below_out hb hb2⟩
    · exact absurd h1 h0))
  unfold zzB at HNw
  have hkn : (k != 0) = true := by simp; omega
  have H0 := hid h0
  have HK := hid hk
  clear h9 h0 hk
  go_enter Tryz.func19, Tryz.ntmps19
  go_wp2_with (go_at_call 6; (with_reducible refine (HNw.out _ HB0.out).mono ?_); rintro e w1 ⟨rfl, hb⟩; have HB1 := hid hb; clear hb)
  refine bodyPost_ret (results_tmp3x rfl _ _ _) rfl ?_
  exact .inl ⟨by rw [HW.out]; exact H0.out, by rw [HW.out, HK.out]; rfl, below_out HB1.out (below_new _ _)⟩
set_option maxRecDepth 20000 in
set_option maxHeartbeats 16000000 in
theorem dwh_f (K N m : Int) (h9 : m ≤ 9223372036854775807) (l : B) (p : Option Addr) (n c : Nat) (hn : l.length = n) (hnl : n ≤ 140737488351232) (w : World) (ha : ArgAt w p l) (h0 : newE K N m = 0) (hr : (fedX (newX K N m) l).err ≠ 0) : Calls Tryz.prog 19 #[.agg #[.int .i64 K, .int .i64 N], .int .i64 m, .slice p n c] w (DWholeAns K N m l w) := by
  have HB0 := hid (below_new w (frmO K N))
  have hi0 := inv_new h0 h9
  have hR0 := rel_newB h0
  have hi1 := inv_fed hi0 l
  have hR1 := rel_fedB hR0 hi0 l
  obtain ⟨n1, n2⟩ := newDK_nil K m
  have hmr : m = -1 → (newX K N m).kind = 3 → n ≤ (newX K N m).room := by
    intro e1 e3
    have hKz : K.toNat = 3 := e3
    show n ≤ (if K = 1 then N.toNat else if K = 3 then topX m else 0)
    rw [if_neg (by omega), if_pos (by omega)]
    unfold topX
    rw [if_pos e1]
    omega
  have HNw := hid (show ∀ W : World, Below w.heap.size w W → Calls Tryz.prog 6 #[.agg #[.int .i64 K, .int .i64 N], .int .i64 m] W fun e w' => e = .returned (.tuple #[.agg (bdV K N m (newX K N m) (newDK K m) (.slice none 0 0) (.slice none 0 0)), .int .i64 0]) ∧ Below w.heap.size w w' from fun W hb => (dnew_any K N m h9 W).mono (by
    rintro e w' (⟨h1, _⟩ | ⟨_, rfl, hb2⟩)
    · exact absurd h0 h1
    · exact ⟨rfl, below_out hb hb2⟩))
  have hFd := fun (W : World) (hb : Below w.heap.size w W) => dfeedb_any hR0 hi0 none none 0 0 0 0 l p n c hn W (by rw [n1]; rfl) (by rw [n2]; rfl) (dk_nil W n1 n2) (ha.next hb) hnl hmr
  have hEn := fun (W : World) (lp tp : Option Addr) (ln lc tn tc : Nat) (hA : DkAt W (fedDK (newX K N m) (newDK K m) l) lp lc tp tc) => dend_any hR1 lp tp ln lc tn tc W hA
  unfold DFedB at hFd
  unfold DEndB at hEn
  obtain ⟨s0, hs0⟩ : ∃ s0, newX K N m = s0 := ⟨_, rfl⟩
  obtain ⟨d0, hd0⟩ : ∃ d0, newDK K m = d0 := ⟨_, rfl⟩
  rw [hs0, hd0] at HNw hFd hEn
  rw [hs0] at hr
  obtain ⟨s1, hs1⟩ : ∃ s1, fedX s0 l = s1 := ⟨_, rfl⟩
  obtain ⟨d1, hd1⟩ : ∃ d1, fedDK s0 d0 l = d1 := ⟨_, rfl⟩
  obtain ⟨X, hX⟩ : ∃ X, saidX s0 l = X := ⟨_, rfl⟩
  obtain ⟨TK, hTK⟩ : ∃ TK, tookX s0 l = TK := ⟨_, rfl⟩
  obtain ⟨M, hM⟩ : ∃ M, X.length = M := ⟨_, rfl⟩
  rw [hs1, hd1, hX, hTK, hM] at hFd
  rw [hs1, hd1] at hEn
  rw [hs1] at hr
  have HW := hid (show wholeX K N m l = (shutX s1).err from by unfold wholeX; rw [if_pos h0, hs0, hs1])
  have HTk := hid (show tookX (newX K N m) l = TK from by rw [hs0]; exact hTK)
  have HSa := hid (show saidX (newX K N m) l = X from by rw [hs0]; exact hX)
  have HM := hid hM
  unfold bdV at HNw hFd hEn
  obtain ⟨T0, hT0⟩ : ∃ T0 : Int, (s0.told : Int) = T0 := ⟨_, rfl⟩
  obtain ⟨E0, hE0⟩ : ∃ E0 : Int, (s0.err : Int) = E0 := ⟨_, rfl⟩
  obtain ⟨D0, hD0⟩ : ∃ D0, s0.done = D0 := ⟨_, rfl⟩
  obtain ⟨T1, hT1⟩ : ∃ T1 : Int, (s1.told : Int) = T1 := ⟨_, rfl⟩
  obtain ⟨E1, hE1⟩ : ∃ E1 : Int, (s1.err : Int) = E1 := ⟨_, rfl⟩
  obtain ⟨D1, hD1⟩ : ∃ D1, s1.done = D1 := ⟨_, rfl⟩
  obtain ⟨T2, hT2⟩ : ∃ T2 : Int, ((shutX s1).told : Int) = T2 := ⟨_, rfl⟩
  obtain ⟨E2, hE2⟩ : ∃ E2 : Int, ((shutX s1).err : Int) = E2 := ⟨_, rfl⟩
  obtain ⟨D2, hD2⟩ : ∃ D2, (shutX s1).done = D2 := ⟨_, rfl⟩
  rw [hT0, hE0, hD0] at HNw hFd
  rw [hT1, hE1, hD1] at hFd hEn
  rw [hT2, hE2, hD2] at hEn
  have HE1 := hid hE1
  have HE2 := hid hE2
  have hq : (E1 != 0) = true := by simp; omega
  have HS2 := hid (show (shutX s1).err = s1.err from by rw [shut_over (by unfold overX; simp [hr])])
  have HR := hid hr
  obtain ⟨mo0, le0, st0, e0, di0, si0, mr0, li0, by0, tr0⟩ := d0
  obtain ⟨mo1, le1, st1, e1, di1, si1, mr1, li1, by1, tr1⟩ := d1
  dsimp only at HNw hFd hEn
  have HFd := hid hFd
  have HEn := hid hEn
  clear h9 h0 hn ha hnl hi0 hR0 hi1 hR1 n1 n2 hmr hFd hEn hs0 hd0 hs1 hd1 hX hTK hM hT0 hE0 hD0 hT1 hE1 hD1 hT2 hE2 hD2 hr
  go_enter Tryz.func19, Tryz.ntmps19
  go_wp2_with (first | (go_at_call 6; (with_reducible refine (HNw.out _ HB0.out).mono ?_); rintro e w1 ⟨rfl, hb⟩; have HB1 := hid (below_out hb (below_new w1 (.cells #[.int .i64 K, .int .i64 N, .int .i64 m, .int .i64 T0, .bool D0, .int .i64 E0, .int .i64 (mo0 : Int), .int .i64 (le0 : Int), .int .i64 (st0 : Int), .int .i64 (e0 : Int), .int .i64 (di0 : Int), .int .i64 (si0 : Int), .int .i64 (mr0 : Int), .slice none 0 0, .int .i64 (by0 : Int), .slice none 0 0] 37 (0, 0)))); have HX1 := hid (heap_alloc_new w1 (.cells #[.int .i64 K, .int .i64 N, .int .i64 m, .int .i64 T0, .bool D0, .int .i64 E0, .int .i64 (mo0 : Int), .int .i64 (le0 : Int), .int .i64 (st0 : Int), .int .i64 (e0 : Int), .int .i64 (di0 : Int), .int .i64 (si0 : Int), .int .i64 (mr0 : Int), .slice none 0 0, .int .i64 (by0 : Int), .slice none 0 0] 37 (0, 0))); have HG := hid hb.size; clear hb HNw) | (go_at_call 10; (with_reducible refine (HFd.out _ HB1.out).mono ?_); rintro e w2 ⟨lp, ln, lc, tp, tn, tc, q, dd, rfl, hl1, ht1, hr1, ho1, hb1⟩; have HX2 := hid (blk_nextD HX1.out hb1); have HB2 := hid (below_out HB1.out hb1); have HO2 := hid (own_base ho1 HB1.out.size); have HO3 := hid (show ∀ k, (Value.slice q M dd).ownBlock = some k → w1.heap.size < k from fun k e => Nat.lt_of_lt_of_le (lt_of_heap HX1.out) (own_ge ho1 e)); have HR2 := hid hr1; clear hl1 ht1 hr1 ho1 hb1 HFd HX1) | (refine wpList_store_bd rfl (.tmp 9) (.tmp 28) rfl w1.heap.size (by go_simp) K N m T1 D1 E1 (mo1 : Int) (le1 : Int) (st1 : Int) (e1 : Int) (di1 : Int) (si1 : Int) (mr1 : Int) (by1 : Int) lp tp ln tn lc tc (by go_simp) HX2.out ?_; intro V hV hO hZ; have HB3 := hid (show Below w.heap.size w V from HB2.out.trans (hO.below (fun k hk => by have e : k = w1.heap.size := hk; have := HG.out; omega) HB2.out.size)); have HO4 := hid (own_only HO2.out hO (fun k e hk => by have e2 : k = w1.heap.size := hk; have := HO3.out k e; omega)); have HR3 := hid (dk_only HR2.out hO (dk_apart HR2.out (box_free HX2.out).1 (box_free HX2.out).2).1 (dk_apart HR2.out (box_free HX2.out).1 (box_free HX2.out).2).2); obtain ⟨y0, y1, y2, y3, y4, y5, y6, y7, y8, y9, y10, y11, y12, y13, y14, y15, _⟩ := cells16 hV; have HE := hid (HEn.out V lp tp ln lc tn tc HR3.out); clear hV hO hZ HX2 HR2 HEn))
  go_quiet (fail)
  go_wp2
  refine bodyPost_ret (results_tmp3x rfl _ _ _) rfl ?_
  exact .inl ⟨by rw [HW.out, HS2.out]; exact HR.out, by rw [HW.out, HS2.out, HE1.out]; rfl, below_drew HB3.out _⟩
set_option maxRecDepth 20000 in
set_option maxHeartbeats 16000000 in
theorem dwh_e (K N m : Int) (h9 : m ≤ 9223372036854775807) (l : B) (p : Option Addr) (n c : Nat) (hn : l.length = n) (hnl : n ≤ 140737488351232) (w : World) (ha : ArgAt w p l) (h0 : newE K N m = 0) (hr : (fedX (newX K N m) l).err = 0 ∧ (shutX (fedX (newX K N m) l)).err ≠ 0) : Calls Tryz.prog 19 #[.agg #[.int .i64 K, .int .i64 N], .int .i64 m, .slice p n c] w (DWholeAns K N m l w) := by
  have HB0 := hid (below_new w (frmO K N))
  have hi0 := inv_new h0 h9
  have hR0 := rel_newB h0
  have hi1 := inv_fed hi0 l
  have hR1 := rel_fedB hR0 hi0 l
  obtain ⟨n1, n2⟩ := newDK_nil K m
  have hmr : m = -1 → (newX K N m).kind = 3 → n ≤ (newX K N m).room := by
    intro e1 e3
    have hKz : K.toNat = 3 := e3
    show n ≤ (if K = 1 then N.toNat else if K = 3 then topX m else 0)
    rw [if_neg (by omega), if_pos (by omega)]
    unfold topX
    rw [if_pos e1]
    omega
  have HNw := hid (show ∀ W : World, Below w.heap.size w W → Calls Tryz.prog 6 #[.agg #[.int .i64 K, .int .i64 N], .int .i64 m] W fun e w' => e = .returned (.tuple #[.agg (bdV K N m (newX K N m) (newDK K m) (.slice none 0 0) (.slice none 0 0)), .int .i64 0]) ∧ Below w.heap.size w w' from fun W hb => (dnew_any K N m h9 W).mono (by
    rintro e w' (⟨h1, _⟩ | ⟨_, rfl, hb2⟩)
    · exact absurd h0 h1
    · exact ⟨rfl, below_out hb hb2⟩))
  have hFd := fun (W : World) (hb : Below w.heap.size w W) => dfeedb_any hR0 hi0 none none 0 0 0 0 l p n c hn W (by rw [n1]; rfl) (by rw [n2]; rfl) (dk_nil W n1 n2) (ha.next hb) hnl hmr
  have hEn := fun (W : World) (lp tp : Option Addr) (ln lc tn tc : Nat) (hA : DkAt W (fedDK (newX K N m) (newDK K m) l) lp lc tp tc) => dend_any hR1 lp tp ln lc tn tc W hA
  unfold DFedB at hFd
  unfold DEndB at hEn
  obtain ⟨s0, hs0⟩ : ∃ s0, newX K N m = s0 := ⟨_, rfl⟩
  obtain ⟨d0, hd0⟩ : ∃ d0, newDK K m = d0 := ⟨_, rfl⟩
  rw [hs0, hd0] at HNw hFd hEn
  rw [hs0] at hr
  obtain ⟨s1, hs1⟩ : ∃ s1, fedX s0 l = s1 := ⟨_, rfl⟩
  obtain ⟨d1, hd1⟩ : ∃ d1, fedDK s0 d0 l = d1 := ⟨_, rfl⟩
  obtain ⟨X, hX⟩ : ∃ X, saidX s0 l = X := ⟨_, rfl⟩
  obtain ⟨TK, hTK⟩ : ∃ TK, tookX s0 l = TK := ⟨_, rfl⟩
  obtain ⟨M, hM⟩ : ∃ M, X.length = M := ⟨_, rfl⟩
  rw [hs1, hd1, hX, hTK, hM] at hFd
  rw [hs1, hd1] at hEn
  rw [hs1] at hr
  have HW := hid (show wholeX K N m l = (shutX s1).err from by unfold wholeX; rw [if_pos h0, hs0, hs1])
  have HTk := hid (show tookX (newX K N m) l = TK from by rw [hs0]; exact hTK)
  have HSa := hid (show saidX (newX K N m) l = X from by rw [hs0]; exact hX)
  have HM := hid hM
  unfold bdV at HNw hFd hEn
  obtain ⟨T0, hT0⟩ : ∃ T0 : Int, (s0.told : Int) = T0 := ⟨_, rfl⟩
  obtain ⟨E0, hE0⟩ : ∃ E0 : Int, (s0.err : Int) = E0 := ⟨_, rfl⟩
  obtain ⟨D0, hD0⟩ : ∃ D0, s0.done = D0 := ⟨_, rfl⟩
  obtain ⟨T1, hT1⟩ : ∃ T1 : Int, (s1.told : Int) = T1 := ⟨_, rfl⟩
  obtain ⟨E1, hE1⟩ : ∃ E1 : Int, (s1.err : Int) = E1 := ⟨_, rfl⟩
  obtain ⟨D1, hD1⟩ : ∃ D1, s1.done = D1 := ⟨_, rfl⟩
  obtain ⟨T2, hT2⟩ : ∃ T2 : Int, ((shutX s1).told : Int) = T2 := ⟨_, rfl⟩
  obtain ⟨E2, hE2⟩ : ∃ E2 : Int, ((shutX s1).err : Int) = E2 := ⟨_, rfl⟩
  obtain ⟨D2, hD2⟩ : ∃ D2, (shutX s1).done = D2 := ⟨_, rfl⟩
  rw [hT0, hE0, hD0] at HNw hFd
  rw [hT1, hE1, hD1] at hFd hEn
  rw [hT2, hE2, hD2] at hEn
  have HE1 := hid hE1
  have HE2 := hid hE2
  have hq : (E1 != 0) = false := by simp; omega
  have hq2 : (E2 != 0) = true := by simp; omega
  obtain rfl : E1 = 0 := by omega
  have HR := hid hr
  obtain ⟨mo0, le0, st0, e0, di0, si0, mr0, li0, by0, tr0⟩ := d0
  obtain ⟨mo1, le1, st1, e1, di1, si1, mr1, li1, by1, tr1⟩ := d1
  dsimp only at HNw hFd hEn
  have HFd := hid hFd
  have HEn := hid hEn
  clear h9 h0 hn ha hnl hi0 hR0 hi1 hR1 n1 n2 hmr hFd hEn hs0 hd0 hs1 hd1 hX hTK hM hT0 hE0 hD0 hT1 hE1 hD1 hT2 hE2 hD2 hr
  go_enter Tryz.func19, Tryz.ntmps19
  go_wp2_with (first | (go_at_call 6; (with_reducible refine (HNw.out _ HB0.out).mono ?_); rintro e w1 ⟨rfl, hb⟩; have HB1 := hid (below_out hb (below_new w1 (.cells #[.int .i64 K, .int .i64 N, .int .i64 m, .int .i64 T0, .bool D0, .int .i64 E0, .int .i64 (mo0 : Int), .int .i64 (le0 : Int), .int .i64 (st0 : Int), .int .i64 (e0 : Int), .int .i64 (di0 : Int), .int .i64 (si0 : Int), .int .i64 (mr0 : Int), .slice none 0 0, .int .i64 (by0 : Int), .slice none 0 0] 37 (0, 0)))); have HX1 := hid (heap_alloc_new w1 (.cells #[.int .i64 K, .int .i64 N, .int .i64 m, .int .i64 T0, .bool D0, .int .i64 E0, .int .i64 (mo0 : Int), .int .i64 (le0 : Int), .int .i64 (st0 : Int), .int .i64 (e0 : Int), .int .i64 (di0 : Int), .int .i64 (si0 : Int), .int .i64 (mr0 : Int), .slice none 0 0, .int .i64 (by0 : Int), .slice none 0 0] 37 (0, 0))); have HG := hid hb.size; clear hb HNw) | (go_at_call 10; (with_reducible refine (HFd.out _ HB1.out).mono ?_); rintro e w2 ⟨lp, ln, lc, tp, tn, tc, q, dd, rfl, hl1, ht1, hr1, ho1, hb1⟩; have HX2 := hid (blk_nextD HX1.out hb1); have HB2 := hid (below_out HB1.out hb1); have HO2 := hid (own_base ho1 HB1.out.size); have HO3 := hid (show ∀ k, (Value.slice q M dd).ownBlock = some k → w1.heap.size < k from fun k e => Nat.lt_of_lt_of_le (lt_of_heap HX1.out) (own_ge ho1 e)); have HR2 := hid hr1; clear hl1 ht1 hr1 ho1 hb1 HFd HX1) | (refine wpList_store_bd rfl (.tmp 9) (.tmp 28) rfl w1.heap.size (by go_simp) K N m T1 D1 0 (mo1 : Int) (le1 : Int) (st1 : Int) (e1 : Int) (di1 : Int) (si1 : Int) (mr1 : Int) (by1 : Int) lp tp ln tn lc tc (by go_simp) HX2.out ?_; intro V hV hO hZ; have HB3 := hid (show Below w.heap.size w V from HB2.out.trans (hO.below (fun k hk => by have e : k = w1.heap.size := hk; have := HG.out; omega) HB2.out.size)); have HO4 := hid (own_only HO2.out hO (fun k e hk => by have e2 : k = w1.heap.size := hk; have := HO3.out k e; omega)); have HR3 := hid (dk_only HR2.out hO (dk_apart HR2.out (box_free HX2.out).1 (box_free HX2.out).2).1 (dk_apart HR2.out (box_free HX2.out).1 (box_free HX2.out).2).2); obtain ⟨y0, y1, y2, y3, y4, y5, y6, y7, y8, y9, y10, y11, y12, y13, y14, y15, _⟩ := cells16 hV; have HE := hid (HEn.out V lp tp ln lc tn tc HR3.out); clear hV hO hZ HX2 HR2 HEn) | (go_at_call 14; (with_reducible refine HE.out.mono ?_); rintro e w5 ⟨rfl, hr5, hb5⟩; have HB5 := hid (below_out HB3.out hb5); have HO5 := hid (HO4.out.keep hb5); clear hr5 hb5 HE))
  refine bodyPost_ret (results_tmp3x rfl _ _ _) rfl ?_
  exact .inl ⟨by rw [HW.out]; exact HR.out.2, by rw [HW.out, HE2.out]; rfl, below_out HB5.out (below_new _ _)⟩
set_option maxRecDepth 20000 in
set_option maxHeartbeats 16000000 in
theorem dwh_y (K N m : Int) (h9 : m ≤ 9223372036854775807) (l : B) (p : Option Addr) (n c : Nat) (hn : l.length = n) (hnl : n ≤ 140737488351232) (w : World) (ha : ArgAt w p l) (h0 : newE K N m = 0) (hr : (fedX (newX K N m) l).err = 0 ∧ (shutX (fedX (newX K N m) l)).err = 0) : Calls Tryz.prog 19 #[.agg #[.int .i64 K, .int .i64 N], .int .i64 m, .slice p n c] w (DWholeAns K N m l w) := by
  have HB0 := hid (below_new w (frmO K N))
  have hi0 := inv_new h0 h9
  have hR0 := rel_newB h0
  have hi1 := inv_fed hi0 l
  have hR1 := rel_fedB hR0 hi0 l
  obtain ⟨n1, n2⟩ := newDK_nil K m
  have hmr : m = -1 → (newX K N m).kind = 3 → n ≤ (newX K N m).room := by
    intro e1 e3
    have hKz : K.toNat = 3 := e3
    show n ≤ (if K = 1 then N.toNat else if K = 3 then topX m else 0)
    rw [if_neg (by omega), if_pos (by omega)]
    unfold topX
    rw [if_pos e1]
    omega
  have HNw := hid (show ∀ W : World, Below w.heap.size w W → Calls Tryz.prog 6 #[.agg #[.int .i64 K, .int .i64 N], .int .i64 m] W fun e w' => e = .returned (.tuple #[.agg (bdV K N m (newX K N m) (newDK K m) (.slice none 0 0) (.slice none 0 0)), .int .i64 0]) ∧ Below w.heap.size w w' from fun W hb => (dnew_any K N m h9 W).mono (by
    rintro e w' (⟨h1, _⟩ | ⟨_, rfl, hb2⟩)
    · exact absurd h0 h1
    · exact ⟨rfl, below_out hb hb2⟩))
  have hFd := fun (W : World) (hb : Below w.heap.size w W) => dfeedb_any hR0 hi0 none none 0 0 0 0 l p n c hn W (by rw [n1]; rfl) (by rw [n2]; rfl) (dk_nil W n1 n2) (ha.next hb) hnl hmr
  have hEn := fun (W : World) (lp tp : Option Addr) (ln lc tn tc : Nat) (hA : DkAt W (fedDK (newX K N m) (newDK K m) l) lp lc tp tc) => dend_any hR1 lp tp ln lc tn tc W hA
  unfold DFedB at hFd
  unfold DEndB at hEn
  obtain ⟨s0, hs0⟩ : ∃ s0, newX K N m = s0 := ⟨_, rfl⟩
  obtain ⟨d0, hd0⟩ : ∃ d0, newDK K m = d0 := ⟨_, rfl⟩
  rw [hs0, hd0] at HNw hFd hEn
  rw [hs0] at hr
  obtain ⟨s1, hs1⟩ : ∃ s1, fedX s0 l = s1 := ⟨_, rfl⟩
  obtain ⟨d1, hd1⟩ : ∃ d1, fedDK s0 d0 l = d1 := ⟨_, rfl⟩
  obtain ⟨X, hX⟩ : ∃ X, saidX s0 l = X := ⟨_, rfl⟩
  obtain ⟨TK, hTK⟩ : ∃ TK, tookX s0 l = TK := ⟨_, rfl⟩
  obtain ⟨M, hM⟩ : ∃ M, X.length = M := ⟨_, rfl⟩
  rw [hs1, hd1, hX, hTK, hM] at hFd
  rw [hs1, hd1] at hEn
  rw [hs1] at hr
  have HW := hid (show wholeX K N m l = (shutX s1).err from by unfold wholeX; rw [if_pos h0, hs0, hs1])
  have HTk := hid (show tookX (newX K N m) l = TK from by rw [hs0]; exact hTK)
  have HSa := hid (show saidX (newX K N m) l = X from by rw [hs0]; exact hX)
  have HM := hid hM
  unfold bdV at HNw hFd hEn
  obtain ⟨T0, hT0⟩ : ∃ T0 : Int, (s0.told : Int) = T0 := ⟨_, rfl⟩
  obtain ⟨E0, hE0⟩ : ∃ E0 : Int, (s0.err : Int) = E0 := ⟨_, rfl⟩
  obtain ⟨D0, hD0⟩ : ∃ D0, s0.done = D0 := ⟨_, rfl⟩
  obtain ⟨T1, hT1⟩ : ∃ T1 : Int, (s1.told : Int) = T1 := ⟨_, rfl⟩
  obtain ⟨E1, hE1⟩ : ∃ E1 : Int, (s1.err : Int) = E1 := ⟨_, rfl⟩
  obtain ⟨D1, hD1⟩ : ∃ D1, s1.done = D1 := ⟨_, rfl⟩
  obtain ⟨T2, hT2⟩ : ∃ T2 : Int, ((shutX s1).told : Int) = T2 := ⟨_, rfl⟩
  obtain ⟨E2, hE2⟩ : ∃ E2 : Int, ((shutX s1).err : Int) = E2 := ⟨_, rfl⟩
  obtain ⟨D2, hD2⟩ : ∃ D2, (shutX s1).done = D2 := ⟨_, rfl⟩
  rw [hT0, hE0, hD0] at HNw hFd
  rw [hT1, hE1, hD1] at hFd hEn
  rw [hT2, hE2, hD2] at hEn
  have HE1 := hid hE1
  have HE2 := hid hE2
  obtain rfl : E1 = 0 := by omega
  obtain rfl : E2 = 0 := by omega
  have HR := hid hr
  obtain ⟨mo0, le0, st0, e0, di0, si0, mr0, li0, by0, tr0⟩ := d0
  obtain ⟨mo1, le1, st1, e1, di1, si1, mr1, li1, by1, tr1⟩ := d1
  dsimp only at HNw hFd hEn
  have HFd := hid hFd
  have HEn := hid hEn
  clear h9 h0 hn ha hnl hi0 hR0 hi1 hR1 n1 n2 hmr hFd hEn hs0 hd0 hs1 hd1 hX hTK hM hT0 hE0 hD0 hT1 hE1 hD1 hT2 hE2 hD2 hr
  go_enter Tryz.func19, Tryz.ntmps19
  go_wp2_with (first | (go_at_call 6; (with_reducible refine (HNw.out _ HB0.out).mono ?_); rintro e w1 ⟨rfl, hb⟩; have HB1 := hid (below_out hb (below_new w1 (.cells #[.int .i64 K, .int .i64 N, .int .i64 m, .int .i64 T0, .bool D0, .int .i64 E0, .int .i64 (mo0 : Int), .int .i64 (le0 : Int), .int .i64 (st0 : Int), .int .i64 (e0 : Int), .int .i64 (di0 : Int), .int .i64 (si0 : Int), .int .i64 (mr0 : Int), .slice none 0 0, .int .i64 (by0 : Int), .slice none 0 0] 37 (0, 0)))); have HX1 := hid (heap_alloc_new w1 (.cells #[.int .i64 K, .int .i64 N, .int .i64 m, .int .i64 T0, .bool D0, .int .i64 E0, .int .i64 (mo0 : Int), .int .i64 (le0 : Int), .int .i64 (st0 : Int), .int .i64 (e0 : Int), .int .i64 (di0 : Int), .int .i64 (si0 : Int), .int .i64 (mr0 : Int), .slice none 0 0, .int .i64 (by0 : Int), .slice none 0 0] 37 (0, 0))); have HG := hid hb.size; clear hb HNw) | (go_at_call 10; (with_reducible refine (HFd.out _ HB1.out).mono ?_); rintro e w2 ⟨lp, ln, lc, tp, tn, tc, q, dd, rfl, hl1, ht1, hr1, ho1, hb1⟩; have HX2 := hid (blk_nextD HX1.out hb1); have HB2 := hid (below_out HB1.out hb1); have HO2 := hid (own_base ho1 HB1.out.size); have HO3 := hid (show ∀ k, (Value.slice q M dd).ownBlock = some k → w1.heap.size < k from fun k e => Nat.lt_of_lt_of_le (lt_of_heap HX1.out) (own_ge ho1 e)); have HR2 := hid hr1; clear hl1 ht1 hr1 ho1 hb1 HFd HX1) | (refine wpList_store_bd rfl (.tmp 9) (.tmp 28) rfl w1.heap.size (by go_simp) K N m T1 D1 0 (mo1 : Int) (le1 : Int) (st1 : Int) (e1 : Int) (di1 : Int) (si1 : Int) (mr1 : Int) (by1 : Int) lp tp ln tn lc tc (by go_simp) HX2.out ?_; intro V hV hO hZ; have HB3 := hid (show Below w.heap.size w V from HB2.out.trans (hO.below (fun k hk => by have e : k = w1.heap.size := hk; have := HG.out; omega) HB2.out.size)); have HO4 := hid (own_only HO2.out hO (fun k e hk => by have e2 : k = w1.heap.size := hk; have := HO3.out k e; omega)); have HR3 := hid (dk_only HR2.out hO (dk_apart HR2.out (box_free HX2.out).1 (box_free HX2.out).2).1 (dk_apart HR2.out (box_free HX2.out).1 (box_free HX2.out).2).2); obtain ⟨y0, y1, y2, y3, y4, y5, y6, y7, y8, y9, y10, y11, y12, y13, y14, y15, _⟩ := cells16 hV; have HE := hid (HEn.out V lp tp ln lc tn tc HR3.out); clear hV hO hZ HX2 HR2 HEn) | (go_at_call 14; (with_reducible refine HE.out.mono ?_); rintro e w5 ⟨rfl, hr5, hb5⟩; have HB5 := hid (below_out HB3.out hb5); have HO5 := hid (HO4.out.keep hb5); clear hr5 hb5 HE))
  refine bodyPost_ret (results_tmp3x rfl _ _ _) rfl ?_
  refine .inr ⟨by rw [HW.out]; exact HR.out.2, q, dd, by rw [HTk.out, HSa.out, HM.out]; rfl, ?_, below_out HB5.out (below_new _ _)⟩
  rw [HSa.out, HM.out]
  exact HO5.out.keep (below_new _ _)
theorem dwhole_any (K N m : Int) (h9 : m ≤ 9223372036854775807) (l : B) (p : Option Addr) (n c : Nat) (hn : l.length = n) (hnl : n ≤ 140737488351232) (w : World) (ha : ArgAt w p l) : Calls Tryz.prog 19 #[.agg #[.int .i64 K, .int .i64 N], .int .i64 m, .slice p n c] w (DWholeAns K N m l w) := by
  by_cases h0 : newE K N m = 0
  · by_cases h1 : (fedX (newX K N m) l).err = 0
    · by_cases h2 : (shutX (fedX (newX K N m) l)).err = 0
      · exact dwh_y K N m h9 l p n c hn hnl w ha h0 ⟨h1, h2⟩
      · exact dwh_e K N m h9 l p n c hn hnl w ha h0 ⟨h1, h2⟩
    · exact dwh_f K N m h9 l p n c hn hnl w ha h0 h1
  · exact dwh_no K N m h9 l p n c w h0
end Go.Proofs.YtllbdpiihiohoaaGreatDoor
