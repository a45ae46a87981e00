/- Fields that frame a body so, where the fields may be as great as memory lets. -/
import Derived.Test.YthakldcfpndabaaDoorFWide
namespace Go.Proofs.YthakldcfpndabaaDoor
open Go.RowKit

set_option maxRecDepth 20000 in
set_option maxHeartbeats 8000000 in
theorem frames_anyW (N : ByteArray) (w : World) (hN : N.size ≤ 140737488351232) : Calls Tryd.prog 70 #[.string N] w fun e w' => e = .returned (.bool (frB N)) ∧ Below w.heap.size w w' := by
  have HS1 := hid (show ∀ W : World, _ from fun W => same_belV N clN W hN (by decide))
  have HS2 := hid (show ∀ W : World, _ from fun W => same_belV N teN W hN (by decide))
  unfold frB
  obtain ⟨a, ha⟩ : ∃ a, sameB N clN = a := ⟨_, rfl⟩
  obtain ⟨b, hb⟩ : ∃ b, sameB N teN = b := ⟨_, rfl⟩
  rw [ha] at HS1
  rw [hb] at HS2
  rw [ha, hb]
  unfold clN at HS1
  unfold teN at HS2
  clear ha hb
  cases a with
  | true =>
    go_enter Tryd.func70, Tryd.ntmps70
    go_wp2_with (go_at_call 58; (with_reducible refine (HS1.out _).mono ?_); rintro e w1 ⟨rfl, hb⟩; have HB1 := hid hb; clear hb HS1)
    go_ret
    exact ⟨rfl, HB1.out⟩
  | false =>
    go_enter Tryd.func70, Tryd.ntmps70
    go_wp2_with (first | (go_at_call 58; (with_reducible refine (HS1.out _).mono ?_); rintro e w1 ⟨rfl, hb⟩; have HB1 := hid hb; clear hb HS1) | (go_at_call 58; (with_reducible refine (HS2.out _).mono ?_); rintro e w2 ⟨rfl, hb⟩; have HB2 := hid (below_out HB1.out hb); clear hb HS2))
    go_ret
    exact ⟨rfl, HB2.out⟩
set_option maxRecDepth 20000 in
set_option maxHeartbeats 8000000 in
theorem unframed_anyW (fs : List (B × B)) (p : Option Addr) (n c : Nat) (hn : fs.length = n) (w : World) (hF : FAt w p fs) (hsz : szV fs) (hnn : n + 1 ≤ 4398046511104) :
    Calls Tryd.prog 49 #[.slice p n c] w fun e w' => ∃ v, e = .returned v ∧ OwnF w' w.heap.size v (unfF fs) ∧ Below w.heap.size w w' := by
  obtain ⟨i0, hi0, hz0, hz1, hz2⟩ := info_parts infoF
  have HF := hid hF
  have HN := hid hn
  have HZ := hid hsz
  clear hF hn hsz
  go_enter Tryd.func49, Tryd.ntmps49
  go_wp2
  go_loopg [3, 8] (n + 1) (fun gk s3 s8 wr => ∃ (i : Nat) (q : Option Addr) (m d : Nat), s3 = .slice q m d ∧ s8 = .int .i64 (i : Int) ∧ i ≤ n ∧ gk = n - i + 1 ∧ m = (unfF (fs.take i)).length ∧ OwnF wr w.heap.size (.slice q m d) (unfF (fs.take i)) ∧ Below w.heap.size w wr)
  case atStart => exact ⟨0, none, 0, 0, rfl, rfl, by omega, rfl, rfl, OwnF.nil _ _, Below.refl _ _⟩
  case round =>
    obtain ⟨i, q, m, d, rfl, rfl, hin, rfl, hm, ho, hb⟩ := hrel
    rename World => wr
    have hmi := unf_take fs i
    rw [← hm] at hmi
    have HB := hid hb
    have HO := hid ho
    have HM := hid hm
    clear hb ho hm
    by_cases hlt : i < n
    · obtain ⟨f, hf⟩ : ∃ f, fs[i]? = some f := ⟨fs[i]'(by rw [HN.out]; exact hlt), List.getElem?_eq_getElem (by rw [HN.out]; exact hlt)⟩
      obtain ⟨g, o, hp, c0, c1⟩ := (HF.out.next HB.out) i f hf
      subst hp
      have hltI : (i : Int) < (n : Int) := by omega
      obtain ⟨z1, z2⟩ := HZ.out f (List.mem_of_getElem? hf)
      have HFr := hid (show ∀ W : World, _ from fun W => frames_anyW (str f.1) W (by rw [str_size]; omega))
      have HC1 := hid (show ∀ W : World, _ from fun W => clone_any (str f.1) W (by rw [str_size]; omega))
      have HC2 := hid (show ∀ W : World, _ from fun W => clone_any (str f.2) W (by rw [str_size]; omega))
      cases hS : frB (str f.1) with
      | true =>
        have HY := hid (unf_yes hf hS)
        rw [hS] at HFr
        obtain ⟨N, hN⟩ : ∃ N, str f.1 = N := ⟨_, rfl⟩
        obtain ⟨V, hV⟩ : ∃ V, str f.2 = V := ⟨_, rfl⟩
        rw [hN] at c0 HFr
        rw [hV] at c1
        clear hf hS hN hV HC1 HC2
        go_wp2_with (first | (go_at_call 70; (with_reducible refine (HFr.out _).mono ?_); rintro e w2 ⟨rfl, hb⟩; have hbx := below_new wr (.cells #[.string N, .string V] 25 (0, 0)); have HB2 := hid (below_out (below_out HB.out hbx) hb); have HO2 := hid ((HO.out.keep hbx).keep hb); clear hb hbx HFr))
        go_roundg (n - (i + 1) + 1)
        case measure => omega
        case rel => exact ⟨i + 1, q, m, d, rfl, by go_num, by omega, rfl, (by rw [HY.out]; exact HM.out), (by rw [HY.out]; exact HO2.out), HB2.out⟩
      | false =>
        have HY := hid (unf_no hf hS)
        rw [hS] at HFr
        obtain ⟨N, hN⟩ : ∃ N, str f.1 = N := ⟨_, rfl⟩
        obtain ⟨V, hV⟩ : ∃ V, str f.2 = V := ⟨_, rfl⟩
        rw [hN] at c0 HFr HC1
        rw [hV] at c1 HC2
        have HNN := hid hN
        have HVV := hid hV
        clear hf hS hN hV
        go_wp2_with (first | (go_at_call 70; (with_reducible refine (HFr.out _).mono ?_); rintro e w2 ⟨rfl, hb⟩; have hbx := below_new wr (.cells #[.string N, .string V] 25 (0, 0)); have HB2 := hid (below_out (below_out HB.out hbx) hb); have HO2 := hid ((HO.out.keep hbx).keep hb); obtain ⟨y0, y1⟩ := box2 ((hb.block _ (lt_of_heap (heap_alloc_new wr (.cells #[.string N, .string V] 25 (0, 0))))).trans (heap_alloc_new wr (.cells #[.string N, .string V] 25 (0, 0)))); clear hb hbx HFr))
        have hS0 : RdB w2.drew wr.heap.size N V := ⟨y0, y1⟩
        have HB0 := hid (show Below w.heap.size w w2.drew from HB2.out.drew)
        have HO0 := hid (show OwnF w2.drew w.heap.size (.slice q m d) (unfF (fs.take i)) from HO2.out.keep ⟨rfl, rfl, rfl, Nat.le_refl _, fun _ _ => rfl⟩)
        clear y0 y1 c0 c1
        refine wp_region_noPanic ?_
        refine any_begin 11 (by kernel_rfl) (by kernel_rfl) ?_
        refine late_begin (fun U => RdB U wr.heap.size N V) (fun _ => false) hS0 (fun hS => ?_)
        refine late_take (i := 0) (some 16) rfl rfl (by kernel_rfl) (by kernel_rfl) (by kernel_rfl) (by kernel_rfl) (by kernel_rfl) (fun _ _ _ h => h) (by rfl) (v := ?v0u) ?hy0u hS ?rest0u
        case hy0u => intro w0 hSw; obtain ⟨a0, a1⟩ := hSw; go_simp; try with_reducible rfl
        simp only [Act.put, List.setIfInBounds_toArray, List.set_cons_zero, List.set_cons_succ]
        refine late_take (i := 1) (some 17) rfl rfl (by kernel_rfl) (by kernel_rfl) (by kernel_rfl) (by kernel_rfl) (by kernel_rfl) (fun _ _ _ h => h) (by rfl) (v := ?v1u) ?hy1u hS ?rest1u
        case hy1u => intro w0 hSw; obtain ⟨a0, a1⟩ := hSw; go_simp; try with_reducible rfl
        simp only [Act.put, List.setIfInBounds_toArray, List.set_cons_zero, List.set_cons_succ]
        refine late_take (i := 2) (some 18) rfl rfl (by kernel_rfl) (by kernel_rfl) (by kernel_rfl) (by kernel_rfl) (by kernel_rfl) (fun _ _ _ h => h) (by rfl) (v := ?v2u) ?hy2u hS ?rest2u
        case hy2u => intro w0 hSw; obtain ⟨a0, a1⟩ := hSw; go_simp; try with_reducible rfl
        simp only [Act.put, List.setIfInBounds_toArray, List.set_cons_zero, List.set_cons_succ]
        refine late_take (i := 4) (some 20) rfl rfl (by kernel_rfl) (by kernel_rfl) (by kernel_rfl) (by kernel_rfl) (by kernel_rfl) (fun _ _ _ h => h) (by rfl) (v := ?v4u) ?hy4u hS ?rest4u
        case hy4u => intro w0 hSw; obtain ⟨a0, a1⟩ := hSw; go_simp; try with_reducible rfl
        simp only [Act.put, List.setIfInBounds_toArray, List.set_cons_zero, List.set_cons_succ]
        refine late_take (i := 5) (some 21) rfl rfl (by kernel_rfl) (by kernel_rfl) (by kernel_rfl) (by kernel_rfl) (by kernel_rfl) (fun _ _ _ h => h) (by rfl) (v := ?v5u) ?hy5u hS ?rest5u
        case hy5u => intro w0 hSw; obtain ⟨a0, a1⟩ := hSw; go_simp; try with_reducible rfl
        simp only [Act.put, List.setIfInBounds_toArray, List.set_cons_zero, List.set_cons_succ]
        refine wpAnyD_one (i := 3) (by kernel_rfl) rfl (fun K hK => ?_)
        go_simp
        go_at_call 34
        refine (HC1.out _).mono ?_
        rintro e w3 ⟨rfl, hb⟩
        have HB3 := hid (below_out HB0.out hb)
        have HO3 := hid (HO0.out.keep hb)
        have hS3 := hS.next hb
        refine hK _ _ ⟨fun _ => hS3, ?_⟩
        clear hK K hb hS hS0 HC1
        refine wpAnyD_one (i := 6) (by kernel_rfl) rfl (fun K hK => ?_)
        go_simp
        go_at_call 34
        refine (HC2.out _).mono ?_
        rintro e w4 ⟨rfl, hb⟩
        have HB4 := hid (below_out HB3.out hb)
        have HO4 := hid (HO3.out.keep hb)
        have hS4 := hS3.next hb
        refine hK _ _ ⟨fun _ => hS4, ?_⟩
        clear hK K hb hS3 HC2
        refine late_take (i := 7) (some 23) rfl rfl (by kernel_rfl) (by kernel_rfl) (by kernel_rfl) (by kernel_rfl) (by kernel_rfl) (fun _ _ _ h => h) (by rfl) (v := ?v7u) ?hy7u hS4 ?rest7u
        case hy7u => intro w0 hSw; obtain ⟨a0, a1⟩ := hSw; go_simp; try with_reducible rfl
        simp only [Act.put, List.setIfInBounds_toArray, List.set_cons_zero, List.set_cons_succ]
        refine wpAnyD_one (i := 8) (by kernel_rfl) rfl (fun K hK => ?_)
        go_simp
        have hb5 := below_new w4 (.cells #[.string N, .string V] 25 (0, 0))
        have HB5 := hid (below_out HB4.out hb5)
        have HO5 := hid (HO4.out.keep hb5)
        have HC5 := hid (cells_new w4 [.string N, .string V] 25)
        have hS5 := hS4.next hb5
        refine hK _ _ ⟨fun _ => hS5, ?_⟩
        clear hK K hb5 hS4
        refine wpAnyD_one (i := 9) (by kernel_rfl) rfl (fun K hK => ?_)
        rw [if_pos (by rfl)]
        refine wp_append_own_at (.tmp 16) (.tmp 24) 22 rfl w.heap.size 25 i0 _ 2 32 Tryd.underlying22 hi0 hz0 hz1 hz2 rfl (by decide) (.slice q m d) m (fldC (unfF (fs.take i))) (by go_simp) (by have h9 := HO5.out; unfold OwnF at h9; rw [← HM.out] at h9; exact h9) ⟨w4.heap.size, 0, none⟩ 1 1 [.string N, .string V] (by go_simp) rfl (HC5.out) (by simp [Value.oneCell']) (by unfold maxLen; omega) (by omega) HB5.out.size ?_
        intro v' w6 hown hgr _
        have HB6 := hid (HB5.out.trans (OwnF.below HO5.out HB5.out.size hgr))
        obtain ⟨q6, c6, rfl⟩ := own_slice hown
        have HO6 := hid (show OwnF w6 w.heap.size (.slice q6 (m + 1) c6) (unfF (fs.take (i + 1))) from by rw [HY.out]; exact OwnF.appd HM.out HNN.out HVV.out hown)
        have hS6 : RdB w6 wr.heap.size N V := by
          have hblk := hgr.block wr.heap.size (lt_of_cell hS5.a0) (fun e => by have := (World.ownsRow.lt HO.out wr.heap.size e.symm).2; omega)
          exact ⟨by have h := hS5.a0; unfold World.cell? at h ⊢; rw [hblk]; exact h, by have h := hS5.a1; unfold World.cell? at h ⊢; rw [hblk]; exact h⟩
        clear hown hgr
        show K (Act.put _ (some 25) _) _
        refine hK _ _ ⟨fun _ => hS6, ?_⟩
        clear hK K hS5
        simp only [Act.put, List.setIfInBounds_toArray, List.set_cons_zero, List.set_cons_succ]
        refine late_take (i := 10) (some 3) rfl rfl (by kernel_rfl) (by kernel_rfl) (by kernel_rfl) (by kernel_rfl) (by kernel_rfl) (fun _ _ _ h => h) (by rfl) (v := ?v10u) ?hy10u hS6 ?rest10u
        case hy10u => intro w0 hSw; obtain ⟨a0, a1⟩ := hSw; go_simp; try with_reducible rfl
        simp only [Act.put, List.setIfInBounds_toArray, List.set_cons_zero, List.set_cons_succ]
        refine late_done (by kernel_rfl) ?_ _
        refine NoPanic.normal ?_
        go_wp2
        go_roundg (n - (i + 1) + 1)
        case measure => omega
        case rel => exact ⟨i + 1, q6, m + 1, c6, rfl, by go_num, by omega, rfl, (by rw [HY.out, List.length_append, ← HM.out]; rfl), HO6.out, HB6.out⟩
    · obtain rfl : i = n := by omega
      have hltI : ¬ (i : Int) < (i : Int) := by omega
      have HT := hid (show fs.take i = fs from List.take_of_length_le (by rw [HN.out]; exact Nat.le_refl _))
      clear hlt
      go_wp2
      go_ret
      exact ⟨_, rfl, by have h9 := HO.out; rw [HT.out] at h9; exact h9, HB.out⟩
set_option maxRecDepth 20000 in
set_option maxHeartbeats 8000000 in
theorem pfieldsW (fs : List (B × B)) (p : Option Addr) (n c : Nat) (hn : fs.length = n) (K N : Int) (w : World) (hF : FAt w p fs) (hsz : szV fs) (hnn : n + 1 ≤ 4398046511104) (hE : EnvP w) :
    Calls Tryd.prog 22 #[.slice p n c, .agg #[.int .i64 K, .int .i64 N]] w fun e w' => ∃ v, e = .returned (.tuple #[v, errOf (fldF fs K N).2]) ∧ OwnF w' w.heap.size v (fldF fs K N).1 ∧ Below w.heap.size w w' := by
  obtain ⟨i0, hi0, hz0, hz1, hz2⟩ := info_parts infoF
  have HMa := hid (show ∀ W : World, _ from fun W => mayf_any K N W)
  have HU := hid (show ∀ W : World, Below w.heap.size w W → _ from fun W hb => unframed_anyW fs p n c hn W (hF.next hb) hsz hnn)
  have HEv := hid hE
  have HX0 := hid (heap_alloc_new w (frmO K N))
  have HB0 := hid (below_new w (frmO K N))
  have hul : (unfF fs).length + 1 ≤ 4398046511104 := Nat.le_trans (Nat.succ_le_succ (unf_le fs)) (by omega)
  obtain ⟨m, hm⟩ : ∃ m, (unfF fs).length = m := ⟨_, rfl⟩
  rw [hm] at hul
  have HMl := hid hm
  obtain ⟨R, hR⟩ : ∃ R, fldF fs K N = R := ⟨_, rfl⟩
  rw [hR]
  have HR := hid hR
  clear hF hn hsz hE hm hR
  cases hok : okFr K N with
  | false =>
    have HX := hid (show R = ([], 1) from by rw [← HR.out]; unfold fldF; rw [if_neg (by rw [hok]; decide)])
    rw [HX.out]
    rw [hok] at HMa
    clear hok
    go_enter Tryd.func22, Tryd.ntmps22
    go_wp2_with (go_at_call 48; (with_reducible refine (HMa.out _).mono ?_); rintro e w1 ⟨rfl, hb⟩; have HB1 := hid (below_out HB0.out hb); clear hb HMa)
    go_ret2
    exact ⟨_, rfl, OwnF.nil _ _, HB1.out⟩
  | true =>
    have HOk := hid (of_decide_eq_true hok)
    have HX := hid (show R = (unfF fs ++ addF K N, 0) from by rw [← HR.out]; unfold fldF; rw [if_pos hok])
    rw [HX.out, show errOf (unfF fs ++ addF K N, 0).2 = .nilIface from rfl]
    rw [hok] at HMa
    clear hok
    by_cases k1 : K = 1
    · subst k1
      have hN0 : (0 : Int) ≤ N := HOk.out.2.2.1
      have hNM : N ≤ 1099511627776 := HOk.out.2.2.2.1
      obtain ⟨t, ht⟩ : ∃ t : Nat, N = (t : Int) := ⟨N.toNat, by omega⟩
      have htk : t ≤ 9223372036854775807 := by omega
      have HTk := hid htk
      subst ht
      have HTx := hid (show ∀ W : World, Below w.heap.size w W → _ from fun W hb => text_any t (Nat.lt_succ_of_le HTk.out) W (HEv.out.next hb))
      have HAd := hid (show addF 1 (t : Int) = [(clB, told 10 t)] from rfl)
      obtain ⟨V, hV⟩ : ∃ V, str (told 10 t) = V := ⟨_, rfl⟩
      rw [hV] at HTx
      have HVV := hid hV
      clear htk hN0 hNM hV
      go_enter Tryd.func22, Tryd.ntmps22
      go_wp2_with (first | (go_at_call 48; (with_reducible refine (HMa.out _).mono ?_); rintro e w1 ⟨rfl, hb⟩; have HB1 := hid (below_out HB0.out hb); have HX1 := hid (blk_next HX0.out hb); clear hb HMa) | (go_at_call 49; (with_reducible refine (HU.out _ HB1.out).mono ?_); rintro e w2 ⟨v, rfl, ho, hb⟩; obtain ⟨q, d, rfl⟩ : ∃ q d, v = .slice q m d := (by have h9 := own_slice ho; rw [HMl.out] at h9; exact h9); have HB2 := hid (below_out HB1.out hb); have HO2 := hid (ho.lowerF HB1.out.size); obtain ⟨y0, y1, _, _⟩ := cells2 (blk_next HX1.out hb); clear hb ho HU) | (go_at_call 50; (with_reducible refine (HTx.out _ HB2.out).mono ?_); rintro e w3 ⟨rfl, hb⟩; have HB3 := hid (below_out HB2.out hb); have HO3 := hid (HO2.out.keep hb); clear hb HTx) | (at_builtin; refine wpList_append_own_at _ rfl (.tmp 17) (.tmp 22) 22 rfl w.heap.size 25 i0 _ 2 32 Tryd.underlying22 hi0 hz0 hz1 hz2 rfl (by decide) (.slice q m d) m (fldC (unfF fs)) (by go_simp) (by have h9 := HO3.out.alloc (.cells #[.string ⟨#[67, 111, 110, 116, 101, 110, 116, 45, 76, 101, 110, 103, 116, 104]⟩, .string V] 25 (0, 0)); unfold OwnF at h9; rw [HMl.out] at h9; exact h9) ⟨w3.heap.size, 0, none⟩ 1 1 [.string ⟨#[67, 111, 110, 116, 101, 110, 116, 45, 76, 101, 110, 103, 116, 104]⟩, .string V] (by go_simp) rfl (cells_new w3 _ _) (by simp [Value.oneCell']) (by unfold maxLen; omega) (by omega) (Nat.le_trans HB3.out.size (below_new _ _).size) ?_; intro v' w9 hown' hgrow _ _; have HB9 := hid (app_belowL HB3.out HO3.out hgrow); obtain ⟨q', d', rfl⟩ := own_slice hown'; have HO9 := hid hown'; clear hown' hgrow))
      (try simp only [Exit.inBlock, Exit.then])
      go_ret2
      exact ⟨_, rfl, by rw [HAd.out]; exact OwnF.appd HMl.out.symm clB_str HVV.out HO9.out, HB9.out⟩
    by_cases k2 : K = 2
    · subst k2
      have HAd := hid (show addF 2 N = [(teB, chB)] from rfl)
      go_enter Tryd.func22, Tryd.ntmps22
      go_wp2_with (first | (go_at_call 48; (with_reducible refine (HMa.out _).mono ?_); rintro e w1 ⟨rfl, hb⟩; have HB1 := hid (below_out HB0.out hb); have HX1 := hid (blk_next HX0.out hb); clear hb HMa) | (go_at_call 49; (with_reducible refine (HU.out _ HB1.out).mono ?_); rintro e w2 ⟨v, rfl, ho, hb⟩; obtain ⟨q, d, rfl⟩ : ∃ q d, v = .slice q m d := (by have h9 := own_slice ho; rw [HMl.out] at h9; exact h9); have HB2 := hid (below_out HB1.out hb); have HO2 := hid (ho.lowerF HB1.out.size); obtain ⟨y0, y1, _, _⟩ := cells2 (blk_next HX1.out hb); clear hb ho HU) | (at_builtin; refine wpList_append_own_at _ rfl (.tmp 26) (.tmp 28) 22 rfl w.heap.size 25 i0 _ 2 32 Tryd.underlying22 hi0 hz0 hz1 hz2 rfl (by decide) (.slice q m d) m (fldC (unfF fs)) (by go_simp) (by have h9 := HO2.out.alloc (.cells #[.string ⟨#[84, 114, 97, 110, 115, 102, 101, 114, 45, 69, 110, 99, 111, 100, 105, 110, 103]⟩, .string ⟨#[99, 104, 117, 110, 107, 101, 100]⟩] 25 (0, 0)); unfold OwnF at h9; rw [HMl.out] at h9; exact h9) ⟨w2.heap.size, 0, none⟩ 1 1 [.string ⟨#[84, 114, 97, 110, 115, 102, 101, 114, 45, 69, 110, 99, 111, 100, 105, 110, 103]⟩, .string ⟨#[99, 104, 117, 110, 107, 101, 100]⟩] (by go_simp) rfl (cells_new w2 _ _) (by simp [Value.oneCell']) (by unfold maxLen; omega) (by omega) (Nat.le_trans HB2.out.size (below_new _ _).size) ?_; intro v' w9 hown' hgrow _ _; have HB9 := hid (app_belowL HB2.out HO2.out hgrow); obtain ⟨q', d', rfl⟩ := own_slice hown'; have HO9 := hid hown'; clear hown' hgrow))
      (try simp only [Exit.inBlock, Exit.then])
      go_ret2
      exact ⟨_, rfl, by rw [HAd.out]; exact OwnF.appd HMl.out.symm teB_str rfl HO9.out, HB9.out⟩
    have j1 : (K == 1) = false := by simpa using k1
    have j2 : (K == 2) = false := by simpa using k2
    have HAd := hid (show addF K N = [] from by unfold addF; rw [if_neg k1, if_neg k2])
    go_enter Tryd.func22, Tryd.ntmps22
    go_wp2_with (first | (go_at_call 48; (with_reducible refine (HMa.out _).mono ?_); rintro e w1 ⟨rfl, hb⟩; have HB1 := hid (below_out HB0.out hb); have HX1 := hid (blk_next HX0.out hb); clear hb HMa) | (go_at_call 49; (with_reducible refine (HU.out _ HB1.out).mono ?_); rintro e w2 ⟨v, rfl, ho, hb⟩; obtain ⟨q, d, rfl⟩ : ∃ q d, v = .slice q m d := (by have h9 := own_slice ho; rw [HMl.out] at h9; exact h9); have HB2 := hid (below_out HB1.out hb); have HO2 := hid (ho.lowerF HB1.out.size); obtain ⟨y0, y1, _, _⟩ := cells2 (blk_next HX1.out hb); clear hb ho HU))
    (try simp only [Exit.inBlock, Exit.then])
    go_ret2
    exact ⟨_, rfl, by rw [HAd.out, List.append_nil]; exact HO2.out, HB2.out⟩
end Go.Proofs.YthakldcfpndabaaDoor
