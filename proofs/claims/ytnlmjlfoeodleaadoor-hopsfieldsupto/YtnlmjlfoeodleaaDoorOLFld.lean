/- The law of fields from hop to hop. -/
import Derived.Test.YtnlmjlfoeodleaaDoorOWork
namespace Go.Proofs.YtnlmjlfoeodleaaDoor
open Go.RowKit

structure RdFr (U : World) (g : Nat) (K L : Int) : Prop where
  a0 : U.cell? ⟨g, 0, none⟩ = some (.int .i64 K)
  a1 : U.cell? ⟨g, 1, none⟩ = some (.int .i64 L)
theorem RdFr.next {U V : World} {g : Nat} {K L : Int} (h : RdFr U g K L) (hb : Below U.heap.size U V) : RdFr V g K L := ⟨cell_keep hb h.a0, cell_keep hb h.a1⟩
theorem own_args {W : World} {b n d : Nat} {q : Option Addr} {fs : List (B × B)} (h : OwnF W b (.slice q n d) fs) : n ≤ d ∧ (q = none → d = 0) ∧ ∀ ad, q = some ad → ad.spot = none := by
  rcases h.2 with ⟨h1, _⟩ | ⟨g, cap, cur, h1, _, _, h4, _⟩
  · cases h1
    exact ⟨Nat.le_refl _, fun _ => rfl, fun ad e => by cases e⟩
  · cases h1
    exact ⟨h4, fun e => (by cases e), fun ad e => (by cases e; rfl)⟩
/-- What the law carries along. -/
structure LFd (w W : World) (K L : Int) (q : Option Addr) (n d : Nat) (fs : List (B × B)) : Prop where
  low : Below w.heap.size w W
  rd : RdFr W w.heap.size K L
  own : OwnF W (w.heap.size + 1) (.slice q n d) fs
theorem LFd.next {w W W' : World} {K L : Int} {q : Option Addr} {n d : Nat} {fs : List (B × B)} (h : LFd w W K L q n d fs) (hb : Below W.heap.size W W') : LFd w W' K L q n d fs := ⟨below_out h.low hb, h.rd.next hb, h.own.keep hb⟩
structure RdNm (U : World) (g o g' o' : Nat) (Y : ByteArray) : Prop where
  a0 : U.cell? ⟨g, o, none⟩ = some (.string Y)
  b0 : U.cell? ⟨g', o', none⟩ = some (.string Y)
set_option maxRecDepth 20000 in
set_option maxHeartbeats 4000000 in
theorem hfields_few (K L : Int) (p : Option Addr) (n c : Nat) (cl : ByteArray) (w : World) (hE : EnvP w) (hmx : ∃ m : Int, w.cell? ⟨1, 0, none⟩ = some (.int .i64 m)) (hnn : 500 < n) :
    Calls Tryd.prog 3 #[.slice p n c, .agg #[.int .i64 K, .int .i64 L], .string cl] w fun e w' => e = .returned (.bool true) ∧ Below w.heap.size w w' := by
  have hb0 := below_new w (.cells #[.int .i64 K, .int .i64 L] 24 (0, 0))
  have HB0 := hid hb0
  have HWk := hid (works14 _ (hE.next hb0) (hmx.elim fun m h => ⟨m, cell_keep hb0 h⟩))
  have h5 : (n : Int) > 500 := by omega
  clear hb0 hE hmx
  go_enter Tryd.func3, Tryd.ntmps3
  go_wp2_with (go_at_call 5; (with_reducible refine HWk.out.mono ?_); rintro e w1 ⟨rfl, hb⟩; have HB1 := hid (below_out HB0.out hb); clear hb HWk)
  go_ret
  exact ⟨rfl, HB1.out⟩
set_option maxRecDepth 20000 in
set_option maxHeartbeats 32000000 in
theorem hfields (K L : Int) (fs : List (B × B)) (p : Option Addr) (n c : Nat) (hn : fs.length = n) (hc0 : p = none → c = 0) (cl : B) (w : World) (hF : FAt w p fs) (hsz : szN fs) (hcl : cl.length ≤ 1048576) (hL0 : -9223372036854775808 ≤ L) (hL1 : L ≤ 9223372036854775807) (hE : EnvP w) (hmx : ∃ m : Int, w.cell? ⟨1, 0, none⟩ = some (.int .i64 m)) (hnn : n ≤ 500) :
    Calls Tryd.prog 3 #[.slice p n c, .agg #[.int .i64 K, .int .i64 L], .string (str cl)] w fun e w' => e = .returned (.bool true) ∧ Below w.heap.size w w' := by
  have hw : szW fs := szC_W (C := 1048576) hsz (by decide)
  have hvz : ∀ f ∈ fs, f.2.length ≤ 35184372088832 := fun f hf => Nat.le_trans (hsz f hf).2 (by decide)
  have hcz : cl.length ≤ 35184372088832 := Nat.le_trans hcl (by decide)
  have HTw := hid (show ∀ W : World, Below w.heap.size w W → _ from fun W hb => twin14 fs p n c hn W (hF.next hb) (by omega))
  have HMx := hid (fun (W : World) (hb : Below w.heap.size w W) => show ∃ m : Int, W.cell? ⟨1, 0, none⟩ = some (.int .i64 m) from hmx.elim fun m h => ⟨m, cell_keep hb h⟩)
  have HN1 := hid (fun (W : World) (q : Option Addr) (d : Nat) (h : LFd w W K L q n d fs) => pNamed fs q n d hn W h.own.fat hsz (by omega) (HMx.out W h.low))
  have HN2 := hid (fun (W : World) (hb : Below w.heap.size w W) => dNamed fs p n c hn W (hF.next hb) hsz (by omega))
  have HS1 := hid (fun (W : World) (q : Option Addr) (d : Nat) (h : LFd w W K L q n d fs) => pstrip fs q n d hn W h.own.fat hsz (by omega) (HMx.out W h.low))
  have HS2 := hid (fun (W : World) (hb : Below w.heap.size w W) => dstrip fs p n c hn W (hF.next hb) hsz (by omega))
  have HF1 := hid (fun (W : World) (q : Option Addr) (d : Nat) (h : LFd w W K L q n d fs) => pframing fs K L q n d hn W h.own.fat hw (by omega) hL0 hL1 (hE.next h.low))
  have HF2 := hid (fun (W : World) (hb : Below w.heap.size w W) => dframing fs K L p n c hn W (hF.next hb) hw (by omega) hL0 hL1)
  have HV1 := hid (fun (W : World) (q : Option Addr) (d : Nat) (h : LFd w W K L q n d fs) => pvia fs L q n d hn (own_args h.own).1 (own_args h.own).2.1 (own_args h.own).2.2 W h.own.fat hw (by omega) (hE.next h.low))
  have HV2 := hid (fun (W : World) (hb : Below w.heap.size w W) => dvia fs L p n c hn hc0 W (hF.next hb) (by omega))
  have HW1 := hid (fun (W : World) (q : Option Addr) (d : Nat) (h : LFd w W K L q n d fs) => pforwarded fs cl q n d hn (own_args h.own).1 (own_args h.own).2.1 (own_args h.own).2.2 W h.own.fat hw (by omega) hcz hvz)
  have HW2 := hid (fun (W : World) (hb : Below w.heap.size w W) => dforwarded fs cl p n c hn hc0 W (hF.next hb) hw (by omega) hcz hvz)
  have HSm := hid (fun (W : World) (X : List (B × B)) (p p' : Option Addr) (s c c' : Nat) (hs : X.length = s) (h : FAt W p X) (h' : FAt W p' X) (hz : s ≤ 1000) => fields14 X p p' s c c' hs W h h' (Nat.le_trans hz (by decide)))
  have HWk := hid (fun (W : World) (hb : Below w.heap.size w W) => works14 W (hE.next hb) (HMx.out W hb))
  have HF0 := hid hF
  have HNn := hid hn
  obtain ⟨NS, hNS⟩ : ∃ X, namF [] fs = X := ⟨_, rfl⟩
  have hnl : NS.length ≤ 2000000000 := by rw [← hNS]; exact namF_most fs hsz (by omega)
  obtain ⟨nk, hnk⟩ : ∃ k, NS.length = k := ⟨_, rfl⟩
  rw [hnk] at hnl
  have HNk := hid hnk
  obtain ⟨XS, hXS⟩ : ∃ X, stripF fs = X := ⟨_, rfl⟩
  have HlS := hid (show XS.length ≤ 1000 from by rw [← hXS]; exact Nat.le_trans (stripF_le _) (by omega))
  obtain ⟨XF, hXF⟩ : ∃ X, framF fs K L = X := ⟨_, rfl⟩
  have HlF := hid (show XF.length ≤ 1000 from by
    rw [← hXF]
    unfold framF
    rw [List.length_append]
    have h1 := bareF_len fs
    have h2 : (frmA K L).length ≤ 1 := by unfold frmA; split <;> (try split) <;> simp
    omega)
  obtain ⟨XV, hXV⟩ : ∃ X, viaF fs L = X := ⟨_, rfl⟩
  have HlV := hid (show XV.length = n + 1 from by rw [← hXV]; unfold viaF; rw [List.length_append, hn]; rfl)
  obtain ⟨XW, hXW⟩ : ∃ X, fwdF fs cl = X := ⟨_, rfl⟩
  have HlW := hid (show XW.length ≤ 1000 from by rw [← hXW]; exact Nat.le_trans (fwdF_len fs cl) (by omega))
  rw [hNS] at HN1 HN2
  rw [hXS] at HS1 HS2
  rw [hXF] at HF1 HF2
  rw [hXV] at HV1 HV2
  rw [hXW] at HW1 HW2
  obtain ⟨CC, hCC⟩ : ∃ C, str cl = C := ⟨_, rfl⟩
  rw [hCC] at HW1 HW2
  rw [hCC]
  have h5 : ¬ (n : Int) > 500 := by omega
  have HB0 := hid (below_new w (.cells #[.int .i64 K, .int .i64 L] 24 (0, 0)))
  obtain ⟨rb0, rb1⟩ := box2W (heap_alloc_new w (.cells #[.int .i64 K, .int .i64 L] 24 (0, 0)))
  have HR0 := hid (show RdFr (w.alloc (.cells #[.int .i64 K, .int .i64 L] 24 (0, 0))) w.heap.size K L from ⟨rb0, rb1⟩)
  have HZ0 := hid (show w.heap.size + 1 ≤ (w.alloc (.cells #[.int .i64 K, .int .i64 L] 24 (0, 0))).heap.size from by simp)
  clear hF hsz hn hmx hE hw hvz hcz hcl hL0 hL1 hNS hnk hXS hXF hXV hXW hCC rb0 rb1 hc0 HMx
  go_enter Tryd.func3, Tryd.ntmps3
  go_wp2_with (first | (go_at_call 6; (with_reducible refine (HTw.out _ HB0.out).mono ?_); rintro e w1 ⟨q, d, rfl, ho, hb⟩; have H1 := hid (show LFd w w1 K L q n d fs from ⟨below_out HB0.out hb, HR0.out.next hb, OwnF.lowW ho HZ0.out⟩); clear hb ho HTw HB0 HR0 HZ0) | (go_at_call 7; (with_reducible refine (HN1.out _ _ _ H1.out).mono ?_); rintro e w2 ⟨v2, rfl, ho, hb⟩; obtain ⟨q2, d2, rfl⟩ : ∃ q d, v2 = .slice q nk d := (by have h9 := own_slice ho; rw [HNk.out] at h9; exact h9); have H2 := hid (H1.out.next hb); have HO2 := hid (OwnS.strAt ho); clear hb ho HN1 H1) | (go_at_call 8; (with_reducible refine (HN2.out _ H2.out.low).mono ?_); rintro e w3 ⟨v3, rfl, ho, hb⟩; obtain ⟨q3, d3, rfl⟩ : ∃ q d, v3 = .slice q nk d := (by have h9 := own_slice ho; rw [HNk.out] at h9; exact h9); have H3 := hid (H2.out.next hb); have HO3 := hid (OwnS.strAt ho); have HP3 := hid (HO2.out.next hb); clear hb ho HN2 H2 HO2))
  go_loopg [10] (nk + 1) (fun gk s10 wr => ∃ i : Nat, s10 = .int .i64 (i : Int) ∧ i ≤ nk ∧ gk = nk - i + 1 ∧ LFd w wr K L q n d fs ∧ StrAt wr q2 NS ∧ StrAt wr q3 NS)
  case atStart => exact ⟨0, rfl, by omega, rfl, H3.out, HP3.out, HO3.out⟩
  case round =>
    obtain ⟨i, rfl, hin, rfl, hl, hs2, hs3⟩ := hrel
    rename World => wr
    have HL := hid hl
    have HA := hid hs2
    have HB := hid hs3
    clear hl hs2 hs3 H3 HP3 HO3
    by_cases hlt : i < nk
    · obtain ⟨y, hy⟩ : ∃ y, NS[i]? = some y := ⟨NS[i]'(by rw [HNk.out]; exact hlt), List.getElem?_eq_getElem (by rw [HNk.out]; exact hlt)⟩
      obtain ⟨g, oo, hp, c0⟩ := HA.out i y hy
      obtain ⟨g', oo', hp', c1⟩ := HB.out i y hy
      subst hp hp'
      have hltI : (i : Int) < (nk : Int) := by omega
      obtain ⟨Y, hY⟩ : ∃ Y, str y = Y := ⟨_, rfl⟩
      rw [hY] at c0 c1
      clear hy hY
      go_wp2
      have hS0 : RdNm wr.drew g (oo + i) g' (oo' + i) Y := ⟨c0, c1⟩
      have HL4 := hid (show LFd w wr.drew K L (q) n d fs from HL.out.next ⟨rfl, rfl, rfl, Nat.le_refl _, fun _ _ => rfl⟩)
      have HA4 := hid (show StrAt wr.drew (some ⟨g, oo, none⟩) NS from HA.out.next ⟨rfl, rfl, rfl, Nat.le_refl _, fun _ _ => rfl⟩)
      have HB4 := hid (show StrAt wr.drew (some ⟨g', oo', none⟩) NS from HB.out.next ⟨rfl, rfl, rfl, Nat.le_refl _, fun _ _ => rfl⟩)
      generalize hW4 : wr.drew = w4 at hS0 HL4 HA4 HB4
      refine wp_region_noPanic ?_
      refine any_begin 9 (by kernel_rfl) (by kernel_rfl) ?_
      rw [hW4]
      clear hW4 HL HA HB c0 c1
      refine late_begin (fun U => RdNm U g (oo + i) g' (oo' + i) Y) (fun _ => false) hS0 (fun hS => ?_)
      refine late_take (i := 0) (some 33) rfl rfl (by kernel_rfl) (by kernel_rfl) (by kernel_rfl) (by kernel_rfl) (by kernel_rfl) (fun _ _ _ h => h) (by rfl) (v := ?v0n) ?hy0n hS ?rest0n
      case hy0n => intro w0 hSw; have a0 := hSw.a0; have b0 := hSw.b0; go_simp; try with_reducible rfl
      simp only [Act.put, List.setIfInBounds_toArray, List.set_cons_zero, List.set_cons_succ]
      refine late_take (i := 1) (some 34) rfl rfl (by kernel_rfl) (by kernel_rfl) (by kernel_rfl) (by kernel_rfl) (by kernel_rfl) (fun _ _ _ h => h) (by rfl) (v := ?v1n) ?hy1n hS ?rest1n
      case hy1n => intro w0 hSw; have a0 := hSw.a0; have b0 := hSw.b0; go_simp; try with_reducible rfl
      simp only [Act.put, List.setIfInBounds_toArray, List.set_cons_zero, List.set_cons_succ]
      refine late_take (i := 2) (some 35) rfl rfl (by kernel_rfl) (by kernel_rfl) (by kernel_rfl) (by kernel_rfl) (by kernel_rfl) (fun _ _ _ h => h) (by rfl) (v := ?v2n) ?hy2n hS ?rest2n
      case hy2n => intro w0 hSw; have a0 := hSw.a0; have b0 := hSw.b0; go_simp; try with_reducible rfl
      simp only [Act.put, List.setIfInBounds_toArray, List.set_cons_zero, List.set_cons_succ]
      refine late_take (i := 3) (some 36) rfl rfl (by kernel_rfl) (by kernel_rfl) (by kernel_rfl) (by kernel_rfl) (by kernel_rfl) (fun _ _ _ h => h) (by rfl) (v := ?v3n) ?hy3n hS ?rest3n
      case hy3n => intro w0 hSw; have a0 := hSw.a0; have b0 := hSw.b0; go_simp; try with_reducible rfl
      simp only [Act.put, List.setIfInBounds_toArray, List.set_cons_zero, List.set_cons_succ]
      refine late_take (i := 4) (some 37) rfl rfl (by kernel_rfl) (by kernel_rfl) (by kernel_rfl) (by kernel_rfl) (by kernel_rfl) (fun _ _ _ h => h) (by rfl) (v := ?v4n) ?hy4n hS ?rest4n
      case hy4n => intro w0 hSw; have a0 := hSw.a0; have b0 := hSw.b0; go_simp; try with_reducible rfl
      simp only [Act.put, List.setIfInBounds_toArray, List.set_cons_zero, List.set_cons_succ]
      refine late_take (i := 5) (some 38) rfl rfl (by kernel_rfl) (by kernel_rfl) (by kernel_rfl) (by kernel_rfl) (by kernel_rfl) (fun _ _ _ h => h) (by rfl) (v := ?v5n) ?hy5n hS ?rest5n
      case hy5n => intro w0 hSw; have a0 := hSw.a0; have b0 := hSw.b0; go_simp; try with_reducible rfl
      simp only [Act.put, List.setIfInBounds_toArray, List.set_cons_zero, List.set_cons_succ]
      refine late_take (i := 6) (some 39) rfl rfl (by kernel_rfl) (by kernel_rfl) (by kernel_rfl) (by kernel_rfl) (by kernel_rfl) (fun _ _ _ h => h) (by rfl) (v := ?v6n) ?hy6n hS ?rest6n
      case hy6n => intro w0 hSw; have a0 := hSw.a0; have b0 := hSw.b0; go_simp; try with_reducible rfl
      simp only [Act.put, List.setIfInBounds_toArray, List.set_cons_zero, List.set_cons_succ]
      refine late_take (i := 7) (some 40) rfl rfl (by kernel_rfl) (by kernel_rfl) (by kernel_rfl) (by kernel_rfl) (by kernel_rfl) (fun _ _ _ h => h) (by rfl) (v := ?v7n) ?hy7n hS ?rest7n
      case hy7n => intro w0 hSw; have a0 := hSw.a0; have b0 := hSw.b0; go_simp; try with_reducible rfl
      simp only [Act.put, List.setIfInBounds_toArray, List.set_cons_zero, List.set_cons_succ]
      refine late_take (i := 8) (some 41) rfl rfl (by kernel_rfl) (by kernel_rfl) (by kernel_rfl) (by kernel_rfl) (by kernel_rfl) (fun _ _ _ h => h) (by rfl) (v := ?v8n) ?hy8n hS ?rest8n
      case hy8n => intro w0 hSw; have a0 := hSw.a0; have b0 := hSw.b0; go_simp; try with_reducible rfl
      simp only [Act.put, List.setIfInBounds_toArray, List.set_cons_zero, List.set_cons_succ]
      refine late_done (by kernel_rfl) ?_ _
      refine NoPanic.normal ?_
      clear hS hS0
      have hwi : wrap64 ((i : Int) + 1) = (i : Int) + 1 := by unfold wrap64; omega
      go_wp2
      go_roundg (nk - (i + 1) + 1)
      case measure => omega
      case rel => exact ⟨i + 1, (by (try rw [hwi]); push_cast; rfl), by omega, rfl, HL4.out, HA4.out, HB4.out⟩
    · obtain rfl : i = nk := by omega
      have hltI : ¬ (i : Int) < (i : Int) := by omega
      clear hlt
      go_wp2
      have HL_a := hid (show LFd w wr.drew K L q n d fs from HL.out.next ⟨rfl, rfl, rfl, Nat.le_refl _, fun _ _ => rfl⟩)
      generalize hW4 : wr.drew = v_a at HL_a
      refine wp_region_noPanic ?_
      refine any_begin 35 (by kernel_rfl) (by kernel_rfl) ?_
      rw [hW4]
      clear hW4 HL HA HB
      refine late_begin (fun U => RdFr U w.heap.size K L) (fun _ => false) HL_a.out.rd (fun hS_a => ?_)
      refine late_take (i := 0) (some 42) rfl rfl (by kernel_rfl) (by kernel_rfl) (by kernel_rfl) (by kernel_rfl) (by kernel_rfl) (fun _ _ _ h => h) (by rfl) (v := ?v0q) ?hy0q hS_a ?rest0q
      case hy0q => intro w0 hSw; have a0 := hSw.a0; have a1 := hSw.a1; go_simp; try with_reducible rfl
      simp only [Act.put, List.setIfInBounds_toArray, List.set_cons_zero, List.set_cons_succ]
      refine late_take (i := 2) (some 44) rfl rfl (by kernel_rfl) (by kernel_rfl) (by kernel_rfl) (by kernel_rfl) (by kernel_rfl) (fun _ _ _ h => h) (by rfl) (v := ?v2q) ?hy2q hS_a ?rest2q
      case hy2q => intro w0 hSw; have a0 := hSw.a0; have a1 := hSw.a1; go_simp; try with_reducible rfl
      simp only [Act.put, List.setIfInBounds_toArray, List.set_cons_zero, List.set_cons_succ]
      refine wpAnyD_one (i := 1) (by kernel_rfl) rfl (fun K' hK => ?_)
      go_simp
      go_at_call 10
      refine (HS1.out _ _ _ HL_a.out).mono ?_
      rintro e v_b ⟨v9, rfl, ho, hb⟩
      have HL_b := hid (HL_a.out.next hb)
      have hS_b : RdFr v_b w.heap.size K L := HL_b.out.rd
      obtain ⟨p1, d1, rfl⟩ := own_slice ho
      have HG1_b := hid (OwnF.fat ho)
      refine hK _ _ ⟨fun _ => hS_b, ?_⟩
      clear hK K' hb HL_a hS_a ho HS1
      refine wpAnyD_one (i := 3) (by kernel_rfl) rfl (fun K' hK => ?_)
      go_simp
      go_at_call 11
      refine (HS2.out _ HL_b.out.low).mono ?_
      rintro e v_c ⟨v9, rfl, ho, hb⟩
      have HL_c := hid (HL_b.out.next hb)
      have hS_c : RdFr v_c w.heap.size K L := HL_c.out.rd
      have HG1_c := hid (HG1_b.out.next hb)
      obtain ⟨p2, d2a, rfl⟩ := own_slice ho
      have HG2_c := hid (OwnF.fat ho)
      refine hK _ _ ⟨fun _ => hS_c, ?_⟩
      clear hK K' hb HL_b hS_b HG1_b ho HS2
      refine wpAnyD_one (i := 4) (by kernel_rfl) rfl (fun K' hK => ?_)
      go_simp
      go_at_call 9
      refine (HSm.out _ XS _ _ _ _ _ rfl HG1_c.out HG2_c.out HlS.out).mono ?_
      rintro e v_d ⟨rfl, hb⟩
      have HL_d := hid (HL_c.out.next hb)
      have hS_d : RdFr v_d w.heap.size K L := HL_d.out.rd
      refine hK _ _ ⟨fun _ => hS_d, ?_⟩
      clear hK K' hb HL_c hS_c HG1_c HG2_c
      refine late_take (i := 5) (some 47) rfl rfl (by kernel_rfl) (by kernel_rfl) (by kernel_rfl) (by kernel_rfl) (by kernel_rfl) (fun _ _ _ h => h) (by rfl) (v := ?v5q) ?hy5q hS_d ?rest5q
      case hy5q => intro w0 hSw; have a0 := hSw.a0; have a1 := hSw.a1; go_simp; try with_reducible rfl
      simp only [Act.put, List.setIfInBounds_toArray, List.set_cons_zero, List.set_cons_succ]
      refine late_take (i := 6) (some 48) rfl rfl (by kernel_rfl) (by kernel_rfl) (by kernel_rfl) (by kernel_rfl) (by kernel_rfl) (fun _ _ _ h => h) (by rfl) (v := ?v6q) ?hy6q hS_d ?rest6q
      case hy6q => intro w0 hSw; have a0 := hSw.a0; have a1 := hSw.a1; go_simp; try with_reducible rfl
      simp only [Act.put, List.setIfInBounds_toArray, List.set_cons_zero, List.set_cons_succ]
      refine late_take (i := 7) (some 49) rfl rfl (by kernel_rfl) (by kernel_rfl) (by kernel_rfl) (by kernel_rfl) (by kernel_rfl) (fun _ _ _ h => h) (by rfl) (v := ?v7q) ?hy7q hS_d ?rest7q
      case hy7q => intro w0 hSw; have a0 := hSw.a0; have a1 := hSw.a1; go_simp; try with_reducible rfl
      simp only [Act.put, List.setIfInBounds_toArray, List.set_cons_zero, List.set_cons_succ]
      refine late_take (i := 9) (some 51) rfl rfl (by kernel_rfl) (by kernel_rfl) (by kernel_rfl) (by kernel_rfl) (by kernel_rfl) (fun _ _ _ h => h) (by rfl) (v := ?v9q) ?hy9q hS_d ?rest9q
      case hy9q => intro w0 hSw; have a0 := hSw.a0; have a1 := hSw.a1; go_simp; try with_reducible rfl
      simp only [Act.put, List.setIfInBounds_toArray, List.set_cons_zero, List.set_cons_succ]
      refine late_take (i := 10) (some 52) rfl rfl (by kernel_rfl) (by kernel_rfl) (by kernel_rfl) (by kernel_rfl) (by kernel_rfl) (fun _ _ _ h => h) (by rfl) (v := ?v10q) ?hy10q hS_d ?rest10q
      case hy10q => intro w0 hSw; have a0 := hSw.a0; have a1 := hSw.a1; go_simp; try with_reducible rfl
      simp only [Act.put, List.setIfInBounds_toArray, List.set_cons_zero, List.set_cons_succ]
      refine wpAnyD_one (i := 8) (by kernel_rfl) rfl (fun K' hK => ?_)
      go_simp
      go_at_call 12
      refine (HF1.out _ _ _ HL_d.out).mono ?_
      rintro e v_e ⟨g9, m9, rfl, hl9, _, hk9, hb⟩
      have HL_e := hid (HL_d.out.next hb)
      have hS_e : RdFr v_e w.heap.size K L := HL_e.out.rd
      have HG1_e := hid hk9.fat
      refine hK _ _ ⟨fun _ => hS_e, ?_⟩
      clear hK K' hb HL_d hS_d hk9 HF1
      refine wpAnyD_one (i := 11) (by kernel_rfl) rfl (fun K' hK => ?_)
      go_simp
      go_at_call 13
      refine (HF2.out _ HL_e.out.low).mono ?_
      rintro e v_f ⟨v9, rfl, ho, hb⟩
      have HL_f := hid (HL_e.out.next hb)
      have hS_f : RdFr v_f w.heap.size K L := HL_f.out.rd
      have HG1_f := hid (HG1_e.out.next hb)
      obtain ⟨p2, d2b, rfl⟩ : ∃ q d, v9 = .slice q m9 d := (by have h9 := own_slice ho; rw [hl9] at h9; exact h9)
      have HG2_f := hid (OwnF.fat ho)
      refine hK _ _ ⟨fun _ => hS_f, ?_⟩
      clear hK K' hb HL_e hS_e HG1_e ho HF2
      refine wpAnyD_one (i := 12) (by kernel_rfl) rfl (fun K' hK => ?_)
      go_simp
      go_at_call 9
      refine (HSm.out _ XF _ _ _ _ _ hl9 HG1_f.out HG2_f.out (by rw [← hl9]; exact HlF.out)).mono ?_
      rintro e v_g ⟨rfl, hb⟩
      have HL_g := hid (HL_f.out.next hb)
      have hS_g : RdFr v_g w.heap.size K L := HL_g.out.rd
      refine hK _ _ ⟨fun _ => hS_g, ?_⟩
      clear hK K' hb HL_f hS_f HG1_f HG2_f hl9
      refine late_take (i := 13) (some 55) rfl rfl (by kernel_rfl) (by kernel_rfl) (by kernel_rfl) (by kernel_rfl) (by kernel_rfl) (fun _ _ _ h => h) (by rfl) (v := ?v13q) ?hy13q hS_g ?rest13q
      case hy13q => intro w0 hSw; have a0 := hSw.a0; have a1 := hSw.a1; go_simp; try with_reducible rfl
      simp only [Act.put, List.setIfInBounds_toArray, List.set_cons_zero, List.set_cons_succ]
      refine late_take (i := 14) (some 56) rfl rfl (by kernel_rfl) (by kernel_rfl) (by kernel_rfl) (by kernel_rfl) (by kernel_rfl) (fun _ _ _ h => h) (by rfl) (v := ?v14q) ?hy14q hS_g ?rest14q
      case hy14q => intro w0 hSw; have a0 := hSw.a0; have a1 := hSw.a1; go_simp; try with_reducible rfl
      simp only [Act.put, List.setIfInBounds_toArray, List.set_cons_zero, List.set_cons_succ]
      refine late_take (i := 15) (some 57) rfl rfl (by kernel_rfl) (by kernel_rfl) (by kernel_rfl) (by kernel_rfl) (by kernel_rfl) (fun _ _ _ h => h) (by rfl) (v := ?v15q) ?hy15q hS_g ?rest15q
      case hy15q => intro w0 hSw; have a0 := hSw.a0; have a1 := hSw.a1; go_simp; try with_reducible rfl
      simp only [Act.put, List.setIfInBounds_toArray, List.set_cons_zero, List.set_cons_succ]
      refine late_take (i := 16) (some 58) rfl rfl (by kernel_rfl) (by kernel_rfl) (by kernel_rfl) (by kernel_rfl) (by kernel_rfl) (fun _ _ _ h => h) (by rfl) (v := ?v16q) ?hy16q hS_g ?rest16q
      case hy16q => intro w0 hSw; have a0 := hSw.a0; have a1 := hSw.a1; go_simp; try with_reducible rfl
      simp only [Act.put, List.setIfInBounds_toArray, List.set_cons_zero, List.set_cons_succ]
      refine late_take (i := 17) (some 59) rfl rfl (by kernel_rfl) (by kernel_rfl) (by kernel_rfl) (by kernel_rfl) (by kernel_rfl) (fun _ _ _ h => h) (by rfl) (v := ?v17q) ?hy17q hS_g ?rest17q
      case hy17q => intro w0 hSw; have a0 := hSw.a0; have a1 := hSw.a1; go_simp; try with_reducible rfl
      simp only [Act.put, List.setIfInBounds_toArray, List.set_cons_zero, List.set_cons_succ]
      refine late_take (i := 19) (some 61) rfl rfl (by kernel_rfl) (by kernel_rfl) (by kernel_rfl) (by kernel_rfl) (by kernel_rfl) (fun _ _ _ h => h) (by rfl) (v := ?v19q) ?hy19q hS_g ?rest19q
      case hy19q => intro w0 hSw; have a0 := hSw.a0; have a1 := hSw.a1; go_simp; try with_reducible rfl
      simp only [Act.put, List.setIfInBounds_toArray, List.set_cons_zero, List.set_cons_succ]
      refine late_take (i := 20) (some 62) rfl rfl (by kernel_rfl) (by kernel_rfl) (by kernel_rfl) (by kernel_rfl) (by kernel_rfl) (fun _ _ _ h => h) (by rfl) (v := ?v20q) ?hy20q hS_g ?rest20q
      case hy20q => intro w0 hSw; have a0 := hSw.a0; have a1 := hSw.a1; go_simp; try with_reducible rfl
      simp only [Act.put, List.setIfInBounds_toArray, List.set_cons_zero, List.set_cons_succ]
      refine late_take (i := 21) (some 63) rfl rfl (by kernel_rfl) (by kernel_rfl) (by kernel_rfl) (by kernel_rfl) (by kernel_rfl) (fun _ _ _ h => h) (by rfl) (v := ?v21q) ?hy21q hS_g ?rest21q
      case hy21q => intro w0 hSw; have a0 := hSw.a0; have a1 := hSw.a1; go_simp; try with_reducible rfl
      simp only [Act.put, List.setIfInBounds_toArray, List.set_cons_zero, List.set_cons_succ]
      refine wpAnyD_one (i := 18) (by kernel_rfl) rfl (fun K' hK => ?_)
      go_simp
      go_at_call 14
      refine (HV1.out _ _ _ HL_g.out).mono ?_
      rintro e v_h ⟨g9, m9, rfl, hl9, _, hk9, hb⟩
      have HL_h := hid (HL_g.out.next hb)
      have hS_h : RdFr v_h w.heap.size K L := HL_h.out.rd
      obtain rfl : n + 1 = m9 := HlV.out.symm.trans hl9
      have HG1_h := hid hk9.fat
      refine hK _ _ ⟨fun _ => hS_h, ?_⟩
      clear hK K' hb HL_g hS_g hk9 HV1 hl9
      refine wpAnyD_one (i := 22) (by kernel_rfl) rfl (fun K' hK => ?_)
      go_simp
      go_at_call 15
      refine (HV2.out _ HL_h.out.low).mono ?_
      rintro e v_i ⟨p2, d2c, rfl, hf9, hb⟩
      have HL_i := hid (HL_h.out.next hb)
      have hS_i : RdFr v_i w.heap.size K L := HL_i.out.rd
      have HG1_i := hid (HG1_h.out.next hb)
      have HG2_i := hid hf9
      refine hK _ _ ⟨fun _ => hS_i, ?_⟩
      clear hK K' hb HL_h hS_h HG1_h hf9 HV2
      refine wpAnyD_one (i := 23) (by kernel_rfl) rfl (fun K' hK => ?_)
      go_simp
      go_at_call 9
      refine (HSm.out _ XV _ _ _ _ _ HlV.out HG1_i.out HG2_i.out (by omega)).mono ?_
      rintro e v_j ⟨rfl, hb⟩
      have HL_j := hid (HL_i.out.next hb)
      have hS_j : RdFr v_j w.heap.size K L := HL_j.out.rd
      refine hK _ _ ⟨fun _ => hS_j, ?_⟩
      clear hK K' hb HL_i hS_i HG1_i HG2_i
      refine late_take (i := 24) (some 66) rfl rfl (by kernel_rfl) (by kernel_rfl) (by kernel_rfl) (by kernel_rfl) (by kernel_rfl) (fun _ _ _ h => h) (by rfl) (v := ?v24q) ?hy24q hS_j ?rest24q
      case hy24q => intro w0 hSw; have a0 := hSw.a0; have a1 := hSw.a1; go_simp; try with_reducible rfl
      simp only [Act.put, List.setIfInBounds_toArray, List.set_cons_zero, List.set_cons_succ]
      refine late_take (i := 25) (some 67) rfl rfl (by kernel_rfl) (by kernel_rfl) (by kernel_rfl) (by kernel_rfl) (by kernel_rfl) (fun _ _ _ h => h) (by rfl) (v := ?v25q) ?hy25q hS_j ?rest25q
      case hy25q => intro w0 hSw; have a0 := hSw.a0; have a1 := hSw.a1; go_simp; try with_reducible rfl
      simp only [Act.put, List.setIfInBounds_toArray, List.set_cons_zero, List.set_cons_succ]
      refine late_take (i := 26) (some 68) rfl rfl (by kernel_rfl) (by kernel_rfl) (by kernel_rfl) (by kernel_rfl) (by kernel_rfl) (fun _ _ _ h => h) (by rfl) (v := ?v26q) ?hy26q hS_j ?rest26q
      case hy26q => intro w0 hSw; have a0 := hSw.a0; have a1 := hSw.a1; go_simp; try with_reducible rfl
      simp only [Act.put, List.setIfInBounds_toArray, List.set_cons_zero, List.set_cons_succ]
      refine late_take (i := 27) (some 69) rfl rfl (by kernel_rfl) (by kernel_rfl) (by kernel_rfl) (by kernel_rfl) (by kernel_rfl) (fun _ _ _ h => h) (by rfl) (v := ?v27q) ?hy27q hS_j ?rest27q
      case hy27q => intro w0 hSw; have a0 := hSw.a0; have a1 := hSw.a1; go_simp; try with_reducible rfl
      simp only [Act.put, List.setIfInBounds_toArray, List.set_cons_zero, List.set_cons_succ]
      refine late_take (i := 29) (some 71) rfl rfl (by kernel_rfl) (by kernel_rfl) (by kernel_rfl) (by kernel_rfl) (by kernel_rfl) (fun _ _ _ h => h) (by rfl) (v := ?v29q) ?hy29q hS_j ?rest29q
      case hy29q => intro w0 hSw; have a0 := hSw.a0; have a1 := hSw.a1; go_simp; try with_reducible rfl
      simp only [Act.put, List.setIfInBounds_toArray, List.set_cons_zero, List.set_cons_succ]
      refine late_take (i := 30) (some 72) rfl rfl (by kernel_rfl) (by kernel_rfl) (by kernel_rfl) (by kernel_rfl) (by kernel_rfl) (fun _ _ _ h => h) (by rfl) (v := ?v30q) ?hy30q hS_j ?rest30q
      case hy30q => intro w0 hSw; have a0 := hSw.a0; have a1 := hSw.a1; go_simp; try with_reducible rfl
      simp only [Act.put, List.setIfInBounds_toArray, List.set_cons_zero, List.set_cons_succ]
      refine wpAnyD_one (i := 28) (by kernel_rfl) rfl (fun K' hK => ?_)
      go_simp
      go_at_call 16
      refine (HW1.out _ _ _ HL_j.out).mono ?_
      rintro e v_k ⟨g9, m9, rfl, hl9, _, hk9, hb⟩
      have HL_k := hid (HL_j.out.next hb)
      have hS_k : RdFr v_k w.heap.size K L := HL_k.out.rd
      subst hl9
      have HG1_k := hid hk9.fat
      refine hK _ _ ⟨fun _ => hS_k, ?_⟩
      clear hK K' hb HL_j hS_j hk9 HW1
      refine wpAnyD_one (i := 31) (by kernel_rfl) rfl (fun K' hK => ?_)
      go_simp
      go_at_call 17
      refine (HW2.out _ HL_k.out.low).mono ?_
      rintro e v_l ⟨p2, d2e, rfl, hf9, hb⟩
      have HL_l := hid (HL_k.out.next hb)
      have hS_l : RdFr v_l w.heap.size K L := HL_l.out.rd
      have HG1_l := hid (HG1_k.out.next hb)
      have HG2_l := hid hf9
      refine hK _ _ ⟨fun _ => hS_l, ?_⟩
      clear hK K' hb HL_k hS_k HG1_k hf9 HW2
      refine wpAnyD_one (i := 32) (by kernel_rfl) rfl (fun K' hK => ?_)
      go_simp
      go_at_call 9
      refine (HSm.out _ XW _ _ _ _ _ rfl HG1_l.out HG2_l.out HlW.out).mono ?_
      rintro e v_m ⟨rfl, hb⟩
      have HL_m := hid (HL_l.out.next hb)
      have hS_m : RdFr v_m w.heap.size K L := HL_m.out.rd
      refine hK _ _ ⟨fun _ => hS_m, ?_⟩
      clear hK K' hb HL_l hS_l HG1_l HG2_l
      refine late_take (i := 33) (some 75) rfl rfl (by kernel_rfl) (by kernel_rfl) (by kernel_rfl) (by kernel_rfl) (by kernel_rfl) (fun _ _ _ h => h) (by rfl) (v := ?v33q) ?hy33q hS_m ?rest33q
      case hy33q => intro w0 hSw; have a0 := hSw.a0; have a1 := hSw.a1; go_simp; try with_reducible rfl
      simp only [Act.put, List.setIfInBounds_toArray, List.set_cons_zero, List.set_cons_succ]
      refine late_take (i := 34) (some 11) rfl rfl (by kernel_rfl) (by kernel_rfl) (by kernel_rfl) (by kernel_rfl) (by kernel_rfl) (fun _ _ _ h => h) (by rfl) (v := ?v34q) ?hy34q hS_m ?rest34q
      case hy34q => intro w0 hSw; have a0 := hSw.a0; have a1 := hSw.a1; go_simp; try with_reducible rfl
      simp only [Act.put, List.setIfInBounds_toArray, List.set_cons_zero, List.set_cons_succ]
      refine late_done (by kernel_rfl) ?_ _
      refine NoPanic.normal ?_
      clear hS_m
      go_wp2_with (first | (go_at_call 9; (with_reducible refine (HSm.out _ fs _ _ _ _ _ HNn.out HL_m.out.own.fat (HF0.out.next HL_m.out.low) (by omega)).mono ?_); rintro e z1 ⟨rfl, hb⟩; have HB8 := hid (below_out HL_m.out.low hb); clear hb HSm) | (go_at_call 5; (with_reducible refine (HWk.out _ HB8.out).mono ?_); rintro e z2 ⟨rfl, hb⟩; have HB9 := hid (below_out HB8.out hb); clear hb HWk))
      go_ret
      exact ⟨rfl, HB9.out⟩
end Go.Proofs.YtnlmjlfoeodleaaDoor
