/- The law TrieFinds: whatever patterns are laid in, the document's errors come, and every path finds the document's. -/
import Derived.Test.YtdjjkcpnjocafaaDoorTFndP
namespace Go.Proofs.YtdjjkcpnjocafaaDoor
open Go.RowKit

set_option maxRecDepth 20000 in
set_option maxHeartbeats 64000000 in
theorem trieFinds_any (l : List (B × Int)) (pl : Option Addr) (nl cl : Nat) (hnl : l.length = nl) (hnn : nl ≤ 4398046511104) (hll : ∀ s ∈ l, s.1.length ≤ 4398046511104) (ps : List B) (pp : Option Addr) (np cp : Nat) (hnp : ps.length = np) (hpn : np ≤ 4398046511104) (hpl : ∀ s ∈ ps, s.length ≤ 4294967280) (w : World) (hT : PtAt w pl l) (hQ : TxAt w pp ps) (hmx : MxAt w) (hE : EnvE w) :
    Calls Tryd.prog 3 #[.slice pl nl cl, .slice pp np cp] w fun e w' => e = .returned (.bool true) ∧ Below w.heap.size w w' := by
  obtain ⟨j0, hj0, hy0, hy1, hy2⟩ := info_parts infoS
  have HMx := hid hmx
  have HE := hid hE
  have HT := hid hT
  have HQ := hid hQ
  have HNl := hid hnl
  have HLl := hid hll
  have HNp := hid hnp
  have HPl := hid hpl
  have HSu := hid (fun (W : World) (h : MxAt W) => sure_any W h)
  have HN1 := hid (new_any w)
  clear hmx hE hT hQ hnl hll hnp hpl
  go_enter Tryd.func3, Tryd.ntmps3
  go_wp2_with (go_at_call 7; ((with_reducible refine HN1.out.mono ?_); rintro e w1 ⟨rfl, h1, hb1⟩; have HFs := hid (Fnd.start h1 hb1); clear h1 hb1 HN1))
  obtain ⟨t, ht⟩ : ∃ t, w.heap.size = t := ⟨_, rfl⟩
  rw [ht] at HFs
  rw [ht]
  clear ht
  go_loopg [6, 7] (61) (fun gk s6 s7 wr => ∃ (i n c : Nat) (pr : Option Addr) (P : List (B × Int)), i ≤ nl ∧ i ≤ 60 ∧ gk = 60 - i + 1 ∧ s7 = .int .i64 (i : Int) ∧ s6 = .slice pr n c ∧ P.length = n ∧ n ≤ i ∧ Fnd w wr t P P (64 * i) (.slice pr n c))
  case atStart => exact ⟨0, 0, 0, none, [], by omega, by omega, rfl, rfl, rfl, rfl, by omega, HFs.out⟩
  case round =>
    obtain ⟨i, n, c, pr, P, hi, hi60, rfl, rfl, rfl, hn, hni, hfn⟩ := hrel
    have HF := hid hfn
    have HN := hid hn
    clear hfn hn
    have HFine := hid (show ∀ x ∈ P, checkP x.1 = true from by obtain ⟨G, es, v, h⟩ := HF.out.tr; exact h.fine)
    have HAp := hid (show ∀ (i j : Nat) (p q : B × Int), P[i]? = some p → P[j]? = some q → keysP p.1 = keysP q.1 → i = j from by obtain ⟨G, es, v, h⟩ := HF.out.tr; exact h.ap)
    by_cases hin : i < nl ∧ i < 60
    · obtain ⟨hin1, hin2⟩ := hin
      have hd1 : decide ((i : Int) < (nl : Int)) = true := decide_eq_true (by omega)
      have hd2 : decide ((i : Int) < 60) = true := decide_eq_true (by omega)
      obtain ⟨x, hx⟩ : ∃ x, l[i]? = some x := ⟨_, List.getElem?_eq_getElem (by rw [HNl.out]; exact hin1)⟩
      have hxl := HLl.out x (List.mem_of_getElem? hx)
      obtain ⟨g, o, hpl0, _, _⟩ := HT.out i x hx
      have HLs0 := hid (show ∀ W, Below w.heap.size w W → W.cell? ⟨g, o + i * 2, none⟩ = some (.string (str x.1)) ∧ W.cell? ⟨g, o + i * 2 + 1, none⟩ = some (.int .i64 x.2) from fun W hb => by
        obtain ⟨g', o', e', c1, c2⟩ := (HT.out.next hb) i x hx
        rw [hpl0] at e'
        injection e' with e'; injection e' with e1 e2; subst e1 e2
        exact ⟨c1, c2⟩)
      subst hpl0
      have HCp := hid (fun (W : World) (h : MxAt W) => chk_prog x.1 hxl W h)
      have HCd := hid (fun (W : World) => chk_doc x.1 hxl W)
      have HAd := hid (fun (W : World) (h : Fnd w W t P P (64 * i) (.slice pr n c)) => h.add (mx_ord HMx.out h.low) (by omega) (by rw [HN.out]; omega) x.1 hxl x.2)
      have HRd := hid (fun (W : World) (h : Fnd w W t (addP P x.1 x.2) P (64 * i + 64) (.slice pr n c)) => h.radd HFine.out (by rw [HN.out]; omega) hxl pr n c HN.out rfl)
      have HNu := hid (fun (W : World) (h : EnvE W) => num_any (addE P x.1) W h)
      have HNc := hid (fun (W : World) (h : EnvE W) => num_any (chkN x.1) W h)
      have hPl := addP_len P x.1 x.2
      obtain ⟨k, hk⟩ : ∃ k, addE P x.1 = k := ⟨_, rfl⟩
      obtain ⟨kc, hkc⟩ : ∃ k, chkN x.1 = k := ⟨_, rfl⟩
      obtain ⟨V, hV⟩ : ∃ V, errOf k = V := ⟨_, rfl⟩
      obtain ⟨VC, hVC⟩ : ∃ V, errOf kc = V := ⟨_, rfl⟩
      obtain ⟨Sx, hSx⟩ : ∃ S, str x.1 = S := ⟨_, rfl⟩
      obtain ⟨D, hD⟩ : ∃ D, x.2 = D := ⟨_, rfl⟩
      rw [hSx, hD] at HLs0
      have HLs := hid (show ∀ W, Below w.heap.size w W → OneL W g o i Sx D from fun W hb => ⟨(HLs0.out W hb).1, (HLs0.out W hb).2⟩)
      rw [hk, hV, hSx, hD] at HAd
      rw [hk, hSx, hD] at HRd
      rw [hk, hV] at HNu
      rw [hkc, hVC] at HNc
      rw [hkc, hVC, hSx] at HCp
      rw [hkc, hSx] at HCd
      obtain ⟨Q, hQ2⟩ : ∃ Q, addP P x.1 D = Q := ⟨_, rfl⟩
      rw [hD] at hPl
      rw [hQ2] at HAd HRd hPl
      rw [HN.out] at hPl
      have HF0 := hid (HF.out.next (same_drew1 wr).below)
      have hS0 : OneL wr.drew g o i Sx D := HLs.out _ HF0.out.low
      clear hx hxl hk hkc hV hVC hSx hD hQ2 HLs0
      go_wp2
      refine wp_region_noPanic ?_
      refine any_begin 13 (by kernel_rfl) (by kernel_rfl) ?_
      refine late_begin (fun U => OneL U g o i Sx D) (fun _ => false) hS0 (fun hS => ?_)
      refine late_take (i := 0) (some 33) rfl rfl (by kernel_rfl) (by kernel_rfl) (by kernel_rfl) (by kernel_rfl) (by kernel_rfl) (fun _ _ _ h => h) (by rfl) (v := ?v0a) ?hy0a hS ?rest0a
      case hy0a => intro w0 hSw; obtain ⟨a0, a1⟩ := hSw; go_simp; try with_reducible rfl
      simp only [Act.put, List.setIfInBounds_toArray, List.set_cons_zero, List.set_cons_succ]
      refine late_take (i := 1) (some 34) rfl rfl (by kernel_rfl) (by kernel_rfl) (by kernel_rfl) (by kernel_rfl) (by kernel_rfl) (fun _ _ _ h => h) (by rfl) (v := ?v1a) ?hy1a hS ?rest1a
      case hy1a => intro w0 hSw; obtain ⟨a0, a1⟩ := hSw; go_simp; try with_reducible rfl
      simp only [Act.put, List.setIfInBounds_toArray, List.set_cons_zero, List.set_cons_succ]
      refine late_take (i := 2) (some 35) rfl rfl (by kernel_rfl) (by kernel_rfl) (by kernel_rfl) (by kernel_rfl) (by kernel_rfl) (fun _ _ _ h => h) (by rfl) (v := ?v2a) ?hy2a hS ?rest2a
      case hy2a => intro w0 hSw; obtain ⟨a0, a1⟩ := hSw; go_simp; try with_reducible rfl
      simp only [Act.put, List.setIfInBounds_toArray, List.set_cons_zero, List.set_cons_succ]
      refine late_take (i := 3) (some 36) rfl rfl (by kernel_rfl) (by kernel_rfl) (by kernel_rfl) (by kernel_rfl) (by kernel_rfl) (fun _ _ _ h => h) (by rfl) (v := ?v3a) ?hy3a hS ?rest3a
      case hy3a => intro w0 hSw; obtain ⟨a0, a1⟩ := hSw; go_simp; try with_reducible rfl
      simp only [Act.put, List.setIfInBounds_toArray, List.set_cons_zero, List.set_cons_succ]
      refine late_take (i := 4) (some 37) rfl rfl (by kernel_rfl) (by kernel_rfl) (by kernel_rfl) (by kernel_rfl) (by kernel_rfl) (fun _ _ _ h => h) (by rfl) (v := ?v4a) ?hy4a hS ?rest4a
      case hy4a => intro w0 hSw; obtain ⟨a0, a1⟩ := hSw; go_simp; try with_reducible rfl
      simp only [Act.put, List.setIfInBounds_toArray, List.set_cons_zero, List.set_cons_succ]
      refine late_take (i := 5) (some 38) rfl rfl (by kernel_rfl) (by kernel_rfl) (by kernel_rfl) (by kernel_rfl) (by kernel_rfl) (fun _ _ _ h => h) (by rfl) (v := ?v5a) ?hy5a hS ?rest5a
      case hy5a => intro w0 hSw; obtain ⟨a0, a1⟩ := hSw; go_simp; try with_reducible rfl
      simp only [Act.put, List.setIfInBounds_toArray, List.set_cons_zero, List.set_cons_succ]
      refine late_take (i := 6) (some 39) rfl rfl (by kernel_rfl) (by kernel_rfl) (by kernel_rfl) (by kernel_rfl) (by kernel_rfl) (fun _ _ _ h => h) (by rfl) (v := ?v6a) ?hy6a hS ?rest6a
      case hy6a => intro w0 hSw; obtain ⟨a0, a1⟩ := hSw; go_simp; try with_reducible rfl
      simp only [Act.put, List.setIfInBounds_toArray, List.set_cons_zero, List.set_cons_succ]
      refine late_take (i := 7) (some 40) rfl rfl (by kernel_rfl) (by kernel_rfl) (by kernel_rfl) (by kernel_rfl) (by kernel_rfl) (fun _ _ _ h => h) (by rfl) (v := ?v7a) ?hy7a hS ?rest7a
      case hy7a => intro w0 hSw; obtain ⟨a0, a1⟩ := hSw; go_simp; try with_reducible rfl
      simp only [Act.put, List.setIfInBounds_toArray, List.set_cons_zero, List.set_cons_succ]
      refine late_take (i := 8) (some 41) rfl rfl (by kernel_rfl) (by kernel_rfl) (by kernel_rfl) (by kernel_rfl) (by kernel_rfl) (fun _ _ _ h => h) (by rfl) (v := ?v8a) ?hy8a hS ?rest8a
      case hy8a => intro w0 hSw; obtain ⟨a0, a1⟩ := hSw; go_simp; try with_reducible rfl
      simp only [Act.put, List.setIfInBounds_toArray, List.set_cons_zero, List.set_cons_succ]
      refine late_take (i := 9) (some 42) rfl rfl (by kernel_rfl) (by kernel_rfl) (by kernel_rfl) (by kernel_rfl) (by kernel_rfl) (fun _ _ _ h => h) (by rfl) (v := ?v9a) ?hy9a hS ?rest9a
      case hy9a => intro w0 hSw; obtain ⟨a0, a1⟩ := hSw; go_simp; try with_reducible rfl
      simp only [Act.put, List.setIfInBounds_toArray, List.set_cons_zero, List.set_cons_succ]
      refine late_take (i := 10) (some 43) rfl rfl (by kernel_rfl) (by kernel_rfl) (by kernel_rfl) (by kernel_rfl) (by kernel_rfl) (fun _ _ _ h => h) (by rfl) (v := ?v10a) ?hy10a hS ?rest10a
      case hy10a => intro w0 hSw; obtain ⟨a0, a1⟩ := hSw; go_simp; try with_reducible rfl
      simp only [Act.put, List.setIfInBounds_toArray, List.set_cons_zero, List.set_cons_succ]
      refine wpAnyD_one (i := 11) (by kernel_rfl) rfl (fun K hK => ?_)
      go_simp
      go_at_call 8
      (with_reducible refine (HAd.out _ HF0.out).mono ?_)
      rintro e w4 ⟨rfl, h4⟩
      have HF4 := hid h4
      have hS4 : OneL w4 g o i Sx D := HLs.out _ h4.low
      clear h4
      refine hK _ _ ⟨fun _ => hS4, ?_⟩
      clear hK K
      refine late_take (i := 12) (some 8) rfl rfl (by kernel_rfl) (by kernel_rfl) (by kernel_rfl) (by kernel_rfl) (by kernel_rfl) (fun _ _ _ h => h) (by rfl) (v := ?v12a) ?hy12a hS4 ?rest12a
      case hy12a => intro w0 hSw; obtain ⟨a0, a1⟩ := hSw; go_simp; try with_reducible rfl
      simp only [Act.put, List.setIfInBounds_toArray, List.set_cons_zero, List.set_cons_succ]
      refine late_done (by kernel_rfl) ?_ _
      refine NoPanic.normal ?_
      have HF4d := hid (HF4.out.next (same_drew1 w4).below)
      have hS4d : OneL w4.drew g o i Sx D := HLs.out _ HF4d.out.low
      go_wp2
      refine wp_region_noPanic ?_
      refine any_begin 17 (by kernel_rfl) (by kernel_rfl) ?_
      refine late_begin (fun U => OneL U g o i Sx D) (fun _ => false) hS4d (fun hS => ?_)
      refine late_take (i := 0) (some 46) rfl rfl (by kernel_rfl) (by kernel_rfl) (by kernel_rfl) (by kernel_rfl) (by kernel_rfl) (fun _ _ _ h => h) (by rfl) (v := ?v0b) ?hy0b hS ?rest0b
      case hy0b => intro w0 hSw; obtain ⟨a0, a1⟩ := hSw; go_simp; try with_reducible rfl
      simp only [Act.put, List.setIfInBounds_toArray, List.set_cons_zero, List.set_cons_succ]
      refine late_take (i := 1) (some 47) rfl rfl (by kernel_rfl) (by kernel_rfl) (by kernel_rfl) (by kernel_rfl) (by kernel_rfl) (fun _ _ _ h => h) (by rfl) (v := ?v1b) ?hy1b hS ?rest1b
      case hy1b => intro w0 hSw; obtain ⟨a0, a1⟩ := hSw; go_simp; try with_reducible rfl
      simp only [Act.put, List.setIfInBounds_toArray, List.set_cons_zero, List.set_cons_succ]
      refine late_take (i := 2) (some 48) rfl rfl (by kernel_rfl) (by kernel_rfl) (by kernel_rfl) (by kernel_rfl) (by kernel_rfl) (fun _ _ _ h => h) (by rfl) (v := ?v2b) ?hy2b hS ?rest2b
      case hy2b => intro w0 hSw; obtain ⟨a0, a1⟩ := hSw; go_simp; try with_reducible rfl
      simp only [Act.put, List.setIfInBounds_toArray, List.set_cons_zero, List.set_cons_succ]
      refine late_take (i := 3) (some 49) rfl rfl (by kernel_rfl) (by kernel_rfl) (by kernel_rfl) (by kernel_rfl) (by kernel_rfl) (fun _ _ _ h => h) (by rfl) (v := ?v3b) ?hy3b hS ?rest3b
      case hy3b => intro w0 hSw; obtain ⟨a0, a1⟩ := hSw; go_simp; try with_reducible rfl
      simp only [Act.put, List.setIfInBounds_toArray, List.set_cons_zero, List.set_cons_succ]
      refine late_take (i := 4) (some 50) rfl rfl (by kernel_rfl) (by kernel_rfl) (by kernel_rfl) (by kernel_rfl) (by kernel_rfl) (fun _ _ _ h => h) (by rfl) (v := ?v4b) ?hy4b hS ?rest4b
      case hy4b => intro w0 hSw; obtain ⟨a0, a1⟩ := hSw; go_simp; try with_reducible rfl
      simp only [Act.put, List.setIfInBounds_toArray, List.set_cons_zero, List.set_cons_succ]
      refine late_take (i := 5) (some 51) rfl rfl (by kernel_rfl) (by kernel_rfl) (by kernel_rfl) (by kernel_rfl) (by kernel_rfl) (fun _ _ _ h => h) (by rfl) (v := ?v5b) ?hy5b hS ?rest5b
      case hy5b => intro w0 hSw; obtain ⟨a0, a1⟩ := hSw; go_simp; try with_reducible rfl
      simp only [Act.put, List.setIfInBounds_toArray, List.set_cons_zero, List.set_cons_succ]
      refine late_take (i := 6) (some 52) rfl rfl (by kernel_rfl) (by kernel_rfl) (by kernel_rfl) (by kernel_rfl) (by kernel_rfl) (fun _ _ _ h => h) (by rfl) (v := ?v6b) ?hy6b hS ?rest6b
      case hy6b => intro w0 hSw; obtain ⟨a0, a1⟩ := hSw; go_simp; try with_reducible rfl
      simp only [Act.put, List.setIfInBounds_toArray, List.set_cons_zero, List.set_cons_succ]
      refine late_take (i := 7) (some 53) rfl rfl (by kernel_rfl) (by kernel_rfl) (by kernel_rfl) (by kernel_rfl) (by kernel_rfl) (fun _ _ _ h => h) (by rfl) (v := ?v7b) ?hy7b hS ?rest7b
      case hy7b => intro w0 hSw; obtain ⟨a0, a1⟩ := hSw; go_simp; try with_reducible rfl
      simp only [Act.put, List.setIfInBounds_toArray, List.set_cons_zero, List.set_cons_succ]
      refine late_take (i := 8) (some 54) rfl rfl (by kernel_rfl) (by kernel_rfl) (by kernel_rfl) (by kernel_rfl) (by kernel_rfl) (fun _ _ _ h => h) (by rfl) (v := ?v8b) ?hy8b hS ?rest8b
      case hy8b => intro w0 hSw; obtain ⟨a0, a1⟩ := hSw; go_simp; try with_reducible rfl
      simp only [Act.put, List.setIfInBounds_toArray, List.set_cons_zero, List.set_cons_succ]
      refine late_take (i := 9) (some 55) rfl rfl (by kernel_rfl) (by kernel_rfl) (by kernel_rfl) (by kernel_rfl) (by kernel_rfl) (fun _ _ _ h => h) (by rfl) (v := ?v9b) ?hy9b hS ?rest9b
      case hy9b => intro w0 hSw; obtain ⟨a0, a1⟩ := hSw; go_simp; try with_reducible rfl
      simp only [Act.put, List.setIfInBounds_toArray, List.set_cons_zero, List.set_cons_succ]
      refine late_take (i := 10) (some 56) rfl rfl (by kernel_rfl) (by kernel_rfl) (by kernel_rfl) (by kernel_rfl) (by kernel_rfl) (fun _ _ _ h => h) (by rfl) (v := ?v10b) ?hy10b hS ?rest10b
      case hy10b => intro w0 hSw; obtain ⟨a0, a1⟩ := hSw; go_simp; try with_reducible rfl
      simp only [Act.put, List.setIfInBounds_toArray, List.set_cons_zero, List.set_cons_succ]
      refine wpAnyD_one (i := 11) (by kernel_rfl) rfl (fun K hK => ?_)
      go_simp
      go_at_call 9
      (with_reducible refine (HRd.out _ HF4d.out).mono ?_)
      rintro e w5 ⟨q5, m5, d5, rfl, hm5, h5⟩
      have HF5 := hid h5
      have HM5 := hid hm5
      have hS5 : OneL w5 g o i Sx D := HLs.out _ h5.low
      clear h5 hm5
      refine hK _ _ ⟨fun _ => hS5, ?_⟩
      clear hK K
      refine late_take (i := 12) (some 45) rfl rfl (by kernel_rfl) (by kernel_rfl) (by kernel_rfl) (by kernel_rfl) (by kernel_rfl) (fun _ _ _ h => h) (by rfl) (v := ?v12b) ?hy12b hS5 ?rest12b
      case hy12b => intro w0 hSw; obtain ⟨a0, a1⟩ := hSw; go_simp; try with_reducible rfl
      simp only [Act.put, List.setIfInBounds_toArray, List.set_cons_zero, List.set_cons_succ]
      refine late_take (i := 13) (some 58) rfl rfl (by kernel_rfl) (by kernel_rfl) (by kernel_rfl) (by kernel_rfl) (by kernel_rfl) (fun _ _ _ h => h) (by rfl) (v := ?v13b) ?hy13b hS5 ?rest13b
      case hy13b => intro w0 hSw; obtain ⟨a0, a1⟩ := hSw; go_simp; try with_reducible rfl
      simp only [Act.put, List.setIfInBounds_toArray, List.set_cons_zero, List.set_cons_succ]
      refine late_take (i := 14) (some 59) rfl rfl (by kernel_rfl) (by kernel_rfl) (by kernel_rfl) (by kernel_rfl) (by kernel_rfl) (fun _ _ _ h => h) (by rfl) (v := ?v14b) ?hy14b hS5 ?rest14b
      case hy14b => intro w0 hSw; obtain ⟨a0, a1⟩ := hSw; go_simp; try with_reducible rfl
      simp only [Act.put, List.setIfInBounds_toArray, List.set_cons_zero, List.set_cons_succ]
      refine late_take (i := 15) (some 9) rfl rfl (by kernel_rfl) (by kernel_rfl) (by kernel_rfl) (by kernel_rfl) (by kernel_rfl) (fun _ _ _ h => h) (by rfl) (v := ?v15b) ?hy15b hS5 ?rest15b
      case hy15b => intro w0 hSw; obtain ⟨a0, a1⟩ := hSw; go_simp; try with_reducible rfl
      simp only [Act.put, List.setIfInBounds_toArray, List.set_cons_zero, List.set_cons_succ]
      refine late_take (i := 16) (some 10) rfl rfl (by kernel_rfl) (by kernel_rfl) (by kernel_rfl) (by kernel_rfl) (by kernel_rfl) (fun _ _ _ h => h) (by rfl) (v := ?v16b) ?hy16b hS5 ?rest16b
      case hy16b => intro w0 hSw; obtain ⟨a0, a1⟩ := hSw; go_simp; try with_reducible rfl
      simp only [Act.put, List.setIfInBounds_toArray, List.set_cons_zero, List.set_cons_succ]
      refine late_done (by kernel_rfl) ?_ _
      refine NoPanic.normal ?_
      have HF5d := hid (HF5.out.next (same_drew1 w5).below)
      have hS5d : OneL w5.drew g o i Sx D := HLs.out _ HF5d.out.low
      have HE5d := hid (HE.out.next HF5d.out.low)
      go_wp2
      refine wp_region_noPanic ?_
      refine any_begin 20 (by kernel_rfl) (by kernel_rfl) ?_
      refine late_begin (fun U => OneL U g o i Sx D) (fun _ => false) hS5d (fun hS => ?_)
      refine late_take (i := 0) (some 61) rfl rfl (by kernel_rfl) (by kernel_rfl) (by kernel_rfl) (by kernel_rfl) (by kernel_rfl) (fun _ _ _ h => h) (by rfl) (v := ?v0c) ?hy0c hS ?rest0c
      case hy0c => intro w0 hSw; obtain ⟨a0, a1⟩ := hSw; go_simp; try with_reducible rfl
      simp only [Act.put, List.setIfInBounds_toArray, List.set_cons_zero, List.set_cons_succ]
      refine late_take (i := 2) (some 63) rfl rfl (by kernel_rfl) (by kernel_rfl) (by kernel_rfl) (by kernel_rfl) (by kernel_rfl) (fun _ _ _ h => h) (by rfl) (v := ?v2c) ?hy2c hS ?rest2c
      case hy2c => intro w0 hSw; obtain ⟨a0, a1⟩ := hSw; go_simp; try with_reducible rfl
      simp only [Act.put, List.setIfInBounds_toArray, List.set_cons_zero, List.set_cons_succ]
      refine wpAnyD_one (i := 1) (by kernel_rfl) rfl (fun K hK => ?_)
      go_simp
      go_at_call 10
      (with_reducible refine (HNu.out _ HE5d.out).mono ?_)
      rintro e w6 ⟨rfl, hb6⟩
      have HF6 := hid (HF5d.out.next hb6)
      have HE6 := hid (HE5d.out.next hb6)
      have hS6 : OneL w6 g o i Sx D := HLs.out _ HF6.out.low
      clear hb6
      refine hK _ _ ⟨fun _ => hS6, ?_⟩
      clear hK K
      refine late_take (i := 3) (some 64) rfl rfl (by kernel_rfl) (by kernel_rfl) (by kernel_rfl) (by kernel_rfl) (by kernel_rfl) (fun _ _ _ h => h) (by rfl) (v := .bool false) ?hy3c hS6 ?rest3c
      case hy3c => intro w0 hSw; obtain ⟨a0, a1⟩ := hSw; go_simp; (try simp)
      simp only [Act.put, List.setIfInBounds_toArray, List.set_cons_zero, List.set_cons_succ]
      refine late_take (i := 4) (some 65) rfl rfl (by kernel_rfl) (by kernel_rfl) (by kernel_rfl) (by kernel_rfl) (by kernel_rfl) (fun _ _ _ h => h) (by rfl) (v := ?v4c) ?hy4c hS6 ?rest4c
      case hy4c => intro w0 hSw; obtain ⟨a0, a1⟩ := hSw; go_simp; try with_reducible rfl
      simp only [Act.put, List.setIfInBounds_toArray, List.set_cons_zero, List.set_cons_succ]
      refine late_take (i := 5) (some 66) rfl rfl (by kernel_rfl) (by kernel_rfl) (by kernel_rfl) (by kernel_rfl) (by kernel_rfl) (fun _ _ _ h => h) (by rfl) (v := ?v5c) ?hy5c hS6 ?rest5c
      case hy5c => intro w0 hSw; obtain ⟨a0, a1⟩ := hSw; go_simp; try with_reducible rfl
      simp only [Act.put, List.setIfInBounds_toArray, List.set_cons_zero, List.set_cons_succ]
      refine late_take (i := 6) (some 67) rfl rfl (by kernel_rfl) (by kernel_rfl) (by kernel_rfl) (by kernel_rfl) (by kernel_rfl) (fun _ _ _ h => h) (by rfl) (v := ?v6c) ?hy6c hS6 ?rest6c
      case hy6c => intro w0 hSw; obtain ⟨a0, a1⟩ := hSw; go_simp; try with_reducible rfl
      simp only [Act.put, List.setIfInBounds_toArray, List.set_cons_zero, List.set_cons_succ]
      refine late_take (i := 7) (some 68) rfl rfl (by kernel_rfl) (by kernel_rfl) (by kernel_rfl) (by kernel_rfl) (by kernel_rfl) (fun _ _ _ h => h) (by rfl) (v := ?v7c) ?hy7c hS6 ?rest7c
      case hy7c => intro w0 hSw; obtain ⟨a0, a1⟩ := hSw; go_simp; try with_reducible rfl
      simp only [Act.put, List.setIfInBounds_toArray, List.set_cons_zero, List.set_cons_succ]
      refine late_take (i := 8) (some 69) rfl rfl (by kernel_rfl) (by kernel_rfl) (by kernel_rfl) (by kernel_rfl) (by kernel_rfl) (fun _ _ _ h => h) (by rfl) (v := ?v8c) ?hy8c hS6 ?rest8c
      case hy8c => intro w0 hSw; obtain ⟨a0, a1⟩ := hSw; go_simp; try with_reducible rfl
      simp only [Act.put, List.setIfInBounds_toArray, List.set_cons_zero, List.set_cons_succ]
      refine late_take (i := 9) (some 70) rfl rfl (by kernel_rfl) (by kernel_rfl) (by kernel_rfl) (by kernel_rfl) (by kernel_rfl) (fun _ _ _ h => h) (by rfl) (v := ?v9c) ?hy9c hS6 ?rest9c
      case hy9c => intro w0 hSw; obtain ⟨a0, a1⟩ := hSw; go_simp; try with_reducible rfl
      simp only [Act.put, List.setIfInBounds_toArray, List.set_cons_zero, List.set_cons_succ]
      refine late_take (i := 12) (some 73) rfl rfl (by kernel_rfl) (by kernel_rfl) (by kernel_rfl) (by kernel_rfl) (by kernel_rfl) (fun _ _ _ h => h) (by rfl) (v := ?v12c) ?hy12c hS6 ?rest12c
      case hy12c => intro w0 hSw; obtain ⟨a0, a1⟩ := hSw; go_simp; try with_reducible rfl
      simp only [Act.put, List.setIfInBounds_toArray, List.set_cons_zero, List.set_cons_succ]
      refine late_take (i := 13) (some 74) rfl rfl (by kernel_rfl) (by kernel_rfl) (by kernel_rfl) (by kernel_rfl) (by kernel_rfl) (fun _ _ _ h => h) (by rfl) (v := ?v13c) ?hy13c hS6 ?rest13c
      case hy13c => intro w0 hSw; obtain ⟨a0, a1⟩ := hSw; go_simp; try with_reducible rfl
      simp only [Act.put, List.setIfInBounds_toArray, List.set_cons_zero, List.set_cons_succ]
      refine late_take (i := 14) (some 75) rfl rfl (by kernel_rfl) (by kernel_rfl) (by kernel_rfl) (by kernel_rfl) (by kernel_rfl) (fun _ _ _ h => h) (by rfl) (v := ?v14c) ?hy14c hS6 ?rest14c
      case hy14c => intro w0 hSw; obtain ⟨a0, a1⟩ := hSw; go_simp; try with_reducible rfl
      simp only [Act.put, List.setIfInBounds_toArray, List.set_cons_zero, List.set_cons_succ]
      refine late_take (i := 15) (some 76) rfl rfl (by kernel_rfl) (by kernel_rfl) (by kernel_rfl) (by kernel_rfl) (by kernel_rfl) (fun _ _ _ h => h) (by rfl) (v := ?v15c) ?hy15c hS6 ?rest15c
      case hy15c => intro w0 hSw; obtain ⟨a0, a1⟩ := hSw; go_simp; try with_reducible rfl
      simp only [Act.put, List.setIfInBounds_toArray, List.set_cons_zero, List.set_cons_succ]
      refine late_take (i := 16) (some 77) rfl rfl (by kernel_rfl) (by kernel_rfl) (by kernel_rfl) (by kernel_rfl) (by kernel_rfl) (fun _ _ _ h => h) (by rfl) (v := ?v16c) ?hy16c hS6 ?rest16c
      case hy16c => intro w0 hSw; obtain ⟨a0, a1⟩ := hSw; go_simp; try with_reducible rfl
      simp only [Act.put, List.setIfInBounds_toArray, List.set_cons_zero, List.set_cons_succ]
      refine wpAnyD_one (i := 10) (by kernel_rfl) rfl (fun K hK => ?_)
      go_simp
      go_at_call 11
      (with_reducible refine (HCp.out _ (mx_ord HMx.out HF6.out.low)).mono ?_)
      rintro e w7 ⟨rfl, hb7⟩
      have HF7 := hid (HF6.out.next hb7)
      have HE7 := hid (HE6.out.next hb7)
      have hS7 : OneL w7 g o i Sx D := HLs.out _ HF7.out.low
      clear hb7
      refine hK _ _ ⟨fun _ => hS7, ?_⟩
      clear hK K
      refine wpAnyD_one (i := 11) (by kernel_rfl) rfl (fun K hK => ?_)
      go_simp
      go_at_call 10
      (with_reducible refine (HNc.out _ HE7.out).mono ?_)
      rintro e w8 ⟨rfl, hb8⟩
      have HF8 := hid (HF7.out.next hb8)
      have hS8 : OneL w8 g o i Sx D := HLs.out _ HF8.out.low
      clear hb8
      refine hK _ _ ⟨fun _ => hS8, ?_⟩
      clear hK K
      refine wpAnyD_one (i := 17) (by kernel_rfl) rfl (fun K hK => ?_)
      go_simp
      go_at_call 12
      (with_reducible refine (HCd.out _).mono ?_)
      rintro e w9 ⟨rfl, hb9⟩
      have HF9 := hid (HF8.out.next hb9)
      have hS9 : OneL w9 g o i Sx D := HLs.out _ HF9.out.low
      clear hb9
      refine hK _ _ ⟨fun _ => hS9, ?_⟩
      clear hK K
      refine late_take (i := 18) (some 79) rfl rfl (by kernel_rfl) (by kernel_rfl) (by kernel_rfl) (by kernel_rfl) (by kernel_rfl) (fun _ _ _ h => h) (by rfl) (v := .bool false) ?hy18c hS9 ?rest18c
      case hy18c => intro w0 hSw; obtain ⟨a0, a1⟩ := hSw; go_simp; (try simp)
      simp only [Act.put, List.setIfInBounds_toArray, List.set_cons_zero, List.set_cons_succ]
      refine late_take (i := 19) (some 80) rfl rfl (by kernel_rfl) (by kernel_rfl) (by kernel_rfl) (by kernel_rfl) (by kernel_rfl) (fun _ _ _ h => h) (by rfl) (v := ?v19c) ?hy19c hS9 ?rest19c
      case hy19c => intro w0 hSw; obtain ⟨a0, a1⟩ := hSw; go_simp; try with_reducible rfl
      simp only [Act.put, List.setIfInBounds_toArray, List.set_cons_zero, List.set_cons_succ]
      refine late_done (by kernel_rfl) ?_ _
      refine NoPanic.normal ?_
      go_wp2
      go_roundg (60 - (i + 1) + 1)
      case measure => omega
      case rel => exact ⟨i + 1, m5, d5, q5, Q, by omega, by omega, rfl, by push_cast; go_num, rfl, HM5.out, by have h9 := HM5.out; omega, by rw [Nat.mul_succ]; exact HF9.out⟩
    · by_cases hin1 : i < nl
      · have hd1 : decide ((i : Int) < (nl : Int)) = true := decide_eq_true (by omega)
        have hi6 : ¬ i < 60 := fun h => hin ⟨hin1, h⟩
        have hd2 : decide ((i : Int) < 60) = false := decide_eq_false (by omega)
        obtain ⟨M, hM⟩ : ∃ M, 64 * i = M := ⟨_, rfl⟩
        rw [hM] at HF
        have hn60 : n ≤ 60 := by omega
        clear hM
        go_wp2
        go_loopg [11] (31) (fun gk s11 wv => ∃ j : Nat, j ≤ np ∧ j ≤ 30 ∧ gk = 30 - j + 1 ∧ s11 = .int .i64 (j : Int) ∧ Fnd w wv t P P M (.slice pr n c))
        case atStart => exact ⟨0, by omega, by omega, rfl, rfl, HF.out⟩
        case round =>
          obtain ⟨j, hj, hj30, rfl, rfl, hfv⟩ := hrel
          rename World => wv
          have HFv := hid hfv
          clear hfv
          by_cases hjn : j < np ∧ j < 30
          · obtain ⟨hj1, hj2⟩ := hjn
            have he1 : decide ((j : Int) < (np : Int)) = true := decide_eq_true (by omega)
            have he2 : decide ((j : Int) < 30) = true := decide_eq_true (by omega)
            obtain ⟨s, hs⟩ : ∃ s, ps[j]? = some s := ⟨_, List.getElem?_eq_getElem (by rw [HNp.out]; exact hj1)⟩
            have hsl := HPl.out s (List.mem_of_getElem? hs)
            obtain ⟨Ss, hSs⟩ : ∃ S, str s = S := ⟨_, rfl⟩
            obtain ⟨g, o, hpp, q1⟩ := (HQ.out.next HFv.out.low) j s hs
            have HCl := hid (show ∀ W, Below w.heap.size w W → W.cell? ⟨g, o + j, none⟩ = some (.string Ss) from fun W hb => by
              obtain ⟨g', o', e', c'⟩ := (HQ.out.next hb) j s hs
              rw [hpp] at e'
              injection e' with e'; injection e' with e1 e2; subst e1 e2; rw [← hSs]; exact c')
            subst hpp
            rw [hSs] at q1
            have HFd := hid (show (begB 47 s = false) ∨ (begB 47 s = true ∧ ∀ p ∈ P, fitsT (cutT p.1.tail) (cutT s.tail) = none) ∨ (begB 47 s = true ∧ ∃ p F, p ∈ P ∧ fitsT (cutT p.1.tail) (cutT s.tail) = some F ∧ ∀ x ∈ P, (fitsT (cutT x.1.tail) (cutT s.tail)).isSome = true → x = p ∨ betterT (cutT p.1.tail) (cutT x.1.tail) = true) from by
              cases hb : begB 47 s with
              | false => exact .inl rfl
              | true =>
                obtain ⟨G, es, v, ht⟩ := HFv.out.tr
                rcases ht.found (cutT s.tail) with ⟨_, h2⟩ | ⟨e0, p, _, h2, _, h4, h5⟩
                · exact .inr (.inl ⟨rfl, h2⟩)
                · obtain ⟨F, hF⟩ := Option.isSome_iff_exists.1 h4
                  exact .inr (.inr ⟨rfl, p, F, h2, hF, h5⟩))
            rcases HFd.out with hb | ⟨hb, hno⟩ | ⟨hb, p, F, hpm, hf, hbest⟩
            · have HFa := hid (fun (W : World) (h : Fnd w W t P P M (.slice pr n c)) => find_f h.tr (mx_ord HMx.out h.low) s hsl hb)
              have HFb := hid (fun (W : World) (h : Fnd w W t P P M (.slice pr n c)) => rfind_f HFine.out HAp.out s hsl pr n c HN.out (by omega) h.row hb)
              have HNu := hid (fun (W : World) (h : EnvE W) => num_any 3 W h)
              rw [errOf3] at HNu
              rw [hSs] at HFa HFb
              clear hb hSs hs
              go_wp2_with (first | (go_at_call 13; (with_reducible refine (HFa.out _ HFv.out).mono ?_); rintro e w5 ⟨rfl, hb5⟩; have HF5 := hid (HFv.out.next hb5); have q2 := HCl.out _ HF5.out.low; clear hb5) | (go_at_call 14; (with_reducible refine (HFb.out _ HF5.out).mono ?_); rintro e w6 ⟨rfl, hb6⟩; have HF6 := hid (HF5.out.next hb6); have HE6 := hid (HE.out.next HF6.out.low); clear hb6) | (go_at_call 15; (with_reducible refine (fields_same [] none none 0 0 0 rfl _ (fat_nil _) (fat_nil _) (by omega)).mono ?_); rintro e w7 ⟨rfl, hb7⟩; have HF7 := hid (HF6.out.next hb7); have HE7 := hid (HE6.out.next hb7); clear hb7) | (go_at_call 10; (with_reducible refine (HNu.out _ HE7.out).mono ?_); rintro e w8 ⟨rfl, hb8⟩; have HF8 := hid (HF7.out.next hb8); clear hb8))
              go_roundg (30 - (j + 1) + 1)
              case measure => omega
              case rel => exact ⟨j + 1, by omega, by omega, rfl, by push_cast; go_num, HF8.out⟩
            · have HFa := hid (fun (W : World) (h : Fnd w W t P P M (.slice pr n c)) => find_n h.tr (mx_ord HMx.out h.low) s hsl hb hno)
              have HFb := hid (fun (W : World) (h : Fnd w W t P P M (.slice pr n c)) => rfind_n HFine.out HAp.out s hsl pr n c HN.out (by omega) h.row hb hno)
              have HNu := hid (fun (W : World) (h : EnvE W) => num_any 8 W h)
              rw [errOf8] at HNu
              rw [hSs] at HFa HFb
              clear hb hno hSs hs
              go_wp2_with (first | (go_at_call 13; (with_reducible refine (HFa.out _ HFv.out).mono ?_); rintro e w5 ⟨rfl, hb5⟩; have HF5 := hid (HFv.out.next hb5); have q2 := HCl.out _ HF5.out.low; clear hb5) | (go_at_call 14; (with_reducible refine (HFb.out _ HF5.out).mono ?_); rintro e w6 ⟨rfl, hb6⟩; have HF6 := hid (HF5.out.next hb6); have HE6 := hid (HE.out.next HF6.out.low); clear hb6) | (go_at_call 15; (with_reducible refine (fields_same [] none none 0 0 0 rfl _ (fat_nil _) (fat_nil _) (by omega)).mono ?_); rintro e w7 ⟨rfl, hb7⟩; have HF7 := hid (HF6.out.next hb7); have HE7 := hid (HE6.out.next hb7); clear hb7) | (go_at_call 10; (with_reducible refine (HNu.out _ HE7.out).mono ?_); rintro e w8 ⟨rfl, hb8⟩; have HF8 := hid (HF7.out.next hb8); clear hb8))
              go_roundg (30 - (j + 1) + 1)
              case measure => omega
              case rel => exact ⟨j + 1, by omega, by omega, rfl, by push_cast; go_num, HF8.out⟩
            · obtain ⟨L, hL⟩ : ∃ L, F.length = L := ⟨_, rfl⟩
              have hLb : L ≤ 64 := by rw [← hL]; exact fits_few ((fitsO_of (HFine.out p hpm) hb).trans (by rw [hf]))
              have HFa := hid (fun (W : World) (h : Fnd w W t P P M (.slice pr n c)) => find_y h.tr (mx_ord HMx.out h.low) s hsl hb (fun x => Iff.rfl) hL hpm hf hbest)
              have HFb := hid (fun (W : World) (h : Fnd w W t P P M (.slice pr n c)) => rfind_y HFine.out HAp.out s hsl pr n c HN.out (by omega) h.row hb hL hpm hf hbest)
              have HNu := hid (fun (W : World) (h : EnvE W) => num_any 0 W h)
              rw [errOf_zero] at HNu
              have HLF := hid hL
              obtain ⟨ID, hID⟩ : ∃ x9, p.2 = x9 := ⟨_, rfl⟩
              rw [hID] at HFa HFb
              rw [hSs] at HFa HFb
              clear hb hf hbest hpm hL hID hSs hs
              go_wp2_with (first | (go_at_call 13; (with_reducible refine (HFa.out _ HFv.out).mono ?_); rintro e w5 ⟨hb5, q5, d5, rfl, hf5⟩; have HF5 := hid (HFv.out.next hb5); have q2 := HCl.out _ HF5.out.low; have HG5 := hid hf5; clear hb5 hf5) | (go_at_call 14; (with_reducible refine (HFb.out _ HF5.out).mono ?_); rintro e w6 ⟨hb6, q6, d6, rfl, hf6⟩; have HF6 := hid (HF5.out.next hb6); have HE6 := hid (HE.out.next HF6.out.low); have HG56 := hid (HG5.out.next hb6); have HG6 := hid hf6; clear hb6 hf6) | (go_at_call 15; (with_reducible refine (fields_same F _ _ L _ _ HLF.out _ HG56.out HG6.out (by omega)).mono ?_); rintro e w7 ⟨rfl, hb7⟩; have HF7 := hid (HF6.out.next hb7); have HE7 := hid (HE6.out.next hb7); clear hb7) | (go_at_call 10; (with_reducible refine (HNu.out _ HE7.out).mono ?_); rintro e w8 ⟨rfl, hb8⟩; have HF8 := hid (HF7.out.next hb8); clear hb8))
              go_roundg (30 - (j + 1) + 1)
              case measure => omega
              case rel => exact ⟨j + 1, by omega, by omega, rfl, by push_cast; go_num, HF8.out⟩
          · by_cases hj1 : j < np
            · have he1 : decide ((j : Int) < (np : Int)) = true := decide_eq_true (by omega)
              have hj4 : ¬ j < 30 := fun h => hjn ⟨hj1, h⟩
              have he2 : decide ((j : Int) < 30) = false := decide_eq_false (by omega)
              have HAl := hid (show ∀ W, Fnd w W t P P M (.slice pr n c) → Calls Tryd.prog 18 #[.pointer (some ⟨t, 0, none⟩)] W fun e w' => ∃ q d, e = .returned (.slice q n d) ∧ TxAt w' q (P.map (·.1)) ∧ Below W.heap.size W w' from fun W h => by obtain ⟨G, es, v, ht⟩ := h.tr; have h9 := all_any ht (by rw [HN.out]; omega); rw [HN.out] at h9; exact h9)
              have HLe := hid (show ∀ W, Fnd w W t P P M (.slice pr n c) → Calls Tryd.prog 16 #[.pointer (some ⟨t, 0, none⟩)] W fun e w' => e = .returned (.int .i64 (n : Int)) ∧ w' = W from fun W h => by obtain ⟨G, es, v, ht⟩ := h.tr; have h9 := len_any ht; rw [HN.out] at h9; exact h9)
              go_wp2
              go_loopg [18, 19] (n + 1) (fun gk s18 s19 wu => ∃ (i d : Nat) (qa : Option Addr) (acc : List B), i ≤ n ∧ gk = n - i + 1 ∧ s19 = .int .i64 (i : Int) ∧ s18 = .slice qa i d ∧ acc.length = i ∧ acc = (P.take i).map (·.1) ∧ OwnT wu wv.heap.size (.slice qa i d) acc ∧ Below wv.heap.size wv wu)
              case atStart => exact ⟨0, 0, none, [], by omega, rfl, rfl, rfl, rfl, rfl, OwnR.nil _ _, Below.refl _ _⟩
              case round =>
                obtain ⟨i, d, qa, acc, hi, rfl, rfl, rfl, hka, hacc, hoa, hbu⟩ := hrel
                rename World => wu
                have HKa := hid hka
                have HAc := hid hacc
                have HOa := hid hoa
                have HBu := hid hbu
                clear hka hacc hoa hbu
                have HFu := hid (HFv.out.next HBu.out)
                by_cases hlt : i < n
                · obtain ⟨x, hx⟩ : ∃ x, P[i]? = some x := ⟨_, List.getElem?_eq_getElem (by rw [HN.out]; exact hlt)⟩
                  obtain ⟨g, o, rfl, q1, q2⟩ := (OwnP.pt HFu.out.row) i x hx
                  obtain ⟨Ss, hSs⟩ : ∃ S, str x.1 = S := ⟨_, rfl⟩
                  have HSs := hid (show [Value.string (str x.1)] = [.string Ss] from by rw [hSs])
                  rw [hSs] at q1
                  have HAn := hid (show acc ++ [x.1] = (P.take (i + 1)).map (·.1) from by rw [List.take_add_one, hx, HAc.out]; simp)
                  clear hx hSs
                  go_wp2_with (at_builtin; refine wpList_append_own_at _ rfl (.tmp 132) (.tmp 138) 23 rfl wv.heap.size 9 j0 _ 1 16 Tryd.underlying23 hj0 hy0 hy1 hy2 rfl (by decide) (.slice qa i d) i (acc.flatMap fun t : B => [.string (str t)]) (by go_simp) (by have h8 := HOa.out.alloc (.cells #[.string Ss] 9 (0, 0)); unfold OwnR at h8; rw [HKa.out] at h8; exact h8) ⟨wu.heap.size, 0, none⟩ 1 1 [.string Ss] (by go_simp) rfl (cells_new wu _ _) (by simp [Value.oneCell']) (by unfold maxLen; omega) (by omega) (by have h1 := HBu.out.size; simp; omega) ?_; intro v6 w5 hown hgr _ _; obtain ⟨p7, L7, c7, rfl⟩ := own_slice3 hown; have HO5 := hid (show OwnT w5 wv.heap.size (.slice p7 L7 c7) (acc ++ [x.1]) from OwnR.put HKa.out (by rw [HSs.out]; exact hown)); have HB5 := hid ((HBu.out.trans ((below_new wu _).mono HBu.out.size)).trans ((HOa.out.alloc _).below (by have h1 := HBu.out.size; simp; omega) hgr)); obtain ⟨hL7, _⟩ : L7 = i + 1 ∧ True := ⟨row_len hown, trivial⟩; subst hL7; clear hown hgr)
                  go_roundg (n - (i + 1) + 1)
                  case measure => omega
                  case rel => exact ⟨i + 1, c7, p7, acc ++ [x.1], by omega, rfl, by push_cast; go_num, rfl, by rw [List.length_append, HKa.out]; rfl, HAn.out, HO5.out, HB5.out⟩
                · obtain rfl : n = i := by omega
                  have HV := hid (show acc = P.map (·.1) from by rw [HAc.out, List.take_of_length_le (by rw [HN.out]; exact Nat.le_refl _)])
                  have HTa := hid (ownR_S HOa.out).tx
                  rw [HV.out] at HTa HKa
                  go_wp2_with (first | (go_at_call 16; (with_reducible refine (HLe.out _ HFu.out).mono ?_); rintro e w6 ⟨rfl, hw6⟩; subst w6) | (go_at_call 18; (with_reducible refine (HAl.out _ HFu.out).mono ?_); rintro e w7 ⟨q7, d7, rfl, ht7, hb7⟩; have HT7 := hid ht7; have HTb := hid (HTa.out.next hb7); have HF7 := hid (HFu.out.next hb7); clear ht7 hb7) | (go_at_call 17; (with_reducible refine (texts_same (P.map (·.1)) _ _ n _ _ HKa.out _ HT7.out HTb.out (by omega)).mono ?_); rintro e w8 ⟨rfl, hb8⟩; have HF8 := hid (HF7.out.next hb8); have HM8 := hid (mx_ord HMx.out HF8.out.low); clear hb8) | (go_at_call 19; (with_reducible refine (HSu.out _ HM8.out).mono ?_); rintro e w9 ⟨rfl, hb9⟩; have HF9 := hid (HF8.out.next hb9); clear hb9))
                  go_ret
                  exact ⟨rfl, HF9.out.low⟩
            · have he1 : decide ((j : Int) < (np : Int)) = false := decide_eq_false (by omega)
              have HAl := hid (show ∀ W, Fnd w W t P P M (.slice pr n c) → Calls Tryd.prog 18 #[.pointer (some ⟨t, 0, none⟩)] W fun e w' => ∃ q d, e = .returned (.slice q n d) ∧ TxAt w' q (P.map (·.1)) ∧ Below W.heap.size W w' from fun W h => by obtain ⟨G, es, v, ht⟩ := h.tr; have h9 := all_any ht (by rw [HN.out]; omega); rw [HN.out] at h9; exact h9)
              have HLe := hid (show ∀ W, Fnd w W t P P M (.slice pr n c) → Calls Tryd.prog 16 #[.pointer (some ⟨t, 0, none⟩)] W fun e w' => e = .returned (.int .i64 (n : Int)) ∧ w' = W from fun W h => by obtain ⟨G, es, v, ht⟩ := h.tr; have h9 := len_any ht; rw [HN.out] at h9; exact h9)
              go_wp2
              go_loopg [18, 19] (n + 1) (fun gk s18 s19 wu => ∃ (i d : Nat) (qa : Option Addr) (acc : List B), i ≤ n ∧ gk = n - i + 1 ∧ s19 = .int .i64 (i : Int) ∧ s18 = .slice qa i d ∧ acc.length = i ∧ acc = (P.take i).map (·.1) ∧ OwnT wu wv.heap.size (.slice qa i d) acc ∧ Below wv.heap.size wv wu)
              case atStart => exact ⟨0, 0, none, [], by omega, rfl, rfl, rfl, rfl, rfl, OwnR.nil _ _, Below.refl _ _⟩
              case round =>
                obtain ⟨i, d, qa, acc, hi, rfl, rfl, rfl, hka, hacc, hoa, hbu⟩ := hrel
                rename World => wu
                have HKa := hid hka
                have HAc := hid hacc
                have HOa := hid hoa
                have HBu := hid hbu
                clear hka hacc hoa hbu
                have HFu := hid (HFv.out.next HBu.out)
                by_cases hlt : i < n
                · obtain ⟨x, hx⟩ : ∃ x, P[i]? = some x := ⟨_, List.getElem?_eq_getElem (by rw [HN.out]; exact hlt)⟩
                  obtain ⟨g, o, rfl, q1, q2⟩ := (OwnP.pt HFu.out.row) i x hx
                  obtain ⟨Ss, hSs⟩ : ∃ S, str x.1 = S := ⟨_, rfl⟩
                  have HSs := hid (show [Value.string (str x.1)] = [.string Ss] from by rw [hSs])
                  rw [hSs] at q1
                  have HAn := hid (show acc ++ [x.1] = (P.take (i + 1)).map (·.1) from by rw [List.take_add_one, hx, HAc.out]; simp)
                  clear hx hSs
                  go_wp2_with (at_builtin; refine wpList_append_own_at _ rfl (.tmp 132) (.tmp 138) 23 rfl wv.heap.size 9 j0 _ 1 16 Tryd.underlying23 hj0 hy0 hy1 hy2 rfl (by decide) (.slice qa i d) i (acc.flatMap fun t : B => [.string (str t)]) (by go_simp) (by have h8 := HOa.out.alloc (.cells #[.string Ss] 9 (0, 0)); unfold OwnR at h8; rw [HKa.out] at h8; exact h8) ⟨wu.heap.size, 0, none⟩ 1 1 [.string Ss] (by go_simp) rfl (cells_new wu _ _) (by simp [Value.oneCell']) (by unfold maxLen; omega) (by omega) (by have h1 := HBu.out.size; simp; omega) ?_; intro v6 w5 hown hgr _ _; obtain ⟨p7, L7, c7, rfl⟩ := own_slice3 hown; have HO5 := hid (show OwnT w5 wv.heap.size (.slice p7 L7 c7) (acc ++ [x.1]) from OwnR.put HKa.out (by rw [HSs.out]; exact hown)); have HB5 := hid ((HBu.out.trans ((below_new wu _).mono HBu.out.size)).trans ((HOa.out.alloc _).below (by have h1 := HBu.out.size; simp; omega) hgr)); obtain ⟨hL7, _⟩ : L7 = i + 1 ∧ True := ⟨row_len hown, trivial⟩; subst hL7; clear hown hgr)
                  go_roundg (n - (i + 1) + 1)
                  case measure => omega
                  case rel => exact ⟨i + 1, c7, p7, acc ++ [x.1], by omega, rfl, by push_cast; go_num, rfl, by rw [List.length_append, HKa.out]; rfl, HAn.out, HO5.out, HB5.out⟩
                · obtain rfl : n = i := by omega
                  have HV := hid (show acc = P.map (·.1) from by rw [HAc.out, List.take_of_length_le (by rw [HN.out]; exact Nat.le_refl _)])
                  have HTa := hid (ownR_S HOa.out).tx
                  rw [HV.out] at HTa HKa
                  go_wp2_with (first | (go_at_call 16; (with_reducible refine (HLe.out _ HFu.out).mono ?_); rintro e w6 ⟨rfl, hw6⟩; subst w6) | (go_at_call 18; (with_reducible refine (HAl.out _ HFu.out).mono ?_); rintro e w7 ⟨q7, d7, rfl, ht7, hb7⟩; have HT7 := hid ht7; have HTb := hid (HTa.out.next hb7); have HF7 := hid (HFu.out.next hb7); clear ht7 hb7) | (go_at_call 17; (with_reducible refine (texts_same (P.map (·.1)) _ _ n _ _ HKa.out _ HT7.out HTb.out (by omega)).mono ?_); rintro e w8 ⟨rfl, hb8⟩; have HF8 := hid (HF7.out.next hb8); have HM8 := hid (mx_ord HMx.out HF8.out.low); clear hb8) | (go_at_call 19; (with_reducible refine (HSu.out _ HM8.out).mono ?_); rintro e w9 ⟨rfl, hb9⟩; have HF9 := hid (HF8.out.next hb9); clear hb9))
                  go_ret
                  exact ⟨rfl, HF9.out.low⟩
      · have hd1 : decide ((i : Int) < (nl : Int)) = false := decide_eq_false (by omega)
        obtain ⟨M, hM⟩ : ∃ M, 64 * i = M := ⟨_, rfl⟩
        rw [hM] at HF
        have hn60 : n ≤ 60 := by omega
        clear hM
        go_wp2
        go_loopg [11] (31) (fun gk s11 wv => ∃ j : Nat, j ≤ np ∧ j ≤ 30 ∧ gk = 30 - j + 1 ∧ s11 = .int .i64 (j : Int) ∧ Fnd w wv t P P M (.slice pr n c))
        case atStart => exact ⟨0, by omega, by omega, rfl, rfl, HF.out⟩
        case round =>
          obtain ⟨j, hj, hj30, rfl, rfl, hfv⟩ := hrel
          rename World => wv
          have HFv := hid hfv
          clear hfv
          by_cases hjn : j < np ∧ j < 30
          · obtain ⟨hj1, hj2⟩ := hjn
            have he1 : decide ((j : Int) < (np : Int)) = true := decide_eq_true (by omega)
            have he2 : decide ((j : Int) < 30) = true := decide_eq_true (by omega)
            obtain ⟨s, hs⟩ : ∃ s, ps[j]? = some s := ⟨_, List.getElem?_eq_getElem (by rw [HNp.out]; exact hj1)⟩
            have hsl := HPl.out s (List.mem_of_getElem? hs)
            obtain ⟨Ss, hSs⟩ : ∃ S, str s = S := ⟨_, rfl⟩
            obtain ⟨g, o, hpp, q1⟩ := (HQ.out.next HFv.out.low) j s hs
            have HCl := hid (show ∀ W, Below w.heap.size w W → W.cell? ⟨g, o + j, none⟩ = some (.string Ss) from fun W hb => by
              obtain ⟨g', o', e', c'⟩ := (HQ.out.next hb) j s hs
              rw [hpp] at e'
              injection e' with e'; injection e' with e1 e2; subst e1 e2; rw [← hSs]; exact c')
            subst hpp
            rw [hSs] at q1
            have HFd := hid (show (begB 47 s = false) ∨ (begB 47 s = true ∧ ∀ p ∈ P, fitsT (cutT p.1.tail) (cutT s.tail) = none) ∨ (begB 47 s = true ∧ ∃ p F, p ∈ P ∧ fitsT (cutT p.1.tail) (cutT s.tail) = some F ∧ ∀ x ∈ P, (fitsT (cutT x.1.tail) (cutT s.tail)).isSome = true → x = p ∨ betterT (cutT p.1.tail) (cutT x.1.tail) = true) from by
              cases hb : begB 47 s with
              | false => exact .inl rfl
              | true =>
                obtain ⟨G, es, v, ht⟩ := HFv.out.tr
                rcases ht.found (cutT s.tail) with ⟨_, h2⟩ | ⟨e0, p, _, h2, _, h4, h5⟩
                · exact .inr (.inl ⟨rfl, h2⟩)
                · obtain ⟨F, hF⟩ := Option.isSome_iff_exists.1 h4
                  exact .inr (.inr ⟨rfl, p, F, h2, hF, h5⟩))
            rcases HFd.out with hb | ⟨hb, hno⟩ | ⟨hb, p, F, hpm, hf, hbest⟩
            · have HFa := hid (fun (W : World) (h : Fnd w W t P P M (.slice pr n c)) => find_f h.tr (mx_ord HMx.out h.low) s hsl hb)
              have HFb := hid (fun (W : World) (h : Fnd w W t P P M (.slice pr n c)) => rfind_f HFine.out HAp.out s hsl pr n c HN.out (by omega) h.row hb)
              have HNu := hid (fun (W : World) (h : EnvE W) => num_any 3 W h)
              rw [errOf3] at HNu
              rw [hSs] at HFa HFb
              clear hb hSs hs
              go_wp2_with (first | (go_at_call 13; (with_reducible refine (HFa.out _ HFv.out).mono ?_); rintro e w5 ⟨rfl, hb5⟩; have HF5 := hid (HFv.out.next hb5); have q2 := HCl.out _ HF5.out.low; clear hb5) | (go_at_call 14; (with_reducible refine (HFb.out _ HF5.out).mono ?_); rintro e w6 ⟨rfl, hb6⟩; have HF6 := hid (HF5.out.next hb6); have HE6 := hid (HE.out.next HF6.out.low); clear hb6) | (go_at_call 15; (with_reducible refine (fields_same [] none none 0 0 0 rfl _ (fat_nil _) (fat_nil _) (by omega)).mono ?_); rintro e w7 ⟨rfl, hb7⟩; have HF7 := hid (HF6.out.next hb7); have HE7 := hid (HE6.out.next hb7); clear hb7) | (go_at_call 10; (with_reducible refine (HNu.out _ HE7.out).mono ?_); rintro e w8 ⟨rfl, hb8⟩; have HF8 := hid (HF7.out.next hb8); clear hb8))
              go_roundg (30 - (j + 1) + 1)
              case measure => omega
              case rel => exact ⟨j + 1, by omega, by omega, rfl, by push_cast; go_num, HF8.out⟩
            · have HFa := hid (fun (W : World) (h : Fnd w W t P P M (.slice pr n c)) => find_n h.tr (mx_ord HMx.out h.low) s hsl hb hno)
              have HFb := hid (fun (W : World) (h : Fnd w W t P P M (.slice pr n c)) => rfind_n HFine.out HAp.out s hsl pr n c HN.out (by omega) h.row hb hno)
              have HNu := hid (fun (W : World) (h : EnvE W) => num_any 8 W h)
              rw [errOf8] at HNu
              rw [hSs] at HFa HFb
              clear hb hno hSs hs
              go_wp2_with (first | (go_at_call 13; (with_reducible refine (HFa.out _ HFv.out).mono ?_); rintro e w5 ⟨rfl, hb5⟩; have HF5 := hid (HFv.out.next hb5); have q2 := HCl.out _ HF5.out.low; clear hb5) | (go_at_call 14; (with_reducible refine (HFb.out _ HF5.out).mono ?_); rintro e w6 ⟨rfl, hb6⟩; have HF6 := hid (HF5.out.next hb6); have HE6 := hid (HE.out.next HF6.out.low); clear hb6) | (go_at_call 15; (with_reducible refine (fields_same [] none none 0 0 0 rfl _ (fat_nil _) (fat_nil _) (by omega)).mono ?_); rintro e w7 ⟨rfl, hb7⟩; have HF7 := hid (HF6.out.next hb7); have HE7 := hid (HE6.out.next hb7); clear hb7) | (go_at_call 10; (with_reducible refine (HNu.out _ HE7.out).mono ?_); rintro e w8 ⟨rfl, hb8⟩; have HF8 := hid (HF7.out.next hb8); clear hb8))
              go_roundg (30 - (j + 1) + 1)
              case measure => omega
              case rel => exact ⟨j + 1, by omega, by omega, rfl, by push_cast; go_num, HF8.out⟩
            · obtain ⟨L, hL⟩ : ∃ L, F.length = L := ⟨_, rfl⟩
              have hLb : L ≤ 64 := by rw [← hL]; exact fits_few ((fitsO_of (HFine.out p hpm) hb).trans (by rw [hf]))
              have HFa := hid (fun (W : World) (h : Fnd w W t P P M (.slice pr n c)) => find_y h.tr (mx_ord HMx.out h.low) s hsl hb (fun x => Iff.rfl) hL hpm hf hbest)
              have HFb := hid (fun (W : World) (h : Fnd w W t P P M (.slice pr n c)) => rfind_y HFine.out HAp.out s hsl pr n c HN.out (by omega) h.row hb hL hpm hf hbest)
              have HNu := hid (fun (W : World) (h : EnvE W) => num_any 0 W h)
              rw [errOf_zero] at HNu
              have HLF := hid hL
              obtain ⟨ID, hID⟩ : ∃ x9, p.2 = x9 := ⟨_, rfl⟩
              rw [hID] at HFa HFb
              rw [hSs] at HFa HFb
              clear hb hf hbest hpm hL hID hSs hs
              go_wp2_with (first | (go_at_call 13; (with_reducible refine (HFa.out _ HFv.out).mono ?_); rintro e w5 ⟨hb5, q5, d5, rfl, hf5⟩; have HF5 := hid (HFv.out.next hb5); have q2 := HCl.out _ HF5.out.low; have HG5 := hid hf5; clear hb5 hf5) | (go_at_call 14; (with_reducible refine (HFb.out _ HF5.out).mono ?_); rintro e w6 ⟨hb6, q6, d6, rfl, hf6⟩; have HF6 := hid (HF5.out.next hb6); have HE6 := hid (HE.out.next HF6.out.low); have HG56 := hid (HG5.out.next hb6); have HG6 := hid hf6; clear hb6 hf6) | (go_at_call 15; (with_reducible refine (fields_same F _ _ L _ _ HLF.out _ HG56.out HG6.out (by omega)).mono ?_); rintro e w7 ⟨rfl, hb7⟩; have HF7 := hid (HF6.out.next hb7); have HE7 := hid (HE6.out.next hb7); clear hb7) | (go_at_call 10; (with_reducible refine (HNu.out _ HE7.out).mono ?_); rintro e w8 ⟨rfl, hb8⟩; have HF8 := hid (HF7.out.next hb8); clear hb8))
              go_roundg (30 - (j + 1) + 1)
              case measure => omega
              case rel => exact ⟨j + 1, by omega, by omega, rfl, by push_cast; go_num, HF8.out⟩
          · by_cases hj1 : j < np
            · have he1 : decide ((j : Int) < (np : Int)) = true := decide_eq_true (by omega)
              have hj4 : ¬ j < 30 := fun h => hjn ⟨hj1, h⟩
              have he2 : decide ((j : Int) < 30) = false := decide_eq_false (by omega)
              have HAl := hid (show ∀ W, Fnd w W t P P M (.slice pr n c) → Calls Tryd.prog 18 #[.pointer (some ⟨t, 0, none⟩)] W fun e w' => ∃ q d, e = .returned (.slice q n d) ∧ TxAt w' q (P.map (·.1)) ∧ Below W.heap.size W w' from fun W h => by obtain ⟨G, es, v, ht⟩ := h.tr; have h9 := all_any ht (by rw [HN.out]; omega); rw [HN.out] at h9; exact h9)
              have HLe := hid (show ∀ W, Fnd w W t P P M (.slice pr n c) → Calls Tryd.prog 16 #[.pointer (some ⟨t, 0, none⟩)] W fun e w' => e = .returned (.int .i64 (n : Int)) ∧ w' = W from fun W h => by obtain ⟨G, es, v, ht⟩ := h.tr; have h9 := len_any ht; rw [HN.out] at h9; exact h9)
              go_wp2
              go_loopg [18, 19] (n + 1) (fun gk s18 s19 wu => ∃ (i d : Nat) (qa : Option Addr) (acc : List B), i ≤ n ∧ gk = n - i + 1 ∧ s19 = .int .i64 (i : Int) ∧ s18 = .slice qa i d ∧ acc.length = i ∧ acc = (P.take i).map (·.1) ∧ OwnT wu wv.heap.size (.slice qa i d) acc ∧ Below wv.heap.size wv wu)
              case atStart => exact ⟨0, 0, none, [], by omega, rfl, rfl, rfl, rfl, rfl, OwnR.nil _ _, Below.refl _ _⟩
              case round =>
                obtain ⟨i, d, qa, acc, hi, rfl, rfl, rfl, hka, hacc, hoa, hbu⟩ := hrel
                rename World => wu
                have HKa := hid hka
                have HAc := hid hacc
                have HOa := hid hoa
                have HBu := hid hbu
                clear hka hacc hoa hbu
                have HFu := hid (HFv.out.next HBu.out)
                by_cases hlt : i < n
                · obtain ⟨x, hx⟩ : ∃ x, P[i]? = some x := ⟨_, List.getElem?_eq_getElem (by rw [HN.out]; exact hlt)⟩
                  obtain ⟨g, o, rfl, q1, q2⟩ := (OwnP.pt HFu.out.row) i x hx
                  obtain ⟨Ss, hSs⟩ : ∃ S, str x.1 = S := ⟨_, rfl⟩
                  have HSs := hid (show [Value.string (str x.1)] = [.string Ss] from by rw [hSs])
                  rw [hSs] at q1
                  have HAn := hid (show acc ++ [x.1] = (P.take (i + 1)).map (·.1) from by rw [List.take_add_one, hx, HAc.out]; simp)
                  clear hx hSs
                  go_wp2_with (at_builtin; refine wpList_append_own_at _ rfl (.tmp 132) (.tmp 138) 23 rfl wv.heap.size 9 j0 _ 1 16 Tryd.underlying23 hj0 hy0 hy1 hy2 rfl (by decide) (.slice qa i d) i (acc.flatMap fun t : B => [.string (str t)]) (by go_simp) (by have h8 := HOa.out.alloc (.cells #[.string Ss] 9 (0, 0)); unfold OwnR at h8; rw [HKa.out] at h8; exact h8) ⟨wu.heap.size, 0, none⟩ 1 1 [.string Ss] (by go_simp) rfl (cells_new wu _ _) (by simp [Value.oneCell']) (by unfold maxLen; omega) (by omega) (by have h1 := HBu.out.size; simp; omega) ?_; intro v6 w5 hown hgr _ _; obtain ⟨p7, L7, c7, rfl⟩ := own_slice3 hown; have HO5 := hid (show OwnT w5 wv.heap.size (.slice p7 L7 c7) (acc ++ [x.1]) from OwnR.put HKa.out (by rw [HSs.out]; exact hown)); have HB5 := hid ((HBu.out.trans ((below_new wu _).mono HBu.out.size)).trans ((HOa.out.alloc _).below (by have h1 := HBu.out.size; simp; omega) hgr)); obtain ⟨hL7, _⟩ : L7 = i + 1 ∧ True := ⟨row_len hown, trivial⟩; subst hL7; clear hown hgr)
                  go_roundg (n - (i + 1) + 1)
                  case measure => omega
                  case rel => exact ⟨i + 1, c7, p7, acc ++ [x.1], by omega, rfl, by push_cast; go_num, rfl, by rw [List.length_append, HKa.out]; rfl, HAn.out, HO5.out, HB5.out⟩
                · obtain rfl : n = i := by omega
                  have HV := hid (show acc = P.map (·.1) from by rw [HAc.out, List.take_of_length_le (by rw [HN.out]; exact Nat.le_refl _)])
                  have HTa := hid (ownR_S HOa.out).tx
                  rw [HV.out] at HTa HKa
                  go_wp2_with (first | (go_at_call 16; (with_reducible refine (HLe.out _ HFu.out).mono ?_); rintro e w6 ⟨rfl, hw6⟩; subst w6) | (go_at_call 18; (with_reducible refine (HAl.out _ HFu.out).mono ?_); rintro e w7 ⟨q7, d7, rfl, ht7, hb7⟩; have HT7 := hid ht7; have HTb := hid (HTa.out.next hb7); have HF7 := hid (HFu.out.next hb7); clear ht7 hb7) | (go_at_call 17; (with_reducible refine (texts_same (P.map (·.1)) _ _ n _ _ HKa.out _ HT7.out HTb.out (by omega)).mono ?_); rintro e w8 ⟨rfl, hb8⟩; have HF8 := hid (HF7.out.next hb8); have HM8 := hid (mx_ord HMx.out HF8.out.low); clear hb8) | (go_at_call 19; (with_reducible refine (HSu.out _ HM8.out).mono ?_); rintro e w9 ⟨rfl, hb9⟩; have HF9 := hid (HF8.out.next hb9); clear hb9))
                  go_ret
                  exact ⟨rfl, HF9.out.low⟩
            · have he1 : decide ((j : Int) < (np : Int)) = false := decide_eq_false (by omega)
              have HAl := hid (show ∀ W, Fnd w W t P P M (.slice pr n c) → Calls Tryd.prog 18 #[.pointer (some ⟨t, 0, none⟩)] W fun e w' => ∃ q d, e = .returned (.slice q n d) ∧ TxAt w' q (P.map (·.1)) ∧ Below W.heap.size W w' from fun W h => by obtain ⟨G, es, v, ht⟩ := h.tr; have h9 := all_any ht (by rw [HN.out]; omega); rw [HN.out] at h9; exact h9)
              have HLe := hid (show ∀ W, Fnd w W t P P M (.slice pr n c) → Calls Tryd.prog 16 #[.pointer (some ⟨t, 0, none⟩)] W fun e w' => e = .returned (.int .i64 (n : Int)) ∧ w' = W from fun W h => by obtain ⟨G, es, v, ht⟩ := h.tr; have h9 := len_any ht; rw [HN.out] at h9; exact h9)
              go_wp2
              go_loopg [18, 19] (n + 1) (fun gk s18 s19 wu => ∃ (i d : Nat) (qa : Option Addr) (acc : List B), i ≤ n ∧ gk = n - i + 1 ∧ s19 = .int .i64 (i : Int) ∧ s18 = .slice qa i d ∧ acc.length = i ∧ acc = (P.take i).map (·.1) ∧ OwnT wu wv.heap.size (.slice qa i d) acc ∧ Below wv.heap.size wv wu)
              case atStart => exact ⟨0, 0, none, [], by omega, rfl, rfl, rfl, rfl, rfl, OwnR.nil _ _, Below.refl _ _⟩
              case round =>
                obtain ⟨i, d, qa, acc, hi, rfl, rfl, rfl, hka, hacc, hoa, hbu⟩ := hrel
                rename World => wu
                have HKa := hid hka
                have HAc := hid hacc
                have HOa := hid hoa
                have HBu := hid hbu
                clear hka hacc hoa hbu
                have HFu := hid (HFv.out.next HBu.out)
                by_cases hlt : i < n
                · obtain ⟨x, hx⟩ : ∃ x, P[i]? = some x := ⟨_, List.getElem?_eq_getElem (by rw [HN.out]; exact hlt)⟩
                  obtain ⟨g, o, rfl, q1, q2⟩ := (OwnP.pt HFu.out.row) i x hx
                  obtain ⟨Ss, hSs⟩ : ∃ S, str x.1 = S := ⟨_, rfl⟩
                  have HSs := hid (show [Value.string (str x.1)] = [.string Ss] from by rw [hSs])
                  rw [hSs] at q1
                  have HAn := hid (show acc ++ [x.1] = (P.take (i + 1)).map (·.1) from by rw [List.take_add_one, hx, HAc.out]; simp)
                  clear hx hSs
                  go_wp2_with (at_builtin; refine wpList_append_own_at _ rfl (.tmp 132) (.tmp 138) 23 rfl wv.heap.size 9 j0 _ 1 16 Tryd.underlying23 hj0 hy0 hy1 hy2 rfl (by decide) (.slice qa i d) i (acc.flatMap fun t : B => [.string (str t)]) (by go_simp) (by have h8 := HOa.out.alloc (.cells #[.string Ss] 9 (0, 0)); unfold OwnR at h8; rw [HKa.out] at h8; exact h8) ⟨wu.heap.size, 0, none⟩ 1 1 [.string Ss] (by go_simp) rfl (cells_new wu _ _) (by simp [Value.oneCell']) (by unfold maxLen; omega) (by omega) (by have h1 := HBu.out.size; simp; omega) ?_; intro v6 w5 hown hgr _ _; obtain ⟨p7, L7, c7, rfl⟩ := own_slice3 hown; have HO5 := hid (show OwnT w5 wv.heap.size (.slice p7 L7 c7) (acc ++ [x.1]) from OwnR.put HKa.out (by rw [HSs.out]; exact hown)); have HB5 := hid ((HBu.out.trans ((below_new wu _).mono HBu.out.size)).trans ((HOa.out.alloc _).below (by have h1 := HBu.out.size; simp; omega) hgr)); obtain ⟨hL7, _⟩ : L7 = i + 1 ∧ True := ⟨row_len hown, trivial⟩; subst hL7; clear hown hgr)
                  go_roundg (n - (i + 1) + 1)
                  case measure => omega
                  case rel => exact ⟨i + 1, c7, p7, acc ++ [x.1], by omega, rfl, by push_cast; go_num, rfl, by rw [List.length_append, HKa.out]; rfl, HAn.out, HO5.out, HB5.out⟩
                · obtain rfl : n = i := by omega
                  have HV := hid (show acc = P.map (·.1) from by rw [HAc.out, List.take_of_length_le (by rw [HN.out]; exact Nat.le_refl _)])
                  have HTa := hid (ownR_S HOa.out).tx
                  rw [HV.out] at HTa HKa
                  go_wp2_with (first | (go_at_call 16; (with_reducible refine (HLe.out _ HFu.out).mono ?_); rintro e w6 ⟨rfl, hw6⟩; subst w6) | (go_at_call 18; (with_reducible refine (HAl.out _ HFu.out).mono ?_); rintro e w7 ⟨q7, d7, rfl, ht7, hb7⟩; have HT7 := hid ht7; have HTb := hid (HTa.out.next hb7); have HF7 := hid (HFu.out.next hb7); clear ht7 hb7) | (go_at_call 17; (with_reducible refine (texts_same (P.map (·.1)) _ _ n _ _ HKa.out _ HT7.out HTb.out (by omega)).mono ?_); rintro e w8 ⟨rfl, hb8⟩; have HF8 := hid (HF7.out.next hb8); have HM8 := hid (mx_ord HMx.out HF8.out.low); clear hb8) | (go_at_call 19; (with_reducible refine (HSu.out _ HM8.out).mono ?_); rintro e w9 ⟨rfl, hb9⟩; have HF9 := hid (HF8.out.next hb9); clear hb9))
                  go_ret
                  exact ⟨rfl, HF9.out.low⟩
end Go.Proofs.YtdjjkcpnjocafaaDoor
