/- Whether a code is a text's: package mac's and the document's; bytes with memory of their own. -/
import Derived.Test.YtojcaoieodogdaaDoorMSame
namespace Go.Proofs.YtojcaoieodogdaaDoor
open Go.RowKit

theorem twin_any {w : World} {v : Value} {bs : List Int} (ha : ArgAt w v bs) (hm : bs.length ≤ 140737488355328) :
    Calls Tryd.prog 17 #[v] w fun e w' => ∃ pa cap, e = .returned (.slice pa bs.length cap) ∧ Mine w w' pa cap bs := by
  have HA := hid ha
  have HM := hid hm
  clear ha hm
  go_enter Tryd.func17, Tryd.ntmps17
  go_wp2_with (refine wpList_append_bytes rfl _ _ rfl rfl _ rfl bs HA.out HM.out ?_; intro pa cap w1 hm1; have M1 := hid hm1; clear hm1)
  go_ret
  exact ⟨pa, cap, rfl, M1.out⟩
theorem hmac_bd (k m : List Int) : ∀ x ∈ hmac k m, 0 ≤ x ∧ x < 256 := sha_bd _
set_option maxRecDepth 20000 in
set_option maxHeartbeats 2000000 in
theorem mverify_any {w : World} {v u c : Value} {key text code : List Int} (hK : KAt w) (ha : ArgAt w v key) (hb : ArgAt w u text) (hc : ArgAt w c code) (bc : ∀ x ∈ code, 0 ≤ x ∧ x < 256) (hm : key.length ≤ 140737488355328) (hn : text.length ≤ 140737488355328) (ho : code.length ≤ 140737488355328) :
    Calls Tryd.prog 20 #[v, u, c] w fun e w' => e = .returned (.bool (decide (hmac key text = code))) ∧ Below w.heap.size w w' := by
  have HX : Hid (KAt w ∧ ArgAt w v key ∧ ArgAt w u text ∧ ArgAt w c code ∧ (∀ x ∈ code, 0 ≤ x ∧ x < 256) ∧ key.length ≤ 140737488355328 ∧ text.length ≤ 140737488355328 ∧ code.length ≤ 140737488355328) := ⟨hK, ha, hb, hc, bc, hm, hn, ho⟩
  have HL : Hid ((hmac key text).length = 32) := hmac_len key text
  clear hK ha hb hc bc hm hn ho
  go_enter Tryd.func20, Tryd.ntmps20
  go_wp2_with (first
    | (go_at_call 18; (with_reducible refine (macsum_any HX.out.1 HX.out.2.1 HX.out.2.2.1 HX.out.2.2.2.2.2.1 HX.out.2.2.2.2.2.2.1).mono ?_); rintro e w1 ⟨rfl, hb1⟩; have B1 := hid hb1; clear hb1)
    | (refine wpList_store_as rfl 24 _ _ rfl _ (bsv (hmac key text)) rfl rfl 24 _ (row_new _ _ _) (by rw [size24, bsv_size, HL.out]) (by rw [bsv_size, HL.out]; rfl) (bsv_one _) ?_; intro w2 hst; have B2 : Hid (Below w.heap.size w w2 ∧ RowAt w2 w1.heap.size (bsv (hmac key text)) 24) := (⟨hst.below (B1.out.alloc B1.out.size _) B1.out.size, hst.row⟩); clear hst B1)
    | (go_at_call 22; (with_reducible refine (same_any (row_argT (n := 32) B2.out.2 HL.out (by unfold maxLen; omega)) (HX.out.2.2.2.1.below B2.out.1) (hmac_bd key text) HX.out.2.2.2.2.1 (And.intro (by rw [HL.out]; omega) HX.out.2.2.2.2.2.2.2)).mono ?_); rintro e w' ⟨rfl, hw'⟩; have hw2 := hw'.symm; subst hw2))
  go_ret
  exact ⟨rfl, B2.out.1⟩
set_option maxRecDepth 20000 in
set_option maxHeartbeats 2000000 in
theorem refVerify_core (pc : Option Addr) (Nc cc : Nat) {w : World} {v u : Value} {key text code : List Int} (ha : ArgAt w v key) (hb : ArgAt w u text) (hc : ArgAt w (.slice pc Nc cc) code) (lc : code.length = Nc) (bk : ∀ x ∈ key, 0 ≤ x ∧ x < 256) (bt : ∀ x ∈ text, 0 ≤ x ∧ x < 256) (hm : key.length + 200 ≤ 140737488355328) (hn : text.length + 200 ≤ 140737488355328) :
    Calls Tryd.prog 21 #[v, u, .slice pc Nc cc] w fun e w' => e = .returned (.bool (decide (hmac key text = code))) ∧ Below w.heap.size w w' := by
  have HX : Hid (ArgAt w v key ∧ ArgAt w u text ∧ ArgAt w (.slice pc Nc cc) code ∧ (∀ x ∈ key, 0 ≤ x ∧ x < 256) ∧ (∀ x ∈ text, 0 ≤ x ∧ x < 256) ∧ key.length + 200 ≤ 140737488355328 ∧ text.length + 200 ≤ 140737488355328 ∧ code.length = Nc) := ⟨ha, hb, hc, bk, bt, hm, hn, lc⟩
  obtain ⟨H, HH⟩ : ∃ H, Hid (hmac key text = H) := ⟨_, hid rfl⟩
  have HL : Hid (H.length = 32) := by rw [← HH.out]; exact hmac_len key text
  clear ha hb hc bk bt hm hn lc
  by_cases h32 : Nc = 32
  · subst h32
    go_enter Tryd.func21, Tryd.ntmps21
    go_wp2_with (first
      | (go_at_call 19; (with_reducible refine (refMac_any HX.out.1 HX.out.2.1 HX.out.2.2.2.1 HX.out.2.2.2.2.1 HX.out.2.2.2.2.2.1 HX.out.2.2.2.2.2.2.1).mono ?_); rintro e w1 ⟨rfl, hb1⟩; rw [HH.out]; have B1 := hid hb1; clear hb1)
      | (refine wpList_store_as rfl 24 _ _ rfl _ (bsv H) rfl rfl 24 _ (row_new _ _ _) (by rw [size24, bsv_size, HL.out]) (by rw [bsv_size, HL.out]; rfl) (bsv_one _) ?_; intro w2 hst; have B2 : Hid (Below w.heap.size w w2 ∧ RowAt w2 w1.heap.size (bsv H) 24) := (⟨hst.below (B1.out.alloc B1.out.size _) B1.out.size, hst.row⟩); clear hst B1))
    obtain ⟨x, hx⟩ : ∃ x, w1.heap.size = x := ⟨_, rfl⟩
    rw [hx] at B2 ⊢
    clear hx
    go_loopw [8] (fun i W => ∃ k : Nat, k ≤ 32 ∧ i = .int .i64 k ∧ Hid (Below w.heap.size w W ∧ RowAt W x (bsv H) 24) ∧ Hid (∀ j, j < k → H[j]?.getD 0 = code[j]?.getD 0)) (fun i _ => 32 - (intOf i).toNat)
    case atStart => exact ⟨0, Nat.zero_le _, rfl, B2, fun j hj => by omega⟩
    case round =>
      clear B2
      obtain ⟨k, hk, rfl, HB, HJ⟩ := hrel
      obtain ⟨V, hV⟩ : ∃ V, V = wr := ⟨_, rfl⟩
      rw [← hV] at HB ⊢
      clear hV
      by_cases hlt : k < 32
      · have hlt' : (k : Int) < 32 := by omega
        obtain ⟨b, o, rfl, hcell⟩ := (HX.out.2.2.1.below HB.out.1).cell_at HX.out.2.2.2.2.2.2.2 k hlt
        obtain ⟨y, HY⟩ : ∃ y, Hid (code[k]?.getD 0 = y) := ⟨_, hid rfl⟩
        obtain ⟨z, HZ⟩ : ∃ z, Hid (H[k]?.getD 0 = z) := ⟨_, hid rfl⟩
        rw [HY.out] at hcell
        have hrow : V.cell? ⟨x, k, none⟩ = some (.int .u8 z) := by rw [HB.out.2.cell k, bsv_get (by rw [HL.out]; exact hlt), HZ.out]
        have HS : Hid (V.cell? ⟨b, o + k, none⟩ = some (.int .u8 y) ∧ V.cell? ⟨x, k, none⟩ = some (.int .u8 z)) := ⟨hcell, hrow⟩
        clear hcell hrow
        by_cases hyz : y = z
        · subst hyz
          go_wp2_with fail
          refine wp_region_noPanic ?_
          refine any_begin 8 (by kernel_rfl) (by kernel_rfl) ?_
          refine late_begin (fun W => W.cell? ⟨b, o + k, none⟩ = some (.int .u8 y) ∧ W.cell? ⟨x, k, none⟩ = some (.int .u8 y)) (fun _ => false) HS.out (fun hS => ?_)
          refine late_take (i := 0) (some 19) rfl rfl (by kernel_rfl) (by kernel_rfl) (by kernel_rfl) (by kernel_rfl) (by kernel_rfl) (fun _ _ _ h => h) (by rfl) (v := ?v0r) ?hy0r hS ?rest0r
          case hy0r => intro w0 hSw; obtain ⟨z0, z1⟩ := hSw; go_simp; try with_reducible rfl
          simp only [Act.put, List.setIfInBounds_toArray, List.set_cons_zero, List.set_cons_succ]
          refine late_take (i := 1) (some 20) rfl rfl (by kernel_rfl) (by kernel_rfl) (by kernel_rfl) (by kernel_rfl) (by kernel_rfl) (fun _ _ _ h => h) (by rfl) (v := ?v1r) ?hy1r hS ?rest1r
          case hy1r => intro w0 hSw; obtain ⟨z0, z1⟩ := hSw; go_simp; try with_reducible rfl
          simp only [Act.put, List.setIfInBounds_toArray, List.set_cons_zero, List.set_cons_succ]
          refine late_take (i := 2) (some 21) rfl rfl (by kernel_rfl) (by kernel_rfl) (by kernel_rfl) (by kernel_rfl) (by kernel_rfl) (fun _ _ _ h => h) (by rfl) (v := ?v2r) ?hy2r hS ?rest2r
          case hy2r => intro w0 hSw; obtain ⟨z0, z1⟩ := hSw; go_simp; try with_reducible rfl
          simp only [Act.put, List.setIfInBounds_toArray, List.set_cons_zero, List.set_cons_succ]
          refine late_take (i := 3) (some 22) rfl rfl (by kernel_rfl) (by kernel_rfl) (by kernel_rfl) (by kernel_rfl) (by kernel_rfl) (fun _ _ _ h => h) (by rfl) (v := ?v3r) ?hy3r hS ?rest3r
          case hy3r => intro w0 hSw; obtain ⟨z0, z1⟩ := hSw; go_simp; try with_reducible rfl
          simp only [Act.put, List.setIfInBounds_toArray, List.set_cons_zero, List.set_cons_succ]
          refine late_take (i := 4) (some 23) rfl rfl (by kernel_rfl) (by kernel_rfl) (by kernel_rfl) (by kernel_rfl) (by kernel_rfl) (fun _ _ _ h => h) (by rfl) (v := ?v4r) ?hy4r hS ?rest4r
          case hy4r => intro w0 hSw; obtain ⟨z0, z1⟩ := hSw; go_simp; try with_reducible rfl
          simp only [Act.put, List.setIfInBounds_toArray, List.set_cons_zero, List.set_cons_succ]
          refine late_take (i := 5) (some 24) rfl rfl (by kernel_rfl) (by kernel_rfl) (by kernel_rfl) (by kernel_rfl) (by kernel_rfl) (fun _ _ _ h => h) (by rfl) (v := ?v5r) ?hy5r hS ?rest5r
          case hy5r => intro w0 hSw; obtain ⟨z0, z1⟩ := hSw; go_simp; try with_reducible rfl
          simp only [Act.put, List.setIfInBounds_toArray, List.set_cons_zero, List.set_cons_succ]
          refine late_take (i := 6) (some 25) rfl rfl (by kernel_rfl) (by kernel_rfl) (by kernel_rfl) (by kernel_rfl) (by kernel_rfl) (fun _ _ _ h => h) (by rfl) (v := ?v6r) ?hy6r hS ?rest6r
          case hy6r => intro w0 hSw; obtain ⟨z0, z1⟩ := hSw; go_simp; try with_reducible rfl
          simp only [Act.put, List.setIfInBounds_toArray, List.set_cons_zero, List.set_cons_succ]
          refine late_take (i := 7) (some 26) rfl rfl (by kernel_rfl) (by kernel_rfl) (by kernel_rfl) (by kernel_rfl) (by kernel_rfl) (fun _ _ _ h => h) (by rfl) (v := ?v7r) ?hy7r hS ?rest7r
          case hy7r => intro w0 hSw; obtain ⟨z0, z1⟩ := hSw; go_simp; try with_reducible rfl
          simp only [Act.put, List.setIfInBounds_toArray, List.set_cons_zero, List.set_cons_succ]
          refine late_done (by kernel_rfl) ?_ _
          refine NoPanic.normal ?_
          go_wp2
          go_roundw
          case rel =>
            refine ⟨k + 1, by omega, by go_num, ⟨HB.out.1.drew, HB.out.2⟩, fun j hj => ?_⟩
            by_cases hjk : j = k
            · subst hjk
              rw [HZ.out, HY.out]
            · exact HJ.out j (by omega)
          case measure => simp [intOf]; omega
        · have hyz' : (y == z) = false := by simpa using hyz
          have HD : Hid (decide (hmac key text = code) = false) := by
            show _ = _
            simp
            intro e
            rw [HH.out] at e
            rw [e, HY.out] at HZ
            exact hyz HZ.out
          go_wp2_with fail
          refine wp_region_noPanic ?_
          refine any_begin 8 (by kernel_rfl) (by kernel_rfl) ?_
          refine late_begin (fun W => W.cell? ⟨b, o + k, none⟩ = some (.int .u8 y) ∧ W.cell? ⟨x, k, none⟩ = some (.int .u8 z)) (fun _ => false) HS.out (fun hS => ?_)
          refine late_take (i := 0) (some 19) rfl rfl (by kernel_rfl) (by kernel_rfl) (by kernel_rfl) (by kernel_rfl) (by kernel_rfl) (fun _ _ _ h => h) (by rfl) (v := ?v0s) ?hy0s hS ?rest0s
          case hy0s => intro w0 hSw; obtain ⟨z0, z1⟩ := hSw; go_simp; try with_reducible rfl
          simp only [Act.put, List.setIfInBounds_toArray, List.set_cons_zero, List.set_cons_succ]
          refine late_take (i := 1) (some 20) rfl rfl (by kernel_rfl) (by kernel_rfl) (by kernel_rfl) (by kernel_rfl) (by kernel_rfl) (fun _ _ _ h => h) (by rfl) (v := ?v1s) ?hy1s hS ?rest1s
          case hy1s => intro w0 hSw; obtain ⟨z0, z1⟩ := hSw; go_simp; try with_reducible rfl
          simp only [Act.put, List.setIfInBounds_toArray, List.set_cons_zero, List.set_cons_succ]
          refine late_take (i := 2) (some 21) rfl rfl (by kernel_rfl) (by kernel_rfl) (by kernel_rfl) (by kernel_rfl) (by kernel_rfl) (fun _ _ _ h => h) (by rfl) (v := ?v2s) ?hy2s hS ?rest2s
          case hy2s => intro w0 hSw; obtain ⟨z0, z1⟩ := hSw; go_simp; try with_reducible rfl
          simp only [Act.put, List.setIfInBounds_toArray, List.set_cons_zero, List.set_cons_succ]
          refine late_take (i := 3) (some 22) rfl rfl (by kernel_rfl) (by kernel_rfl) (by kernel_rfl) (by kernel_rfl) (by kernel_rfl) (fun _ _ _ h => h) (by rfl) (v := ?v3s) ?hy3s hS ?rest3s
          case hy3s => intro w0 hSw; obtain ⟨z0, z1⟩ := hSw; go_simp; try with_reducible rfl
          simp only [Act.put, List.setIfInBounds_toArray, List.set_cons_zero, List.set_cons_succ]
          refine late_take (i := 4) (some 23) rfl rfl (by kernel_rfl) (by kernel_rfl) (by kernel_rfl) (by kernel_rfl) (by kernel_rfl) (fun _ _ _ h => h) (by rfl) (v := ?v4s) ?hy4s hS ?rest4s
          case hy4s => intro w0 hSw; obtain ⟨z0, z1⟩ := hSw; go_simp; try with_reducible rfl
          simp only [Act.put, List.setIfInBounds_toArray, List.set_cons_zero, List.set_cons_succ]
          refine late_take (i := 5) (some 24) rfl rfl (by kernel_rfl) (by kernel_rfl) (by kernel_rfl) (by kernel_rfl) (by kernel_rfl) (fun _ _ _ h => h) (by rfl) (v := ?v5s) ?hy5s hS ?rest5s
          case hy5s => intro w0 hSw; obtain ⟨z0, z1⟩ := hSw; go_simp; try with_reducible rfl
          simp only [Act.put, List.setIfInBounds_toArray, List.set_cons_zero, List.set_cons_succ]
          refine late_take (i := 6) (some 25) rfl rfl (by kernel_rfl) (by kernel_rfl) (by kernel_rfl) (by kernel_rfl) (by kernel_rfl) (fun _ _ _ h => h) (by rfl) (v := ?v6s) ?hy6s hS ?rest6s
          case hy6s => intro w0 hSw; obtain ⟨z0, z1⟩ := hSw; go_simp; try with_reducible rfl
          simp only [Act.put, List.setIfInBounds_toArray, List.set_cons_zero, List.set_cons_succ]
          refine late_take (i := 7) (some 26) rfl rfl (by kernel_rfl) (by kernel_rfl) (by kernel_rfl) (by kernel_rfl) (by kernel_rfl) (fun _ _ _ h => h) (by rfl) (v := ?v7s) ?hy7s hS ?rest7s
          case hy7s => intro w0 hSw; obtain ⟨z0, z1⟩ := hSw; go_simp; try with_reducible rfl
          simp only [Act.put, List.setIfInBounds_toArray, List.set_cons_zero, List.set_cons_succ]
          refine late_done (by kernel_rfl) ?_ _
          refine NoPanic.normal ?_
          go_wp2
          go_ret
          rw [HD.out]
          exact ⟨rfl, HB.out.1.drew⟩
      · have hlt' : ¬ (k : Int) < 32 := by omega
        have HD : Hid (decide (hmac key text = code) = true) := by
          show _ = _
          simp
          rw [HH.out]
          have h1 := HX.out.2.2.2.2.2.2.2
          have h2 := HL.out
          refine (same_iff H code).1 ⟨by omega, fun j hj => HJ.out j (by omega)⟩
        go_wp2
        go_ret
        rw [HD.out]
        exact ⟨rfl, HB.out.1⟩
  · have hne : ((Nc : Int) == 32) = false := by simp; omega
    have HD : Hid (decide (hmac key text = code) = false) := by
      show _ = _
      simp
      intro e
      have h1 := HX.out.2.2.2.2.2.2.2
      have h2 := HL.out
      rw [HH.out] at e
      rw [e] at h2
      omega
    go_enter Tryd.func21, Tryd.ntmps21
    go_wp2_with (first
      | (go_at_call 19; (with_reducible refine (refMac_any HX.out.1 HX.out.2.1 HX.out.2.2.2.1 HX.out.2.2.2.2.1 HX.out.2.2.2.2.2.1 HX.out.2.2.2.2.2.2.1).mono ?_); rintro e w1 ⟨rfl, hb1⟩; rw [HH.out]; have B1 := hid hb1; clear hb1)
      | (refine wpList_store_as rfl 24 _ _ rfl _ (bsv H) rfl rfl 24 _ (row_new _ _ _) (by rw [size24, bsv_size, HL.out]) (by rw [bsv_size, HL.out]; rfl) (bsv_one _) ?_; intro w2 hst; have B2 : Hid (Below w.heap.size w w2 ∧ RowAt w2 w1.heap.size (bsv H) 24) := (⟨hst.below (B1.out.alloc B1.out.size _) B1.out.size, hst.row⟩); clear hst B1))
    go_ret
    rw [HD.out]
    exact ⟨rfl, B2.out.1⟩
theorem refVerify_any {w : World} {v u c : Value} {key text code : List Int} (ha : ArgAt w v key) (hb : ArgAt w u text) (hc : ArgAt w c code) (bk : ∀ x ∈ key, 0 ≤ x ∧ x < 256) (bt : ∀ x ∈ text, 0 ≤ x ∧ x < 256) (hm : key.length + 200 ≤ 140737488355328) (hn : text.length + 200 ≤ 140737488355328) :
    Calls Tryd.prog 21 #[v, u, c] w fun e w' => e = .returned (.bool (decide (hmac key text = code))) ∧ Below w.heap.size w w' := by
  obtain ⟨pc, Nc, cc, rfl, lc⟩ := hc.form
  exact refVerify_core pc Nc cc ha hb hc lc bk bt hm hn
end Go.Proofs.YtojcaoieodogdaaDoor
