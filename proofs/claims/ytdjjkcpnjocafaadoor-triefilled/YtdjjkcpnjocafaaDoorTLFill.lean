/- The law TrieFilled: a pattern filled in fits what comes of it. -/
import Derived.Test.YtdjjkcpnjocafaaDoorTFillP
import Derived.Test.YtdjjkcpnjocafaaDoorTLFits
namespace Go.Proofs.YtdjjkcpnjocafaaDoor
open Go.RowKit

set_option maxRecDepth 20000 in
set_option maxHeartbeats 8000000 in
theorem filled_no (p : B) (hp : p.length ≤ 4398046511104) (hc : checkP p = false) (v : Value) (w : World) (hmx : MxAt w) : Calls Tryd.prog 6 #[.string (str p), v] w fun e w' => e = .returned (.bool true) ∧ Below w.heap.size w w' := by
  have HCk := hid (fun (W : World) (h : MxAt W) => check_any p hp W h)
  rw [hc, if_neg (by decide)] at HCk
  have HSu := hid (fun (W : World) (h : MxAt W) => sure_any W h)
  have HMx := hid hmx
  obtain ⟨S, hS⟩ : ∃ S, str p = S := ⟨_, rfl⟩
  rw [hS] at HCk ⊢
  clear hS hc hmx
  go_enter Tryd.func6, Tryd.ntmps6
  go_wp2_with (first | (go_at_call 11; first | ((with_reducible refine (HCk.out _ HMx.out).mono ?_); rintro e w1 ⟨rfl, hb1⟩; have HB1 := hid hb1; have HM1 := hid (HMx.out.next hb1); clear hb1) | ((with_reducible refine (HCk.out _ HM1.out).mono ?_); rintro e w2 ⟨rfl, hb2⟩; have HB2 := hid (below_out HB1.out hb2); have HM2 := hid (HM1.out.next hb2); clear hb2)) | (go_at_call 19; (with_reducible refine (HSu.out _ HM2.out).mono ?_); rintro e w3 ⟨rfl, hb3⟩; have HB3 := hid (below_out HB2.out hb3); clear hb3))
  go_ret
  exact ⟨rfl, HB3.out⟩
set_option maxRecDepth 20000 in
set_option maxHeartbeats 32000000 in
theorem filled_yes (p : B) (hc : checkP p = true) (vals : List B) (pv : Option Addr) (nv cv : Nat) (hnv : vals.length = nv) (hvl : ∀ s ∈ vals, s.length ≤ 9223372036854775807) (w : World) (hV : TxAt w pv vals) (hmx : MxAt w) :
    Calls Tryd.prog 6 #[.string (str p), .slice pv nv cv] w fun e w' => e = .returned (.bool true) ∧ Below w.heap.size w w' := by
  obtain ⟨j0, hj0, hy0, hy1, hy2⟩ := info_parts infoS
  have HCk := hid (check_any p (by obtain ⟨t, _, _, h, _⟩ := check_parts hc; omega) w hmx)
  rw [hc, if_pos rfl] at HCk
  have HSu := hid (fun (W : World) (h : MxAt W) => sure_any W h)
  have HMx := hid hmx
  have HV := hid hV
  have HNv := hid hnv
  have HPl := hid (fun (s : B) (h : s ∈ vals) (W : World) => plain_any s (hvl s h) W)
  obtain ⟨F, hF1, hF2⟩ := fill_fits hc vals
  have hFl := fits_few hF1
  have HFp := hid (fun (h : (pathT (valT vals) (cutT p.tail)).length ≤ 4294967280) (W : World) (h2 : MxAt W) => fits_any p (pathT (valT vals) (cutT p.tail)) (by obtain ⟨t, _, _, h, _⟩ := check_parts hc; omega) h W h2)
  rw [hF1] at HFp
  have HF2 := hid hF2
  obtain ⟨t, etp, h64, h256, _⟩ := check_parts hc
  have HX := hid (show cutT (p.drop 1) = cutT p.tail from by rw [List.drop_one])
  have hX64 : (cutT p.tail).length ≤ 64 := by rw [etp]; exact h64
  obtain ⟨X, hX⟩ : ∃ X, cutT p.tail = X := ⟨_, rfl⟩
  rw [hX] at HFp HF2 HX hX64
  obtain ⟨n, hn⟩ : ∃ n, p.length = n := ⟨_, rfl⟩
  have HN := hid hn
  have hn1 : 1 ≤ n := by rw [← hn, etp]; simp
  have hn256 : n ≤ 256 := by rw [← hn]; exact h256
  have hn0 : ((n : Int) == 0) = false := by simp; omega
  obtain ⟨S, hS⟩ : ∃ S, str p = S := ⟨_, rfl⟩
  have hSn : S.size = n := by rw [← hS, str_size, hn]
  have HByte := hid (show ∀ (k : Nat) (h : k < p.length) (h2 : k < S.size), S[k]'h2 = p[k]'h from fun k h h2 => by subst hS; rfl)
  have HEx := hid (ext_str p)
  rw [hS] at HEx HCk HFp ⊢
  clear hS hc hmx hn etp h64 h256 hX hF1 hF2 hvl hV hnv
  go_enter Tryd.func6, Tryd.ntmps6
  go_wp2_with (go_at_call 11; (with_reducible refine HCk.out.mono ?_); rintro e w1 ⟨rfl, hb1⟩; have HB1 := hid hb1; have HM1 := hid (HMx.out.next hb1); have HV1 := hid (HV.out.next hb1); clear hb1)
  go_loopg [5, 6, 7, 8] (n + 1) (fun gk s5 s6 s7 s8 wr => ∃ (i f m6 c6 : Nat) (acc : List B) (p6 : Option Addr), 1 ≤ i ∧ f ≤ i ∧ i ≤ n + 1 ∧ gk = n + 1 - i + 1 ∧ s8 = .int .i64 (i : Int) ∧ s7 = .int .i64 (f : Int) ∧ s5 = .string (str (pathT (valT vals) acc)) ∧ s6 = .slice p6 m6 c6 ∧ (wantT (valT vals) 0 acc).length = m6 ∧ OwnR 9 1 (fun t : B => [.string (str t)]) wr w1.heap.size (.slice p6 m6 c6) (wantT (valT vals) 0 acc) ∧ (pathT (valT vals) acc).length ≤ 23 * f ∧ ((i ≤ n ∧ 1 ≤ f ∧ (∀ y ∈ (p.drop f).take (i - f), y ≠ 47) ∧ X = acc ++ cutT (p.drop f)) ∨ (i = n + 1 ∧ X = acc)) ∧ Below w1.heap.size w1 wr)
  case atStart => exact ⟨1, 1, 0, 0, [], none, by omega, by omega, by omega, by omega, rfl, rfl, rfl, rfl, rfl, OwnR.nil _ _, by simp [pathT, fillT], .inl ⟨hn1, by omega, fun y hy => by simp at hy, by rw [HX.out]; rfl⟩, Below.refl _ _⟩
  case round =>
    obtain ⟨i, f, m6, c6, acc, p6, hi1, hf, hi2, rfl, rfl, rfl, rfl, rfl, hl6, hO6, hpl, hR, hb⟩ := hrel
    have HB := hid hb
    have HO6 := hid hO6
    have HL6 := hid hl6
    have HPl6 := hid hpl
    obtain ⟨want, hwant⟩ : ∃ wn, wantT (valT vals) 0 acc = wn := ⟨_, rfl⟩
    have HWa := hid hwant
    rw [hwant] at HO6 HL6
    clear hb hO6 hl6
    by_cases hin : i ≤ n
    · obtain ⟨_, hf1, hno, hRX⟩ : i ≤ n ∧ 1 ≤ f ∧ (∀ y ∈ (p.drop f).take (i - f), y ≠ 47) ∧ X = acc ++ cutT (p.drop f) := hR.elim (fun h => h) (fun h => absurd h.1 (by omega))
      have HNo := hid hno
      have HRX := hid hRX
      have hlenP : (pathT (valT vals) acc).length ≤ 5911 := by omega
      obtain ⟨PT, hPT⟩ : ∃ q, pathT (valT vals) acc = q := ⟨_, rfl⟩
      have HPT := hid hPT
      have hexf : S.extract f i = str ((p.drop f).take (i - f)) := HEx.out f i
      clear hR hno hRX hwant
      have HEnd := hid (show (i = n ∨ p[i]? = some 47) → X = acc ++ [(p.drop f).take (i - f)] ++ (if i = n then [] else cutT (p.drop (i + 1))) from fun h => by
        rw [HRX.out]
        by_cases hi9 : i = n
        · rw [if_pos hi9, cutT_end (m := i - f) HNo.out (by rw [List.length_drop, HN.out]; omega)]
          simp
        · rw [if_neg hi9]
          have h47 : p[i]? = some 47 := h.elim (fun e => absurd e hi9) (fun e => e)
          rw [cutT_at (m := i - f) HNo.out (by rw [List.getElem?_drop, show f + (i - f) = i by omega]; exact h47), List.drop_drop, show f + (i - f + 1) = i + 1 by omega]
          simp)
      have HNxt := hid (show (i = n ∨ p[i]? = some 47) → (i + 1 ≤ n ∧ 1 ≤ i + 1 ∧ (∀ y ∈ (p.drop (i + 1)).take (i + 1 - (i + 1)), y ≠ 47) ∧ X = (acc ++ [(p.drop f).take (i - f)]) ++ cutT (p.drop (i + 1))) ∨ (i + 1 = n + 1 ∧ X = acc ++ [(p.drop f).take (i - f)]) from fun h => by
        have h1 := HEnd.out h
        by_cases hi9 : i = n
        · rw [if_pos hi9, List.append_nil] at h1
          exact .inr ⟨by omega, h1⟩
        · rw [if_neg hi9] at h1
          exact .inl ⟨by omega, by omega, fun y hy => by simp at hy, h1⟩)
      by_cases hgo : i = n ∨ p[i]? = some 47
      · have HNx := hid (HNxt.out hgo)
        obtain ⟨x, hx⟩ : ∃ x, (p.drop f).take (i - f) = x := ⟨_, rfl⟩
        rw [hx] at HNx hexf
        have hxl : x.length = i - f := by rw [← hx, List.length_take, List.length_drop, HN.out]; omega
        have HPs := hid (path_snoc (valT vals) acc x)
        have HWs := hid (want_snoc (valT vals) acc 0 x)
        rw [HWa.out, Nat.zero_add, HL6.out] at HWs
        rw [HWa.out, HL6.out, hPT] at HPs
        obtain ⟨SX, hSX⟩ : ∃ q, str x = q := ⟨_, rfl⟩
        obtain ⟨SPT, hSPT⟩ : ∃ q, str PT = q := ⟨_, rfl⟩
        have hSXn : SX.size = i - f := by rw [← hSX, str_size, hxl]
        have hSPn : SPT.size = PT.length := by rw [← hSPT, str_size]
        rw [hPT] at hlenP
        have hvlm := valT_len vals m6
        have HLen := hid (show (pathT (valT vals) (acc ++ [x])).length ≤ 23 * (i + 1) from by
          rw [HPs.out, List.length_append, List.length_cons]
          rw [hPT] at hpl
          split
          · omega
          · omega)
        have HBx := hid (show ∀ (k : Nat) (h : k < x.length) (h2 : k < SX.size), SX[k]'h2 = x[k]'h from fun k h h2 => by subst hSX; rfl)
        have hSPs : SPT.size ≤ 5911 := by rw [← hSPT, str_size]; exact hlenP
        have hif : i - f ≤ 256 := by omega
        have hifI : ((i - f : Nat) : Int) = (i : Int) - (f : Int) := by omega
        rw [hSX] at hexf
        by_cases hk0 : kindT x = 0
        · rw [if_pos hk0] at HPs HWs
          have HWn := hid (show wantT (valT vals) 0 (acc ++ [x]) = want from by rw [HWs.out, List.append_nil])
          have HApp := hid (show (SPT ++ (⟨#[47]⟩ : ByteArray)) ++ SX = str (pathT (valT vals) (acc ++ [x])) from by rw [HPs.out, ← hSPT, ← hSX, show (⟨#[47]⟩ : ByteArray) = str [47] from rfl, str_app, str_app]; simp)
          rw [hPT, hSPT]
          by_cases hx0 : x = []
          · obtain rfl : (⟨#[]⟩ : ByteArray) = SX := by rw [← hSX, hx0]
            have hfi : i = f := by rw [hx0] at hxl; simp at hxl; omega
            subst hfi
            have HAppE := hid (show SPT ++ (⟨#[47]⟩ : ByteArray) = str (pathT (valT vals) (acc ++ [x])) from by rw [HPs.out, hx0, ← hSPT, show (⟨#[47]⟩ : ByteArray) = str [47] from rfl, str_app])
            clear hx hSX hSPT hPT hxl hx0 hk0 hpl hvlm HBx hSPn
            rcases hgo with hgo | hgo
            · subst hgo
              have hdn : decide ((i : Int) < (i : Int)) = false := decide_eq_false (by omega)
              go_wp2
              go_roundg (i + 1 - (i + 1) + 1)
              case measure => omega
              case rel => exact ⟨i + 1, i + 1, m6, c6, acc ++ [x], p6, by omega, by omega, by omega, rfl, by push_cast; go_num, by push_cast; go_num, congrArg Value.string HAppE.out, rfl, by rw [HWn.out]; exact HL6.out, by rw [HWn.out]; exact HO6.out, HLen.out, (HNx.out.elim .inl (fun h => .inr ⟨rfl, h.2⟩)), HB.out⟩
            · obtain ⟨h5, h6⟩ := List.getElem?_eq_some_iff.1 hgo
              have hltn : i < n := by rw [← HN.out]; exact h5
              have hdn : decide ((i : Int) < (n : Int)) = true := decide_eq_true (by omega)
              have hbyte : ∀ h : i < S.size, (S[i]'h).toNat = 47 := fun h => by rw [HByte.out i h5 h, h6]; rfl
              clear h5 h6 hgo
              go_wp2
              go_roundg (n + 1 - (i + 1) + 1)
              case measure => omega
              case rel => exact ⟨i + 1, i + 1, m6, c6, acc ++ [x], p6, by omega, by omega, by omega, rfl, by push_cast; go_num, by push_cast; go_num, congrArg Value.string HAppE.out, rfl, by rw [HWn.out]; exact HL6.out, by rw [HWn.out]; exact HO6.out, HLen.out, HNx.out, HB.out⟩
          · obtain ⟨c, xt, hcx⟩ : ∃ c xt, x = c :: xt := by cases x with | nil => exact absurd rfl hx0 | cons c xt => exact ⟨c, xt, rfl⟩
            obtain ⟨C, hC⟩ : ∃ C : Nat, c.toNat = C := ⟨_, rfl⟩
            have hC256 : C < 256 := by rw [← hC]; exact c.toNat_lt
            have hbx : ∀ h : 0 < SX.size, (SX[0]'h).toNat = C := fun h => by rw [HBx.out 0 (by rw [hcx]; simp) h]; simp only [hcx, List.getElem_cons_zero]; exact hC
            have hif0 : 0 < i - f := by rw [← hxl, hcx]; simp
            have hc58 : ¬ c = 58 := fun e => by rw [hcx] at hk0; simp [kindT, e] at hk0
            have hc42 : ¬ c = 42 := fun e => by rw [hcx] at hk0; simp [kindT, e] at hk0
            have z1 : ¬ (C : Int) = 58 := fun e => hc58 (UInt8.toNat_inj.1 (by rw [hC]; show C = 58; omega))
            have z2 : ¬ (C : Int) = 42 := fun e => hc42 (UInt8.toNat_inj.1 (by rw [hC]; show C = 42; omega))
            have z3 : ((C : Int) == 58) = false := by simpa using z1
            have z4 : ((C : Int) == 42) = false := by simpa using z2
            clear hx hSX hSPT hPT hxl hx0 hk0 hpl hvlm HBx hSPn hcx hC hc58 hc42
            rcases hgo with hgo | hgo
            · subst hgo
              have hdn : decide ((i : Int) < (i : Int)) = false := decide_eq_false (by omega)
              go_wp2
              go_roundg (i + 1 - (i + 1) + 1)
              case measure => omega
              case rel => exact ⟨i + 1, i + 1, m6, c6, acc ++ [x], p6, by omega, by omega, by omega, rfl, by push_cast; go_num, by push_cast; go_num, congrArg Value.string HApp.out, rfl, by rw [HWn.out]; exact HL6.out, by rw [HWn.out]; exact HO6.out, HLen.out, (HNx.out.elim .inl (fun h => .inr ⟨rfl, h.2⟩)), HB.out⟩
            · obtain ⟨h5, h6⟩ := List.getElem?_eq_some_iff.1 hgo
              have hltn : i < n := by rw [← HN.out]; exact h5
              have hdn : decide ((i : Int) < (n : Int)) = true := decide_eq_true (by omega)
              have hbyte : ∀ h : i < S.size, (S[i]'h).toNat = 47 := fun h => by rw [HByte.out i h5 h, h6]; rfl
              clear h5 h6 hgo
              go_wp2
              go_roundg (n + 1 - (i + 1) + 1)
              case measure => omega
              case rel => exact ⟨i + 1, i + 1, m6, c6, acc ++ [x], p6, by omega, by omega, by omega, rfl, by push_cast; go_num, by push_cast; go_num, congrArg Value.string HApp.out, rfl, by rw [HWn.out]; exact HL6.out, by rw [HWn.out]; exact HO6.out, HLen.out, HNx.out, HB.out⟩
        · rw [if_neg hk0] at HPs HWs
          have HWn := hid (show wantT (valT vals) 0 (acc ++ [x]) = want ++ [valT vals m6] from HWs.out)
          obtain ⟨VV, hVV⟩ : ∃ q, str (valT vals m6) = q := ⟨_, rfl⟩
          have HVV := hid (show [Value.string (str (valT vals m6))] = [.string VV] from by rw [hVV])
          have hVVs : VV.size ≤ 21 := by rw [← hVV, str_size]; exact hvlm
          have HApp := hid (show (SPT ++ (⟨#[47]⟩ : ByteArray)) ++ VV = str (pathT (valT vals) (acc ++ [x])) from by rw [HPs.out, ← hSPT, ← hVV, show (⟨#[47]⟩ : ByteArray) = str [47] from rfl, str_app, str_app]; simp)
          rw [hPT, hSPT]
          have hm6n : m6 ≤ 64 := by
            rw [← HL6.out, ← HWa.out]
            refine Nat.le_trans (want_len _ _ 0) ?_
            have h7 := congrArg List.length HRX.out
            rw [List.length_append] at h7
            omega
          obtain ⟨c, xt, hcx⟩ : ∃ c xt, x = c :: xt := by cases x with | nil => exact absurd rfl hk0 | cons c xt => exact ⟨c, xt, rfl⟩
          have hif0 : 0 < i - f := by rw [← hxl, hcx]; simp
          by_cases hmv : m6 < nv
          · obtain ⟨s9, hs9⟩ : ∃ s9, vals[m6]? = some s9 := ⟨_, List.getElem?_eq_getElem (by rw [HNv.out]; exact hmv)⟩
            have hVc : (⟨#[118]⟩ : ByteArray) ++ str (plT s9) = VV := by rw [← hVV, show (⟨#[118]⟩ : ByteArray) = str [118] from rfl, str_app]; unfold valT; rw [hs9]; rfl
            have HPs2 := hid (fun W : World => HPl.out s9 (List.mem_of_getElem? hs9) W)
            have hps := plT_len s9
            obtain ⟨g9, o9, rfl, q9⟩ := (HV1.out.next HB.out) m6 s9 hs9
            obtain ⟨PS, hPS⟩ : ∃ q, str (plT s9) = q := ⟨_, rfl⟩
            obtain ⟨S9, hS9⟩ : ∃ q, str s9 = q := ⟨_, rfl⟩
            have hPSs : PS.size ≤ 20 := by rw [← hPS, str_size]; exact hps
            rw [hPS] at HPs2 hVc
            rw [hS9] at HPs2 q9
            have hcc : c = 58 ∨ c = 42 := by
              by_cases h1 : c = 58
              · exact .inl h1
              · by_cases h2 : c = 42
                · exact .inr h2
                · exact absurd (by rw [hcx]; simp [kindT, h1, h2]) hk0
            rcases hcc with hcc | hcc
            · have hbx : ∀ h : 0 < SX.size, (SX[0]'h).toNat = 58 := fun h => by rw [HBx.out 0 (by rw [hcx]; simp) h]; simp only [hcx, List.getElem_cons_zero, hcc]; rfl
              clear hx hSX hSPT hPT hxl hk0 hpl hvlm HBx hSPn hcx hcc hVV hPS hS9 hs9 hps
              rcases hgo with hgo | hgo
              · subst hgo
                have hdn : decide ((i : Int) < (i : Int)) = false := decide_eq_false (by omega)
                go_wp2_with (first | (go_at_call 24; (with_reducible refine (HPs2.out _).mono ?_); rintro e wp ⟨rfl, hbp⟩; have HO8 := hid (HO6.out.keep hbp); have HB8 := hid (HB.out.trans (hbp.mono HB.out.size)); clear hbp) | (at_builtin; refine wpList_append_own_at _ rfl (.tmp 77) (.tmp 79) 23 rfl w1.heap.size 9 j0 _ 1 16 Tryd.underlying23 hj0 hy0 hy1 hy2 rfl (by decide) (.slice p6 m6 c6) m6 (want.flatMap fun t : B => [.string (str t)]) (by go_simp) (by have h8 := HO8.out.alloc (.cells #[.string VV] 9 (0, 0)); unfold OwnR at h8; rw [HL6.out] at h8; exact h8) ⟨wp.heap.size, 0, none⟩ 1 1 [.string VV] (by go_simp) rfl (cells_new wp _ _) (by simp [Value.oneCell']) (by unfold maxLen; omega) (by omega) (by have h1 := HB8.out.size; simp; omega) ?_; intro v6 wt hown hgr _ _; obtain ⟨p7, L7, c7, rfl⟩ := own_slice3 hown; have HT7 := hid (show OwnR 9 1 (fun t : B => [.string (str t)]) wt w1.heap.size (.slice p7 L7 c7) (want ++ [valT vals m6]) from OwnR.put HL6.out (by rw [HVV.out]; exact hown)); have HBt := hid (show Below w1.heap.size w1 wt from (HB8.out.trans ((below_new wp _).mono HB8.out.size)).trans ((HO8.out.alloc _).below (by have h1 := HB8.out.size; simp; omega) hgr)); obtain ⟨hL7, _⟩ : L7 = m6 + 1 ∧ True := ⟨row_len hown, trivial⟩; subst hL7; clear hown hgr))
                go_roundg (i + 1 - (i + 1) + 1)
                case measure => omega
                case rel => exact ⟨i + 1, i + 1, m6 + 1, c7, acc ++ [x], p7, by omega, by omega, by omega, rfl, by push_cast; go_num, by push_cast; go_num, congrArg Value.string HApp.out, rfl, by rw [HWn.out, List.length_append, HL6.out]; rfl, by rw [HWn.out]; exact HT7.out, HLen.out, (HNx.out.elim .inl (fun h => .inr ⟨rfl, h.2⟩)), HBt.out⟩
              · obtain ⟨h5, h6⟩ := List.getElem?_eq_some_iff.1 hgo
                have hltn : i < n := by rw [← HN.out]; exact h5
                have hdn : decide ((i : Int) < (n : Int)) = true := decide_eq_true (by omega)
                have hbyte : ∀ h : i < S.size, (S[i]'h).toNat = 47 := fun h => by rw [HByte.out i h5 h, h6]; rfl
                clear h5 h6 hgo
                go_wp2_with (first | (go_at_call 24; (with_reducible refine (HPs2.out _).mono ?_); rintro e wp ⟨rfl, hbp⟩; have HO8 := hid (HO6.out.keep hbp); have HB8 := hid (HB.out.trans (hbp.mono HB.out.size)); clear hbp) | (at_builtin; refine wpList_append_own_at _ rfl (.tmp 77) (.tmp 79) 23 rfl w1.heap.size 9 j0 _ 1 16 Tryd.underlying23 hj0 hy0 hy1 hy2 rfl (by decide) (.slice p6 m6 c6) m6 (want.flatMap fun t : B => [.string (str t)]) (by go_simp) (by have h8 := HO8.out.alloc (.cells #[.string VV] 9 (0, 0)); unfold OwnR at h8; rw [HL6.out] at h8; exact h8) ⟨wp.heap.size, 0, none⟩ 1 1 [.string VV] (by go_simp) rfl (cells_new wp _ _) (by simp [Value.oneCell']) (by unfold maxLen; omega) (by omega) (by have h1 := HB8.out.size; simp; omega) ?_; intro v6 wt hown hgr _ _; obtain ⟨p7, L7, c7, rfl⟩ := own_slice3 hown; have HT7 := hid (show OwnR 9 1 (fun t : B => [.string (str t)]) wt w1.heap.size (.slice p7 L7 c7) (want ++ [valT vals m6]) from OwnR.put HL6.out (by rw [HVV.out]; exact hown)); have HBt := hid (show Below w1.heap.size w1 wt from (HB8.out.trans ((below_new wp _).mono HB8.out.size)).trans ((HO8.out.alloc _).below (by have h1 := HB8.out.size; simp; omega) hgr)); obtain ⟨hL7, _⟩ : L7 = m6 + 1 ∧ True := ⟨row_len hown, trivial⟩; subst hL7; clear hown hgr))
                go_roundg (n + 1 - (i + 1) + 1)
                case measure => omega
                case rel => exact ⟨i + 1, i + 1, m6 + 1, c7, acc ++ [x], p7, by omega, by omega, by omega, rfl, by push_cast; go_num, by push_cast; go_num, congrArg Value.string HApp.out, rfl, by rw [HWn.out, List.length_append, HL6.out]; rfl, by rw [HWn.out]; exact HT7.out, HLen.out, HNx.out, HBt.out⟩
            · have hbx : ∀ h : 0 < SX.size, (SX[0]'h).toNat = 42 := fun h => by rw [HBx.out 0 (by rw [hcx]; simp) h]; simp only [hcx, List.getElem_cons_zero, hcc]; rfl
              clear hx hSX hSPT hPT hxl hk0 hpl hvlm HBx hSPn hcx hcc hVV hPS hS9 hs9 hps
              rcases hgo with hgo | hgo
              · subst hgo
                have hdn : decide ((i : Int) < (i : Int)) = false := decide_eq_false (by omega)
                go_wp2_with (first | (go_at_call 24; (with_reducible refine (HPs2.out _).mono ?_); rintro e wp ⟨rfl, hbp⟩; have HO8 := hid (HO6.out.keep hbp); have HB8 := hid (HB.out.trans (hbp.mono HB.out.size)); clear hbp) | (at_builtin; refine wpList_append_own_at _ rfl (.tmp 77) (.tmp 79) 23 rfl w1.heap.size 9 j0 _ 1 16 Tryd.underlying23 hj0 hy0 hy1 hy2 rfl (by decide) (.slice p6 m6 c6) m6 (want.flatMap fun t : B => [.string (str t)]) (by go_simp) (by have h8 := HO8.out.alloc (.cells #[.string VV] 9 (0, 0)); unfold OwnR at h8; rw [HL6.out] at h8; exact h8) ⟨wp.heap.size, 0, none⟩ 1 1 [.string VV] (by go_simp) rfl (cells_new wp _ _) (by simp [Value.oneCell']) (by unfold maxLen; omega) (by omega) (by have h1 := HB8.out.size; simp; omega) ?_; intro v6 wt hown hgr _ _; obtain ⟨p7, L7, c7, rfl⟩ := own_slice3 hown; have HT7 := hid (show OwnR 9 1 (fun t : B => [.string (str t)]) wt w1.heap.size (.slice p7 L7 c7) (want ++ [valT vals m6]) from OwnR.put HL6.out (by rw [HVV.out]; exact hown)); have HBt := hid (show Below w1.heap.size w1 wt from (HB8.out.trans ((below_new wp _).mono HB8.out.size)).trans ((HO8.out.alloc _).below (by have h1 := HB8.out.size; simp; omega) hgr)); obtain ⟨hL7, _⟩ : L7 = m6 + 1 ∧ True := ⟨row_len hown, trivial⟩; subst hL7; clear hown hgr))
                go_roundg (i + 1 - (i + 1) + 1)
                case measure => omega
                case rel => exact ⟨i + 1, i + 1, m6 + 1, c7, acc ++ [x], p7, by omega, by omega, by omega, rfl, by push_cast; go_num, by push_cast; go_num, congrArg Value.string HApp.out, rfl, by rw [HWn.out, List.length_append, HL6.out]; rfl, by rw [HWn.out]; exact HT7.out, HLen.out, (HNx.out.elim .inl (fun h => .inr ⟨rfl, h.2⟩)), HBt.out⟩
              · obtain ⟨h5, h6⟩ := List.getElem?_eq_some_iff.1 hgo
                have hltn : i < n := by rw [← HN.out]; exact h5
                have hdn : decide ((i : Int) < (n : Int)) = true := decide_eq_true (by omega)
                have hbyte : ∀ h : i < S.size, (S[i]'h).toNat = 47 := fun h => by rw [HByte.out i h5 h, h6]; rfl
                clear h5 h6 hgo
                go_wp2_with (first | (go_at_call 24; (with_reducible refine (HPs2.out _).mono ?_); rintro e wp ⟨rfl, hbp⟩; have HO8 := hid (HO6.out.keep hbp); have HB8 := hid (HB.out.trans (hbp.mono HB.out.size)); clear hbp) | (at_builtin; refine wpList_append_own_at _ rfl (.tmp 77) (.tmp 79) 23 rfl w1.heap.size 9 j0 _ 1 16 Tryd.underlying23 hj0 hy0 hy1 hy2 rfl (by decide) (.slice p6 m6 c6) m6 (want.flatMap fun t : B => [.string (str t)]) (by go_simp) (by have h8 := HO8.out.alloc (.cells #[.string VV] 9 (0, 0)); unfold OwnR at h8; rw [HL6.out] at h8; exact h8) ⟨wp.heap.size, 0, none⟩ 1 1 [.string VV] (by go_simp) rfl (cells_new wp _ _) (by simp [Value.oneCell']) (by unfold maxLen; omega) (by omega) (by have h1 := HB8.out.size; simp; omega) ?_; intro v6 wt hown hgr _ _; obtain ⟨p7, L7, c7, rfl⟩ := own_slice3 hown; have HT7 := hid (show OwnR 9 1 (fun t : B => [.string (str t)]) wt w1.heap.size (.slice p7 L7 c7) (want ++ [valT vals m6]) from OwnR.put HL6.out (by rw [HVV.out]; exact hown)); have HBt := hid (show Below w1.heap.size w1 wt from (HB8.out.trans ((below_new wp _).mono HB8.out.size)).trans ((HO8.out.alloc _).below (by have h1 := HB8.out.size; simp; omega) hgr)); obtain ⟨hL7, _⟩ : L7 = m6 + 1 ∧ True := ⟨row_len hown, trivial⟩; subst hL7; clear hown hgr))
                go_roundg (n + 1 - (i + 1) + 1)
                case measure => omega
                case rel => exact ⟨i + 1, i + 1, m6 + 1, c7, acc ++ [x], p7, by omega, by omega, by omega, rfl, by push_cast; go_num, by push_cast; go_num, congrArg Value.string HApp.out, rfl, by rw [HWn.out, List.length_append, HL6.out]; rfl, by rw [HWn.out]; exact HT7.out, HLen.out, HNx.out, HBt.out⟩
          · obtain rfl : (⟨#[118]⟩ : ByteArray) = VV := by rw [← hVV]; unfold valT; rw [List.getElem?_eq_none (by rw [HNv.out]; omega)]
            have HO8 := hid HO6.out
            have HB8 := hid HB.out
            have hcc : c = 58 ∨ c = 42 := by
              by_cases h1 : c = 58
              · exact .inl h1
              · by_cases h2 : c = 42
                · exact .inr h2
                · exact absurd (by rw [hcx]; simp [kindT, h1, h2]) hk0
            rcases hcc with hcc | hcc
            · have hbx : ∀ h : 0 < SX.size, (SX[0]'h).toNat = 58 := fun h => by rw [HBx.out 0 (by rw [hcx]; simp) h]; simp only [hcx, List.getElem_cons_zero, hcc]; rfl
              clear hx hSX hSPT hPT hxl hk0 hpl hvlm HBx hSPn hcx hcc hVV
              rcases hgo with hgo | hgo
              · subst hgo
                have hdn : decide ((i : Int) < (i : Int)) = false := decide_eq_false (by omega)
                go_wp2_with (first | (at_builtin; refine wpList_append_own_at _ rfl (.tmp 77) (.tmp 79) 23 rfl w1.heap.size 9 j0 _ 1 16 Tryd.underlying23 hj0 hy0 hy1 hy2 rfl (by decide) (.slice p6 m6 c6) m6 (want.flatMap fun t : B => [.string (str t)]) (by go_simp) (by have h8 := HO8.out.alloc (.cells #[.string ⟨#[118]⟩] 9 (0, 0)); unfold OwnR at h8; rw [HL6.out] at h8; exact h8) ⟨wr.heap.size, 0, none⟩ 1 1 [.string ⟨#[118]⟩] (by go_simp) rfl (cells_new wr _ _) (by simp [Value.oneCell']) (by unfold maxLen; omega) (by omega) (by have h1 := HB8.out.size; simp; omega) ?_; intro v6 wt hown hgr _ _; obtain ⟨p7, L7, c7, rfl⟩ := own_slice3 hown; have HT7 := hid (show OwnR 9 1 (fun t : B => [.string (str t)]) wt w1.heap.size (.slice p7 L7 c7) (want ++ [valT vals m6]) from OwnR.put HL6.out (by rw [HVV.out]; exact hown)); have HBt := hid (show Below w1.heap.size w1 wt from (HB8.out.trans ((below_new wr _).mono HB8.out.size)).trans ((HO8.out.alloc _).below (by have h1 := HB8.out.size; simp; omega) hgr)); obtain ⟨hL7, _⟩ : L7 = m6 + 1 ∧ True := ⟨row_len hown, trivial⟩; subst hL7; clear hown hgr))
                go_roundg (i + 1 - (i + 1) + 1)
                case measure => omega
                case rel => exact ⟨i + 1, i + 1, m6 + 1, c7, acc ++ [x], p7, by omega, by omega, by omega, rfl, by push_cast; go_num, by push_cast; go_num, congrArg Value.string HApp.out, rfl, by rw [HWn.out, List.length_append, HL6.out]; rfl, by rw [HWn.out]; exact HT7.out, HLen.out, (HNx.out.elim .inl (fun h => .inr ⟨rfl, h.2⟩)), HBt.out⟩
              · obtain ⟨h5, h6⟩ := List.getElem?_eq_some_iff.1 hgo
                have hltn : i < n := by rw [← HN.out]; exact h5
                have hdn : decide ((i : Int) < (n : Int)) = true := decide_eq_true (by omega)
                have hbyte : ∀ h : i < S.size, (S[i]'h).toNat = 47 := fun h => by rw [HByte.out i h5 h, h6]; rfl
                clear h5 h6 hgo
                go_wp2_with (first | (at_builtin; refine wpList_append_own_at _ rfl (.tmp 77) (.tmp 79) 23 rfl w1.heap.size 9 j0 _ 1 16 Tryd.underlying23 hj0 hy0 hy1 hy2 rfl (by decide) (.slice p6 m6 c6) m6 (want.flatMap fun t : B => [.string (str t)]) (by go_simp) (by have h8 := HO8.out.alloc (.cells #[.string ⟨#[118]⟩] 9 (0, 0)); unfold OwnR at h8; rw [HL6.out] at h8; exact h8) ⟨wr.heap.size, 0, none⟩ 1 1 [.string ⟨#[118]⟩] (by go_simp) rfl (cells_new wr _ _) (by simp [Value.oneCell']) (by unfold maxLen; omega) (by omega) (by have h1 := HB8.out.size; simp; omega) ?_; intro v6 wt hown hgr _ _; obtain ⟨p7, L7, c7, rfl⟩ := own_slice3 hown; have HT7 := hid (show OwnR 9 1 (fun t : B => [.string (str t)]) wt w1.heap.size (.slice p7 L7 c7) (want ++ [valT vals m6]) from OwnR.put HL6.out (by rw [HVV.out]; exact hown)); have HBt := hid (show Below w1.heap.size w1 wt from (HB8.out.trans ((below_new wr _).mono HB8.out.size)).trans ((HO8.out.alloc _).below (by have h1 := HB8.out.size; simp; omega) hgr)); obtain ⟨hL7, _⟩ : L7 = m6 + 1 ∧ True := ⟨row_len hown, trivial⟩; subst hL7; clear hown hgr))
                go_roundg (n + 1 - (i + 1) + 1)
                case measure => omega
                case rel => exact ⟨i + 1, i + 1, m6 + 1, c7, acc ++ [x], p7, by omega, by omega, by omega, rfl, by push_cast; go_num, by push_cast; go_num, congrArg Value.string HApp.out, rfl, by rw [HWn.out, List.length_append, HL6.out]; rfl, by rw [HWn.out]; exact HT7.out, HLen.out, HNx.out, HBt.out⟩
            · have hbx : ∀ h : 0 < SX.size, (SX[0]'h).toNat = 42 := fun h => by rw [HBx.out 0 (by rw [hcx]; simp) h]; simp only [hcx, List.getElem_cons_zero, hcc]; rfl
              clear hx hSX hSPT hPT hxl hk0 hpl hvlm HBx hSPn hcx hcc hVV
              rcases hgo with hgo | hgo
              · subst hgo
                have hdn : decide ((i : Int) < (i : Int)) = false := decide_eq_false (by omega)
                go_wp2_with (first | (at_builtin; refine wpList_append_own_at _ rfl (.tmp 77) (.tmp 79) 23 rfl w1.heap.size 9 j0 _ 1 16 Tryd.underlying23 hj0 hy0 hy1 hy2 rfl (by decide) (.slice p6 m6 c6) m6 (want.flatMap fun t : B => [.string (str t)]) (by go_simp) (by have h8 := HO8.out.alloc (.cells #[.string ⟨#[118]⟩] 9 (0, 0)); unfold OwnR at h8; rw [HL6.out] at h8; exact h8) ⟨wr.heap.size, 0, none⟩ 1 1 [.string ⟨#[118]⟩] (by go_simp) rfl (cells_new wr _ _) (by simp [Value.oneCell']) (by unfold maxLen; omega) (by omega) (by have h1 := HB8.out.size; simp; omega) ?_; intro v6 wt hown hgr _ _; obtain ⟨p7, L7, c7, rfl⟩ := own_slice3 hown; have HT7 := hid (show OwnR 9 1 (fun t : B => [.string (str t)]) wt w1.heap.size (.slice p7 L7 c7) (want ++ [valT vals m6]) from OwnR.put HL6.out (by rw [HVV.out]; exact hown)); have HBt := hid (show Below w1.heap.size w1 wt from (HB8.out.trans ((below_new wr _).mono HB8.out.size)).trans ((HO8.out.alloc _).below (by have h1 := HB8.out.size; simp; omega) hgr)); obtain ⟨hL7, _⟩ : L7 = m6 + 1 ∧ True := ⟨row_len hown, trivial⟩; subst hL7; clear hown hgr))
                go_roundg (i + 1 - (i + 1) + 1)
                case measure => omega
                case rel => exact ⟨i + 1, i + 1, m6 + 1, c7, acc ++ [x], p7, by omega, by omega, by omega, rfl, by push_cast; go_num, by push_cast; go_num, congrArg Value.string HApp.out, rfl, by rw [HWn.out, List.length_append, HL6.out]; rfl, by rw [HWn.out]; exact HT7.out, HLen.out, (HNx.out.elim .inl (fun h => .inr ⟨rfl, h.2⟩)), HBt.out⟩
              · obtain ⟨h5, h6⟩ := List.getElem?_eq_some_iff.1 hgo
                have hltn : i < n := by rw [← HN.out]; exact h5
                have hdn : decide ((i : Int) < (n : Int)) = true := decide_eq_true (by omega)
                have hbyte : ∀ h : i < S.size, (S[i]'h).toNat = 47 := fun h => by rw [HByte.out i h5 h, h6]; rfl
                clear h5 h6 hgo
                go_wp2_with (first | (at_builtin; refine wpList_append_own_at _ rfl (.tmp 77) (.tmp 79) 23 rfl w1.heap.size 9 j0 _ 1 16 Tryd.underlying23 hj0 hy0 hy1 hy2 rfl (by decide) (.slice p6 m6 c6) m6 (want.flatMap fun t : B => [.string (str t)]) (by go_simp) (by have h8 := HO8.out.alloc (.cells #[.string ⟨#[118]⟩] 9 (0, 0)); unfold OwnR at h8; rw [HL6.out] at h8; exact h8) ⟨wr.heap.size, 0, none⟩ 1 1 [.string ⟨#[118]⟩] (by go_simp) rfl (cells_new wr _ _) (by simp [Value.oneCell']) (by unfold maxLen; omega) (by omega) (by have h1 := HB8.out.size; simp; omega) ?_; intro v6 wt hown hgr _ _; obtain ⟨p7, L7, c7, rfl⟩ := own_slice3 hown; have HT7 := hid (show OwnR 9 1 (fun t : B => [.string (str t)]) wt w1.heap.size (.slice p7 L7 c7) (want ++ [valT vals m6]) from OwnR.put HL6.out (by rw [HVV.out]; exact hown)); have HBt := hid (show Below w1.heap.size w1 wt from (HB8.out.trans ((below_new wr _).mono HB8.out.size)).trans ((HO8.out.alloc _).below (by have h1 := HB8.out.size; simp; omega) hgr)); obtain ⟨hL7, _⟩ : L7 = m6 + 1 ∧ True := ⟨row_len hown, trivial⟩; subst hL7; clear hown hgr))
                go_roundg (n + 1 - (i + 1) + 1)
                case measure => omega
                case rel => exact ⟨i + 1, i + 1, m6 + 1, c7, acc ++ [x], p7, by omega, by omega, by omega, rfl, by push_cast; go_num, by push_cast; go_num, congrArg Value.string HApp.out, rfl, by rw [HWn.out, List.length_append, HL6.out]; rfl, by rw [HWn.out]; exact HT7.out, HLen.out, HNx.out, HBt.out⟩
      · have hltn : i < n := by
          by_cases h : i = n
          · exact absurd (.inl h) hgo
          · omega
        have h5 : i < p.length := by rw [HN.out]; exact hltn
        obtain ⟨y, hy⟩ : ∃ y, p[i] = y := ⟨_, rfl⟩
        have hy47 : ¬ y = 47 := fun e => hgo (.inr (by rw [List.getElem?_eq_getElem h5, hy, e]))
        obtain ⟨Y, hY⟩ : ∃ Y : Nat, y.toNat = Y := ⟨_, rfl⟩
        have hY256 : Y < 256 := by rw [← hY]; exact y.toNat_lt
        have hbyte : ∀ h : i < S.size, (S[i]'h).toNat = Y := fun h => by rw [HByte.out i h5 h, hy, hY]
        have z1 : ¬ (Y : Int) = 47 := fun e => hy47 (UInt8.toNat_inj.1 (by rw [hY]; show Y = 47; omega))
        have z2 : ((Y : Int) == 47) = false := by simpa using z1
        have z3 : ((Y : Int) != 47) = true := by simpa using z1
        have hdn : decide ((i : Int) < (n : Int)) = true := decide_eq_true (by omega)
        have HNy := hid (show ∀ y ∈ (p.drop f).take (i + 1 - f), y ≠ 47 from fun z hz => by
          rw [show i + 1 - f = i - f + 1 by omega, List.take_add_one, List.getElem?_drop, show f + (i - f) = i by omega, List.getElem?_eq_getElem h5, hy] at hz
          rcases List.mem_append.1 hz with hz | hz
          · exact HNo.out z hz
          · simp at hz
            rw [hz]
            exact hy47)
        obtain ⟨SPT, hSPT⟩ : ∃ q, str (pathT (valT vals) acc) = q := ⟨_, rfl⟩
        have HSPT := hid hSPT
        rw [hSPT]
        clear hgo hy hY hy47 h5 hexf hSPT hPT hpl
        go_wp2
        go_roundg (n + 1 - (i + 1) + 1)
        case measure => omega
        case rel => exact ⟨i + 1, f, m6, c6, acc, p6, by omega, by omega, by omega, rfl, by push_cast; go_num, rfl, by rw [HSPT.out], rfl, by rw [HWa.out]; exact HL6.out, by rw [HWa.out]; exact HO6.out, HPl6.out, .inl ⟨by omega, hf1, HNy.out, HRX.out⟩, HB.out⟩
    · obtain rfl : i = n + 1 := by omega
      have hXa : X = acc := hR.elim (fun h => absurd h.1 (by omega)) (fun h => h.2)
      subst hXa
      have hpb : (pathT (valT vals) X).length ≤ 4294967280 := by omega
      have HFp2 := hid (HFp.out hpb)
      rw [HWa.out] at HF2
      obtain ⟨L, hL⟩ : ∃ L, F.length = L := ⟨_, rfl⟩
      have hLm : L = m6 := by rw [← hL, ← HL6.out, ← HF2.out, List.length_map]
      subst hLm
      have HFp3 := hid (fun (W : World) (h : MxAt W) => (HFp2.out W h).mono (R' := fun e w' => Below W.heap.size W w' ∧ ∃ q d, e = .returned (.tuple #[.bool true, .slice q L d, .nilIface]) ∧ FAt w' q F) (by rintro e w' ⟨h1, q, d, h3, h4⟩; rw [hL] at h3 h4; exact ⟨h1, q, d, h3, h4.fat⟩))
      obtain ⟨SPT, hSPT⟩ : ∃ q, str (pathT (valT vals) X) = q := ⟨_, rfl⟩
      rw [hSPT] at HFp3 ⊢
      have HLF := hid hL
      clear hSPT hR hL hwant HFp HFp2 hpl
      have hLb : L ≤ 64 := by rw [← HLF.out]; exact hFl
      have HMr := hid (HM1.out.next HB.out)
      go_wp2_with (go_at_call 20; (with_reducible refine (HFp3.out _ HMr.out).mono ?_); rintro e w5 ⟨hb5, q5, d5, rfl, hf5⟩; have HF5 := hid hf5; have HB5 := hid (HB.out.trans (hb5.mono HB.out.size)); have HM5 := hid (HMr.out.next hb5); have HO5 := hid ((ownR_S (HO6.out.keep hb5)).tx); clear hb5 hf5)
      go_loopg [14] (L + 1) (fun gk s14 wv => ∃ i : Nat, s14 = .int .i64 (i : Int) ∧ i ≤ L ∧ gk = L - i + 1 ∧ Below w5.heap.size w5 wv)
      case atStart => exact ⟨0, rfl, by omega, rfl, Below.refl _ _⟩
      case round =>
        obtain ⟨i, rfl, hin2, rfl, hb⟩ := hrel
        rename World => wv
        have HB6 := hid hb
        clear hb
        by_cases hlt : i < L
        · obtain ⟨fd, hfd⟩ : ∃ fd, F[i]? = some fd := ⟨_, List.getElem?_eq_getElem (by rw [HLF.out]; exact hlt)⟩
          have hwi : want[i]? = some fd.2 := by rw [← HF2.out, List.getElem?_map, hfd]; rfl
          obtain ⟨g, o, rfl, c0, c1⟩ := (HF5.out.next HB6.out) i fd hfd
          obtain ⟨g', o', rfl, d0⟩ := (HO5.out.next HB6.out) i fd.2 hwi
          obtain ⟨N1, hN1⟩ : ∃ N, str fd.1 = N := ⟨_, rfl⟩
          obtain ⟨N2, hN2⟩ : ∃ N, str fd.2 = N := ⟨_, rfl⟩
          rw [hN1] at c0
          rw [hN2] at c1 d0
          clear hfd hwi hN1 hN2
          go_wp2
          go_quiet (fail)
          go_wp2
          go_roundg (L - (i + 1) + 1)
          case measure => omega
          case rel => exact ⟨i + 1, by push_cast; go_num, by omega, rfl, HB6.out.trans ((below_drewT _ _).mono HB6.out.size)⟩
        · obtain rfl : i = L := by omega
          have HM6 := hid (HM5.out.next HB6.out)
          go_wp2_with (go_at_call 19; (with_reducible refine (HSu.out _ HM6.out).mono ?_); rintro e w7 ⟨rfl, hb7⟩; have HB7 := hid hb7; clear hb7)
          go_ret
          exact ⟨rfl, below_out HB1.out ((HB5.out.trans (HB6.out.mono HB5.out.size)).trans (HB7.out.mono (Nat.le_trans HB5.out.size HB6.out.size)))⟩
end Go.Proofs.YtdjjkcpnjocafaaDoor
