/- Authorities split, by the program. -/
import Derived.Test.YtkjgdfihhhdjaaaDoorSPFit
import Derived.Test.YtkjgdfihhhdjaaaDoorSSplit
namespace Go.Proofs.YtkjgdfihhhdjaaaDoor
open Go.RowKit

theorem numL_ge (most : Int) : ∀ (r : List UInt8) (n m : Int), 0 ≤ n → numL 10 most r n = some m → n ≤ m
  | [], n, m, _, h => by
    have := Option.some.inj h
    omega
  | b :: r, n, m, h0, h => by
    unfold numL at h
    split at h
    · cases h
    · have hv := hexV_bd (b.toNat : Int)
      have := numL_ge most r _ m (by omega) h
      omega
theorem num_pos {d : B} (h0 : d[0]? ≠ some 48) (he : numE 10 65535 (str d) = 0) : ¬ numN 10 65535 (str d) < 1 := by
  have hp := num_ne (by decide) he
  unfold numE at he
  unfold numN
  rw [if_neg (by decide)] at he ⊢
  by_cases hd : digAll 10 (str d) = false
  · rw [if_pos hd] at he; cases he
  · rw [if_neg hd] at he ⊢
    cases d with
    | nil => exact absurd hp (by decide)
    | cons c r =>
      cases hl : numL 10 65535 (str (c :: r)).data.toList 0 with
      | none => rw [hl] at he; cases he
      | some m =>
        have hl2 : numL 10 65535 (c :: r) 0 = some m := by simpa using hl
        unfold numL at hl2
        split at hl2
        · cases hl2
        · have hv := hexV_bd (c.toNat : Int)
          have hg := numL_ge 65535 r _ m (by omega) hl2
          have hc : okDg 10 (c.toNat : Int) = true := by
            have h1 : digAll 10 (str (c :: r)) = true := by simpa using hd
            unfold digAll digTo at h1
            rw [Bool.and_eq_true] at h1
            exact List.all_eq_true.1 h1.2 c (by rw [str_size, List.length_cons]; simp)
          have hc48 : ¬ c.toNat = 48 := fun e => h0 (by simp; apply UInt8.toNat_inj.1; exact e)
          unfold okDg hexB at hc
          rw [Bool.and_eq_true, decide_eq_true_eq, decide_eq_true_eq] at hc
          have h2 : 1 ≤ hexV (c.toNat : Int) := by
            have h3 := hc.2
            unfold hexV at h3 ⊢
            split at h3 <;> rename_i h4
            · rw [if_pos h4]; omega
            · split at h3 <;> rename_i h5
              · omega
              · split at h3
                · omega
                · rename_i h6
                  rcases hc.1 with h7 | h7 | h7
                  · exact absurd h7 h4
                  · exact absurd h7 h5
                  · exact absurd h7 h6
          show ¬ m < 1
          omega
def portN (d : B) : Int × Nat := if numE 10 65535 (str d) ≠ 0 ∨ numN 10 65535 (str d) < 1 ∨ d[0]? = some 48 then (0, 3) else (numN 10 65535 (str d), 0)
theorem pre_zero (d : B) : Lib.hasPrefix d [48] = decide (d[0]? = some 48) := by
  cases d with
  | nil => rfl
  | cons c r =>
    unfold Lib.hasPrefix
    simp [List.isPrefixOf]
    rw [Bool.eq_iff_iff]
    simp
    exact ⟨fun h => h.symm, fun h => h.symm⟩
set_option maxRecDepth 20000 in
set_option maxHeartbeats 4000000 in
theorem portOf_any (d : B) (hd : d.length ≤ 9223372036854775807) (w : World) : Calls Tryd.prog 34 #[.string (str d)] w fun e w' => e = .returned (.tuple #[.int .i64 (portN d).1, errOf (portN d).2]) ∧ w' = w := by
  have HP := hid (fun W : World => Tryd.strings_HasPrefix (str d) ⟨#[48]⟩ W)
  rw [show (str d).data.toList = d by simp, show (⟨#[48]⟩ : ByteArray).data.toList = [48] from rfl, pre_zero] at HP
  have HD := hid (fun W : World => decimal_any (str d) 65535 W (by rw [str_size]; unfold maxLen; omega) (by omega) (by omega))
  have hE := num_pos (d := d)
  unfold portN
  obtain ⟨E, hEE⟩ : ∃ E, numE 10 65535 (str d) = E := ⟨_, rfl⟩
  obtain ⟨V, hV⟩ : ∃ V, numN 10 65535 (str d) = V := ⟨_, rfl⟩
  obtain ⟨S, hS⟩ : ∃ S, str d = S := ⟨_, rfl⟩
  rw [hEE, hV] at HD hE
  rw [hEE, hV]
  rw [hS] at HP HD ⊢
  clear hEE hV hS
  by_cases h48 : d[0]? = some 48
  · rw [decide_eq_true h48] at HP
    rw [if_pos (.inr (.inr h48))]
    dsimp only
    rw [show errOf 3 = err3 from rfl]
    clear h48 hE
    go_enter Tryd.func34, Tryd.ntmps34
    go_wp2_with (go_at_call 49; (with_reducible refine (HP.out _).mono ?_); rintro e w1 ⟨rfl, rfl⟩)
    go_ret2
    exact ⟨rfl, rfl⟩
  · rw [decide_eq_false h48] at HP
    by_cases h0 : E = 0
    · have h1 := hE h48 h0
      rw [if_neg (fun h => h.elim (fun h => h h0) (fun h => h.elim h1 h48))]
      rw [h0, show errV 0 = .nilIface from rfl] at HD
      dsimp only
      rw [errOf_zero]
      clear h48 hE h0 h1
      go_enter Tryd.func34, Tryd.ntmps34
      go_wp2_with (first | (go_at_call 49; (with_reducible refine (HP.out _).mono ?_); rintro e w1 ⟨rfl, rfl⟩) | (go_at_call 50; (with_reducible refine (HD.out _).mono ?_); rintro e w1 ⟨rfl, rfl⟩))
      go_ret2
      exact ⟨rfl, rfl⟩
    · rw [if_pos (.inl h0)]
      rw [show errV E = .iface 72 (.int .i64 E) from if_neg h0] at HD
      dsimp only
      rw [show errOf 3 = err3 from rfl]
      clear h48 hE h0
      go_enter Tryd.func34, Tryd.ntmps34
      go_wp2_with (first | (go_at_call 49; (with_reducible refine (HP.out _).mono ?_); rintro e w1 ⟨rfl, rfl⟩) | (go_at_call 50; (with_reducible refine (HD.out _).mono ?_); rintro e w1 ⟨rfl, rfl⟩))
      go_ret2
      exact ⟨rfl, rfl⟩
/-- What Split answers: the host, the port, the number of an error. -/
def splitN (s : B) : B × Int × Nat := match labsH false (s.take (colonH s)) with
  | none => ([], 0, 3)
  | some _ => if colonH s = s.length then (lowH (s.take (colonH s)), 0, 0) else if (portN (s.drop (colonH s + 1))).2 = 0 then (lowH (s.take (colonH s)), (portN (s.drop (colonH s + 1))).1, 0) else ([], 0, 3)
theorem splitAt_N (s : B) : splitAt s (colonH s) = .tuple #[.string (str (splitN s).1), .int .i64 (splitN s).2.1, .int .i64 ((splitN s).2.2 : Int)] := by
  unfold splitAt splitN
  cases labsH false (s.take (colonH s)) with
  | none => rfl
  | some x =>
    dsimp only
    by_cases h : colonH s = s.length
    · rw [if_pos h, if_pos h]; rfl
    · rw [if_neg h, if_neg h]
      unfold portN
      have e : (s.drop (colonH s + 1))[0]? = s[colonH s + 1]? := by rw [List.getElem?_drop]; first | done | rfl
      rw [e]
      split
      · rw [if_neg (by decide)]; rfl
      · rw [if_pos rfl]; rfl
theorem cut_colon (s : B) : (cutF 58 s).1 = s.take (colonH s) ∧ ((cutF 58 s).2.2 = false ↔ colonH s = s.length) ∧ ((cutF 58 s).2.2 = true → (cutF 58 s).2.1 = s.drop (colonH s + 1)) := by
  obtain ⟨h1, h2, h3⟩ := cutF_spec 58 s
  obtain ⟨c1, hc1⟩ : ∃ c, (cutF 58 s).1 = c := ⟨_, rfl⟩
  obtain ⟨c2, hc2⟩ : ∃ c, (cutF 58 s).2.1 = c := ⟨_, rfl⟩
  rw [hc1] at h1 h2 ⊢
  rw [hc2] at h2 h3 ⊢
  cases hf : (cutF 58 s).2.2 with
  | false =>
    rw [hf, if_neg (by decide), List.append_nil] at h2
    have hk : colonH s = s.length := colon_end s (by rw [h2]; exact h1)
    exact ⟨by rw [hk, List.take_length]; exact h2.symm, ⟨fun _ => hk, fun _ => rfl⟩, fun h => by cases h⟩
  | true =>
    rw [hf, if_pos rfl] at h2
    have hk : colonH s = c1.length := colon_at s c1.length (by rw [h2]; intro y hy; rw [List.take_left'  rfl] at hy; exact h1 y hy) (by rw [h2]; simp)
    refine ⟨?_, ⟨fun h => Bool.noConfusion h, fun h => ?_⟩, fun _ => ?_⟩
    · rw [hk]
      conv => rhs; rw [h2]
      rw [List.take_left' rfl]
    · have := congrArg List.length h2
      rw [List.length_append, List.length_cons] at this
      omega
    · rw [hk]
      conv => rhs; rw [h2]
      rw [show c1 ++ 58 :: c2 = (c1 ++ [58]) ++ c2 by simp, List.drop_left' (by simp)]
set_option maxRecDepth 20000 in
set_option maxHeartbeats 4000000 in
theorem psplit_any (s : B) (hs : s.length ≤ 9223372036854775807) (w : World) (hmx : MxAt w) : Calls Tryd.prog 10 #[.string (str s)] w fun e w' => e = .returned (.tuple #[.string (str (splitN s).1), .int .i64 (splitN s).2.1, errOf (splitN s).2.2]) ∧ Below w.heap.size w w' := by
  obtain ⟨hc1, hc2, hc3⟩ := cut_colon s
  have HC := hid (pcutH s (by omega) w hmx)
  have HCa := hid (fun (W : World) (h : MxAt W) => pcanon_any (s.take (colonH s)) (by rw [List.length_take]; omega) W h)
  have HPo := hid (fun W : World => portOf_any (s.drop (colonH s + 1)) (by rw [List.length_drop]; omega) W)
  have HM := hid (show ∀ q, MxAt (w.drewN q) from fun q => hmx.next (below_drewH w q))
  rw [hc1] at HC
  unfold splitN
  obtain ⟨S, hS⟩ : ∃ S, str s = S := ⟨_, rfl⟩
  obtain ⟨C1, hC1⟩ : ∃ S, str (s.take (colonH s)) = S := ⟨_, rfl⟩
  rw [hS, hC1] at HC
  rw [hC1] at HCa
  rw [hS]
  cases hf : (cutF 58 s).2.2 with
  | false =>
    have hk := hc2.1 hf
    rw [hf] at HC
    obtain ⟨C2, hC2⟩ : ∃ S, str (cutF 58 s).2.1 = S := ⟨_, rfl⟩
    rw [hC2] at HC
    rw [if_pos hk]
    obtain ⟨SL, hSL⟩ : ∃ S, str (lowH (s.take (colonH s))) = S := ⟨_, rfl⟩
    rw [hSL] at HCa
    cases hl : labsH false (s.take (colonH s)) with
    | none =>
      rw [hl] at HCa
      dsimp only at HCa ⊢
      rw [show errOf 3 = err3 from rfl]
      clear hc1 hc2 hc3 HPo hS hC1 hC2 hf hk hl hSL hmx hs
      go_enter Tryd.func10, Tryd.ntmps10
      go_wp2_with (first | (go_at_call 33; (with_reducible refine HC.out.mono ?_); rintro e w1 ⟨rfl, q, rfl⟩) | (go_at_call 8; (with_reducible refine (HCa.out _ (HM.out _)).mono ?_); rintro e w2 ⟨rfl, hb⟩; have HB := hid (below_out (below_drewH w _) hb); clear hb))
      go_ret3
      exact ⟨rfl, HB.out⟩
    | some x =>
      rw [hl] at HCa
      dsimp only at HCa ⊢
      rw [errOf_zero, hSL]
      clear hc1 hc2 hc3 HPo hS hC1 hC2 hf hk hl hSL hmx hs
      go_enter Tryd.func10, Tryd.ntmps10
      go_wp2_with (first | (go_at_call 33; (with_reducible refine HC.out.mono ?_); rintro e w1 ⟨rfl, q, rfl⟩) | (go_at_call 8; (with_reducible refine (HCa.out _ (HM.out _)).mono ?_); rintro e w2 ⟨rfl, hb⟩; have HB := hid (below_out (below_drewH w _) hb); clear hb))
      go_ret3
      exact ⟨rfl, HB.out⟩
  | true =>
    have hk : ¬ colonH s = s.length := fun h => by rw [hc2.2 h] at hf; cases hf
    rw [hf, hc3 hf] at HC
    obtain ⟨C2, hC2⟩ : ∃ S, str (s.drop (colonH s + 1)) = S := ⟨_, rfl⟩
    rw [hC2] at HC HPo
    rw [if_neg hk]
    obtain ⟨SL, hSL⟩ : ∃ S, str (lowH (s.take (colonH s))) = S := ⟨_, rfl⟩
    rw [hSL] at HCa
    cases hl : labsH false (s.take (colonH s)) with
    | none =>
      rw [hl] at HCa
      dsimp only at HCa ⊢
      rw [show errOf 3 = err3 from rfl]
      clear hc1 hc2 hc3 HPo hS hC1 hC2 hf hk hl hSL hmx hs
      go_enter Tryd.func10, Tryd.ntmps10
      go_wp2_with (first | (go_at_call 33; (with_reducible refine HC.out.mono ?_); rintro e w1 ⟨rfl, q, rfl⟩) | (go_at_call 8; (with_reducible refine (HCa.out _ (HM.out _)).mono ?_); rintro e w2 ⟨rfl, hb⟩; have HB := hid (below_out (below_drewH w _) hb); clear hb))
      go_ret3
      exact ⟨rfl, HB.out⟩
    | some x =>
      rw [hl] at HCa
      dsimp only at HCa ⊢
      obtain ⟨V, E, hVE⟩ : ∃ V E, portN (s.drop (colonH s + 1)) = (V, E) := ⟨_, _, rfl⟩
      rw [hVE] at HPo ⊢
      dsimp only at HPo ⊢
      by_cases h0 : E = 0
      · rw [if_pos h0]
        rw [h0, errOf_zero] at HPo
        dsimp only
        rw [errOf_zero, hSL]
        clear hc1 hc2 hc3 hS hC1 hC2 hf hk hl hSL hmx hs hVE h0
        go_enter Tryd.func10, Tryd.ntmps10
        go_wp2_with (first | (go_at_call 33; (with_reducible refine HC.out.mono ?_); rintro e w1 ⟨rfl, q, rfl⟩) | (go_at_call 8; (with_reducible refine (HCa.out _ (HM.out _)).mono ?_); rintro e w2 ⟨rfl, hb⟩; have HB := hid (below_out (below_drewH w _) hb); clear hb) | (go_at_call 34; (with_reducible refine (HPo.out _).mono ?_); rintro e w3 ⟨rfl, rfl⟩))
        go_ret3
        exact ⟨rfl, HB.out⟩
      · rw [if_neg h0]
        rw [errOf_pos h0] at HPo
        dsimp only
        rw [show errOf 3 = err3 from rfl]
        have h3 : E = 3 := by
          unfold portN at hVE
          split at hVE
          · injection hVE with _ h; exact h.symm
          · injection hVE with _ h; exact absurd h.symm h0
        subst h3
        clear hc1 hc2 hc3 hS hC1 hC2 hf hk hl hSL hmx hs hVE h0
        go_enter Tryd.func10, Tryd.ntmps10
        go_wp2_with (first | (go_at_call 33; (with_reducible refine HC.out.mono ?_); rintro e w1 ⟨rfl, q, rfl⟩) | (go_at_call 8; (with_reducible refine (HCa.out _ (HM.out _)).mono ?_); rintro e w2 ⟨rfl, hb⟩; have HB := hid (below_out (below_drewH w _) hb); clear hb) | (go_at_call 34; (with_reducible refine (HPo.out _).mono ?_); rintro e w3 ⟨rfl, rfl⟩))
        go_ret3
        exact ⟨rfl, HB.out⟩
end Go.Proofs.YtkjgdfihhhdjaaaDoor
