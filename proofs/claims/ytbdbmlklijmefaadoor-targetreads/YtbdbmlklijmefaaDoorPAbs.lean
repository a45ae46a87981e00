/- The program's targets with a host. -/
import Derived.Test.YtbdbmlklijmefaaDoorPForm
namespace Go.Proofs.YtbdbmlklijmefaaDoor
open Go.RowKit

theorem QW.set {w W : World} (h : QW w W) {g : Nat} (hg : w.heap.size < g) (j : Nat) (v : Value) : QW w (W.setCell ⟨g, j, none⟩ v) :=
  ⟨by rw [Below.heap_setCell _ _ _ _ (show w.heap.size ≠ g by omega)]; exact h.o, h.low.setCell (show w.heap.size ≤ g by omega) _⟩
theorem QW.next {w W : World} (h : QW w W) (o : Obj) : QW w (W.alloc o) := h.below (below_new W o)
theorem QW.lt {w W : World} (h : QW w W) : w.heap.size < W.heap.size := lt_of_heap h.o
theorem http_small : smallB httpB = httpB := by decide
theorem take_ext (s : B) (k : Nat) : (str s).extract 0 k = str (s.take k) := by rw [ext_str]; simp
theorem str_app (a b : B) : str a ++ str b = str (a ++ b) := by
  apply ByteArray.ext
  simp [ByteArray.data_append]
set_option maxRecDepth 20000 in
set_option maxHeartbeats 8000000 in
theorem pabs_any (s : B) (hs : s.length ≤ 4294967279) (w : World) (hE : Env w) : Calls Tryd.prog 29 #[.string (str s)] w fun e w' => e = .returned (.tuple #[tgV ((absoluteT s).getD TG.zero), .bool (absoluteT s).isSome]) ∧ Below w.heap.size w w' := by
  have HT0 := hid (QW.start w)
  have HE := hid hE
  obtain ⟨_, _, _, _, _, nz⟩ := five (QW.start w).o
  have nz0 := nz 0
  have nz1 := nz 1
  have nz2 := nz 2
  have nz3 := nz 3
  have nz4 := nz 4
  clear nz hE
  obtain ⟨n, hn⟩ : ∃ n, s.length = n := ⟨_, rfl⟩
  obtain ⟨S, hS⟩ : ∃ S, str s = S := ⟨_, rfl⟩
  have hSn : S.size = n := by rw [← hS, str_size, hn]
  by_cases h7 : n < 7
  · have HV := hid (show absoluteT s = none from by unfold absoluteT; rw [if_pos (.inl (by omega))])
    rw [HV.out, hS]
    have h7i : (n : Int) < 7 := by omega
    rw [hn] at hs
    clear hn hS
    go_enter Tryd.func29, Tryd.ntmps29
    go_wp2
    (try simp only [Exit.inBlock, Exit.then])
    refine bodyPost_ret (results_ptg rfl _ _ _ 23 _ (0, 0) rfl (heap_alloc_new w _) rfl) rfl ?_
    exact ⟨rfl, below_new _ _⟩
  · have h7i : ¬ (n : Int) < 7 := by omega
    have hx7 : S.extract 0 7 = str (s.take 7) := by rw [← hS, take_ext]
    have hxd : S.extract 7 n = str (s.drop 7) := by rw [← hS, ext_drop s 7 n hn]
    have HSm := hid (psame_any (s.take 7) httpB (by rw [List.length_take]; omega) (by decide))
    rw [http_small, show str httpB = (⟨#[104, 116, 116, 112, 58, 47, 47]⟩ : ByteArray) from rfl] at HSm
    have hdl : (s.drop 7).length ≤ 4294967272 := by rw [List.length_drop]; omega
    obtain ⟨l, hl⟩ : ∃ l, s.drop 7 = l := ⟨_, rfl⟩
    rw [hl] at hdl hxd
    have HCh := hid (cuthost_any l (by omega))
    have hAb : absoluteT s = if s.length < 7 ∨ smallB (s.take 7) ≠ httpB then none else if isHostB (l.takeWhile stopC) = false then none else (originT (rooted (l.dropWhile stopC))).map fun t => ⟨2, smallB (l.takeWhile stopC), t.path, t.query, t.has⟩ := by unfold absoluteT; rw [hl]
    have htw := tw_le stopC l
    have hdw : (l.dropWhile stopC).length ≤ l.length := by rw [(tw_take stopC l).2, List.length_drop]; omega
    obtain ⟨Hh, hHh⟩ : ∃ Hh, l.takeWhile stopC = Hh := ⟨_, rfl⟩
    obtain ⟨Rr, hRr⟩ : ∃ Rr, l.dropWhile stopC = Rr := ⟨_, rfl⟩
    rw [hHh] at HCh hAb htw
    rw [hRr] at HCh hAb hdw
    obtain ⟨S7, hS7⟩ : ∃ S7, str (s.take 7) = S7 := ⟨_, rfl⟩
    obtain ⟨SD, hSD⟩ : ∃ SD, str l = SD := ⟨_, rfl⟩
    rw [hS7] at hx7 HSm
    rw [hSD] at hxd HCh
    rw [hS]
    by_cases hsm : smallB (s.take 7) = httpB
    · rw [decide_eq_true hsm] at HSm
      rw [if_neg (by rintro (q | q); exact h7 (by omega); exact q hsm)] at hAb
      have HIh := hid (ishost_any Hh (by omega))
      cases hih : isHostB Hh with
      | false =>
        have HV := hid (show absoluteT s = none from by rw [hAb, if_pos hih])
        rw [HV.out]
        rw [hih] at HIh
        obtain ⟨SH, hSH⟩ : ∃ SH, str Hh = SH := ⟨_, rfl⟩
        obtain ⟨SR, hSR⟩ : ∃ SR, str Rr = SR := ⟨_, rfl⟩
        rw [hSH] at HCh HIh
        rw [hSR] at HCh
        rw [hn] at hs
        clear hn hS hS7 hSD hHh hRr hl hAb hsm hih hSH hSR hdl htw hdw
        go_enter Tryd.func29, Tryd.ntmps29
        go_wp2_with (first | (go_at_call 55; (with_reducible refine (HSm.out _).mono ?_); rintro e w1 ⟨rfl, q1, hw1⟩; have HT1 := hid (show QW w w1 from by rw [hw1]; exact HT0.out.below (below_drew (Below.refl _ _) q1)); clear hw1) | (go_at_call 56; (with_reducible refine (HCh.out _).mono ?_); rintro e w2 ⟨rfl, hb⟩; have HT2 := hid (HT1.out.below hb); clear hb; obtain ⟨_, _, _, _, _, oz⟩ := five HT2.out.o; have oz0 := oz 0; have oz1 := oz 1; have oz2 := oz 2; have oz3 := oz 3; have oz4 := oz 4; clear oz) | (go_at_call 57; (with_reducible refine (HIh.out _).mono ?_); rintro e w3 ⟨rfl, hw3⟩; subst w3))
        (try simp only [Exit.inBlock, Exit.then])
        refine bodyPost_ret (results_ptg rfl _ _ _ 23 _ (0, 0) rfl (five_put (has_five HT2.out.o) _ _ _ _ _) rfl) rfl ?_
        exact ⟨rfl, HT2.out.out _ _ _ _ _⟩
      | true =>
        rw [hih] at HIh
        rw [if_neg (by rw [hih]; simp)] at hAb
        have hrl : (rooted Rr).length ≤ 4294967280 := by
          unfold rooted
          split
          · omega
          · rw [List.length_cons]; omega
        have HPx := hid (pprefix_any Rr)
        have HOr := hid (porigin_any (rooted Rr) hrl)
        have HLo := hid (plower_any Hh (by omega))
        have HRt := hid (show (if decide (Rr.head? = some 47) = true then str Rr else (⟨#[47]⟩ : ByteArray) ++ str Rr) = str (rooted Rr) from by
          unfold rooted
          by_cases h : Rr.head? = some 47
          · rw [if_pos (decide_eq_true h), if_pos h]
          · rw [if_neg (by rw [decide_eq_false h]; simp), if_neg h]
            exact str_app [47] Rr)
        obtain ⟨O, hO⟩ : ∃ O, originT (rooted Rr) = O := ⟨_, rfl⟩
        rw [hO] at HOr hAb
        obtain ⟨SH, hSH⟩ : ∃ SH, str Hh = SH := ⟨_, rfl⟩
        obtain ⟨SR, hSR⟩ : ∃ SR, str Rr = SR := ⟨_, rfl⟩
        obtain ⟨SO, hSO⟩ : ∃ SO, str (rooted Rr) = SO := ⟨_, rfl⟩
        obtain ⟨SL, hSL⟩ : ∃ SL, str (smallB Hh) = SL := ⟨_, rfl⟩
        rw [hSH] at HCh HIh HLo
        rw [hSR] at HCh HPx HRt
        rw [hSO] at HOr HRt
        rw [hSL] at HLo
        rw [hn] at hs
        have HAb := hid hAb
        have HSL := hid hSL
        have hbig : ¬ 9223372036854775807 < 1 + SR.size := by rw [← hSR, str_size]; omega
        obtain ⟨pf, hpf⟩ : ∃ pf, decide (Rr.head? = some 47) = pf := ⟨_, rfl⟩
        rw [hpf] at HPx HRt
        clear hn hS hS7 hSD hHh hRr hl hsm hih hSH hSR hdl htw hdw hrl hO hSO hSL hpf hAb
        have HQ1 := hid (show ∀ w1 q1, w1 = (w.alloc Z5).drewN q1 → QW w w1 from fun w1 q1 e => by rw [e]; exact HT0.out.below (below_drew (Below.refl _ _) q1))
        cases O with
        | none =>
          have HV := hid (show absoluteT s = none from HAb.out)
          rw [HV.out]
          have HO2 := hid (show ∀ w, Env w → Calls Tryd.prog 28 #[.string SO] w fun e w' => e = .returned (.tuple #[.agg #[.int .i64 0, .string ⟨#[]⟩, .string ⟨#[]⟩, .string ⟨#[]⟩, .bool false], .bool false]) ∧ Below w.heap.size w w' from HOr.out)
          cases pf with
          | true =>
            have hR := HRt.out
            rw [if_pos rfl] at hR
            subst hR
            go_enter Tryd.func29, Tryd.ntmps29
            go_wp2_with (first | (go_at_call 55; (with_reducible refine (HSm.out _).mono ?_); rintro e w1 ⟨rfl, q1, hw1⟩; have HT1 := hid (HQ1.out w1 q1 hw1); clear hw1) | (go_at_call 56; (with_reducible refine (HCh.out _).mono ?_); rintro e w2 ⟨rfl, hb⟩; have HT2 := hid (HT1.out.below hb); clear hb) | (go_at_call 57; (with_reducible refine (HIh.out _).mono ?_); rintro e w3 ⟨rfl, hw3⟩; subst w3) | (go_at_call 58; (with_reducible refine (HPx.out _).mono ?_); rintro e w3 ⟨rfl, hw3⟩; subst w3) | (go_at_call 28; (with_reducible refine (HO2.out _ (HE.out.below HT2.out.low)).mono ?_); rintro e w4 ⟨rfl, hb⟩; have HT4 := hid ((HT2.out.below hb).next Z5); clear hb; obtain ⟨_, _, _, _, _, oz⟩ := five HT4.out.o; have oz0 := oz 0; have oz1 := oz 1; have oz2 := oz 2; have oz3 := oz 3; have oz4 := oz 4; clear oz))
            (try simp only [Exit.inBlock, Exit.then])
            refine bodyPost_ret (results_ptg rfl _ _ _ 23 _ (0, 0) rfl (five_put (has_five HT4.out.o) _ _ _ _ _) rfl) rfl ?_
            exact ⟨rfl, HT4.out.out _ _ _ _ _⟩
          | false =>
            have hR := HRt.out
            rw [if_neg (by simp)] at hR
            go_enter Tryd.func29, Tryd.ntmps29
            go_wp2_with (first | (go_at_call 55; (with_reducible refine (HSm.out _).mono ?_); rintro e w1 ⟨rfl, q1, hw1⟩; have HT1 := hid (HQ1.out w1 q1 hw1); clear hw1) | (go_at_call 56; (with_reducible refine (HCh.out _).mono ?_); rintro e w2 ⟨rfl, hb⟩; have HT2 := hid (HT1.out.below hb); clear hb) | (go_at_call 57; (with_reducible refine (HIh.out _).mono ?_); rintro e w3 ⟨rfl, hw3⟩; subst w3) | (go_at_call 58; (with_reducible refine (HPx.out _).mono ?_); rintro e w3 ⟨rfl, hw3⟩; subst w3) | (go_at_call 28; (with_reducible refine (HO2.out _ (HE.out.below HT2.out.low)).mono ?_); rintro e w4 ⟨rfl, hb⟩; have HT4 := hid ((HT2.out.below hb).next Z5); clear hb; obtain ⟨_, _, _, _, _, oz⟩ := five HT4.out.o; have oz0 := oz 0; have oz1 := oz 1; have oz2 := oz 2; have oz3 := oz 3; have oz4 := oz 4; clear oz))
            (try simp only [Exit.inBlock, Exit.then])
            refine bodyPost_ret (results_ptg rfl _ _ _ 23 _ (0, 0) rfl (five_put (has_five HT4.out.o) _ _ _ _ _) rfl) rfl ?_
            exact ⟨rfl, HT4.out.out _ _ _ _ _⟩
        | some t =>
          have HV := hid (show absoluteT s = some ⟨2, smallB Hh, t.path, t.query, t.has⟩ from HAb.out)
          rw [HV.out]
          obtain ⟨tf, th, tpa, tq, ths⟩ := t
          obtain ⟨c1, hc1⟩ : ∃ c1, str th = c1 := ⟨_, rfl⟩
          obtain ⟨c2, hc2⟩ : ∃ c2, str tpa = c2 := ⟨_, rfl⟩
          obtain ⟨c3, hc3⟩ : ∃ c3, str tq = c3 := ⟨_, rfl⟩
          have HO2 := hid (show ∀ w, Env w → Calls Tryd.prog 28 #[.string SO] w fun e w' => e = .returned (.tuple #[.agg #[.int .i64 tf, .string c1, .string c2, .string c3, .bool ths], .bool true]) ∧ Below w.heap.size w w' from by rw [← hc1, ← hc2, ← hc3]; exact HOr.out)
          have HF := hid (show tgV ((some (⟨2, smallB Hh, tpa, tq, ths⟩ : TG)).getD TG.zero) = .agg #[.int .i64 2, .string SL, .string c2, .string c3, .bool ths] from by rw [← HSL.out, ← hc2, ← hc3]; rfl)
          dsimp only
          rw [HF.out]
          clear hc1 hc2 hc3
          cases pf with
          | true =>
            have hR := HRt.out
            rw [if_pos rfl] at hR
            subst hR
            go_enter Tryd.func29, Tryd.ntmps29
            go_wp2_with (first | (go_at_call 55; (with_reducible refine (HSm.out _).mono ?_); rintro e w1 ⟨rfl, q1, hw1⟩; have HT1 := hid (HQ1.out w1 q1 hw1); clear hw1) | (go_at_call 56; (with_reducible refine (HCh.out _).mono ?_); rintro e w2 ⟨rfl, hb⟩; have HT2 := hid (HT1.out.below hb); clear hb) | (go_at_call 57; (with_reducible refine (HIh.out _).mono ?_); rintro e w3 ⟨rfl, hw3⟩; subst w3) | (go_at_call 58; (with_reducible refine (HPx.out _).mono ?_); rintro e w3 ⟨rfl, hw3⟩; subst w3) | (go_at_call 28; (with_reducible refine (HO2.out _ (HE.out.below HT2.out.low)).mono ?_); rintro e w4 ⟨rfl, hb⟩; have HT4 := hid (HT2.out.below hb); have HTn := hid (heap_alloc_new w4 (.cells #[.int .i64 tf, .string c1, .string c2, .string c3, .bool ths] 23 (0, 0))); have hgl := HT4.out.lt; have HT5 := hid (HT4.out.next (.cells #[.int .i64 tf, .string c1, .string c2, .string c3, .bool ths] 23 (0, 0))); clear hb) | (go_at_call 59; (with_reducible refine (HLo.out _).mono ?_); rintro e w6 ⟨rfl, hb⟩; have HT6 := hid (HT5.out.below hb); obtain ⟨x0, x1, x2, x3, x4, xz⟩ := five ((hb.block _ (lt_of_heap HTn.out)).trans HTn.out); have xz0 := xz 0; have xz1 := xz 1; obtain ⟨_, _, _, _, _, oz⟩ := five HT6.out.o; have oz0 := oz 0; have oz1 := oz 1; have oz2 := oz 2; have oz3 := oz 3; have oz4 := oz 4; have hne1 : ¬ w4.heap.size = w.heap.size := (by omega); have hne2 : ¬ w.heap.size = w4.heap.size := (by omega); clear xz oz hb))
            (try simp only [Exit.inBlock, Exit.then])
            refine bodyPost_ret (results_ptg rfl _ _ _ 23 _ (0, 0) rfl (five_put (has_five ((HT6.out.set hgl 0 _).set hgl 1 _).o) _ _ _ _ _) rfl) rfl ?_
            exact ⟨rfl, ((HT6.out.set hgl 0 _).set hgl 1 _).out _ _ _ _ _⟩
          | false =>
            have hR := HRt.out
            rw [if_neg (by simp)] at hR
            go_enter Tryd.func29, Tryd.ntmps29
            go_wp2_with (first | (go_at_call 55; (with_reducible refine (HSm.out _).mono ?_); rintro e w1 ⟨rfl, q1, hw1⟩; have HT1 := hid (HQ1.out w1 q1 hw1); clear hw1) | (go_at_call 56; (with_reducible refine (HCh.out _).mono ?_); rintro e w2 ⟨rfl, hb⟩; have HT2 := hid (HT1.out.below hb); clear hb) | (go_at_call 57; (with_reducible refine (HIh.out _).mono ?_); rintro e w3 ⟨rfl, hw3⟩; subst w3) | (go_at_call 58; (with_reducible refine (HPx.out _).mono ?_); rintro e w3 ⟨rfl, hw3⟩; subst w3) | (go_at_call 28; (with_reducible refine (HO2.out _ (HE.out.below HT2.out.low)).mono ?_); rintro e w4 ⟨rfl, hb⟩; have HT4 := hid (HT2.out.below hb); have HTn := hid (heap_alloc_new w4 (.cells #[.int .i64 tf, .string c1, .string c2, .string c3, .bool ths] 23 (0, 0))); have hgl := HT4.out.lt; have HT5 := hid (HT4.out.next (.cells #[.int .i64 tf, .string c1, .string c2, .string c3, .bool ths] 23 (0, 0))); clear hb) | (go_at_call 59; (with_reducible refine (HLo.out _).mono ?_); rintro e w6 ⟨rfl, hb⟩; have HT6 := hid (HT5.out.below hb); obtain ⟨x0, x1, x2, x3, x4, xz⟩ := five ((hb.block _ (lt_of_heap HTn.out)).trans HTn.out); have xz0 := xz 0; have xz1 := xz 1; obtain ⟨_, _, _, _, _, oz⟩ := five HT6.out.o; have oz0 := oz 0; have oz1 := oz 1; have oz2 := oz 2; have oz3 := oz 3; have oz4 := oz 4; have hne1 : ¬ w4.heap.size = w.heap.size := (by omega); have hne2 : ¬ w.heap.size = w4.heap.size := (by omega); clear xz oz hb))
            (try simp only [Exit.inBlock, Exit.then])
            refine bodyPost_ret (results_ptg rfl _ _ _ 23 _ (0, 0) rfl (five_put (has_five ((HT6.out.set hgl 0 _).set hgl 1 _).o) _ _ _ _ _) rfl) rfl ?_
            exact ⟨rfl, ((HT6.out.set hgl 0 _).set hgl 1 _).out _ _ _ _ _⟩
    · have HV := hid (show absoluteT s = none from by rw [hAb, if_pos (.inr hsm)])
      rw [HV.out]
      rw [decide_eq_false hsm] at HSm
      rw [hn] at hs
      clear hn hS hS7 hSD hHh hRr hl hAb hsm hdl htw hdw
      go_enter Tryd.func29, Tryd.ntmps29
      go_wp2_with (go_at_call 55; (with_reducible refine (HSm.out _).mono ?_); rintro e w1 ⟨rfl, q1, hw1⟩; have HT1 := hid (show QW w w1 from by rw [hw1]; exact HT0.out.below (below_drew (Below.refl _ _) q1)); clear hw1; obtain ⟨_, _, _, _, _, oz⟩ := five HT1.out.o; have oz0 := oz 0; have oz1 := oz 1; have oz2 := oz 2; have oz3 := oz 3; have oz4 := oz 4; clear oz)
      (try simp only [Exit.inBlock, Exit.then])
      refine bodyPost_ret (results_ptg rfl _ _ _ 23 _ (0, 0) rfl (five_put (has_five HT1.out.o) _ _ _ _ _) rfl) rfl ?_
      exact ⟨rfl, HT1.out.out _ _ _ _ _⟩
end Go.Proofs.YtbdbmlklijmefaaDoor
