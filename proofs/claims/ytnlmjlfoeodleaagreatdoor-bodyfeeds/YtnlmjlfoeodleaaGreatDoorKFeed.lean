/- The program's reader of chunked bodies: Feed. -/
import Derived.Test.YtnlmjlfoeodleaaGreatDoorKFeedP
import Derived.WalkMore
namespace Go.Proofs.YtnlmjlfoeodleaaGreatDoor
open Go.RowKit

theorem results_tmp4 {fn : Func} {t u v x : Tmp} (h : fn.results = #[.tmp t, .tmp u, .tmp v, .tmp x]) (tmps : Array Value) (P : Program) (w : World) :
    (results fn tmps).run P w = .ok (.tuple #[tmps.getD t undef, tmps.getD u undef, tmps.getD v undef, tmps.getD x undef]) w := by
  simp [results, h]
theorem arg_news {w : World} {ag o : Nat} {L : B} (h : ArgAt w (some ⟨ag, o, none⟩) L) : ∀ j u, (Lib.byteCells L)[j]? = some u → w.cell? ((⟨ag, o, none⟩ : Addr).add j) = some u := by
  intro j u hj
  unfold Lib.byteCells at hj
  rw [List.getElem?_map] at hj
  cases hy : L[j]? with
  | none => rw [hy] at hj; cases hj
  | some y =>
    rw [hy] at hj
    obtain rfl := Option.some.inj hj
    obtain ⟨g2, o2, e, hc⟩ := h j y hy
    simp only [Option.some.injEq, Addr.mk.injEq, and_true] at e
    obtain ⟨rfl, rfl⟩ := e
    have : (⟨ag, o, none⟩ : Addr).add j = ⟨ag, o + j, none⟩ := by unfold Addr.add; split <;> simp_all
    rw [this]
    exact hc
theorem byte_one (L : B) : ∀ u ∈ Lib.byteCells L, u.oneCell' = true := by
  intro u hu
  unfold Lib.byteCells at hu
  obtain ⟨c, _, rfl⟩ := List.mem_map.1 hu
  rfl
theorem FeedI.over {F G : Nat → Prop} {w wr w2 : World} {g i : Nat} {s s2 : KS} {l : B} {v : Value} {p : Option Addr} (h : FeedI F w wr g s l i G v) (t : Turned G wr g s2 w2) (ha : ArgAt w p l) (hp : ArgOut F p l) : Own w2 w.heap.size v (feedB s (l.take i)) ∧ ArgAt w2 p l ∧ w.heap.size ≤ w2.heap.size := by
  obtain ⟨G1, hr, ho, hs⟩ := t
  exact ⟨own_only h.body ho (fun k e => h.out k e), ha.only (h.only.trans ho h.sub) hp, Nat.le_trans h.only.size ho.size⟩
theorem ended_parts {s : KS} (h : endedK s = false) : s.err = 0 ∧ s.st ≠ 11 := by
  unfold endedK at h
  simpa using h
theorem ended_yes {s : KS} (h : endedK s = true) : s.err ≠ 0 ∨ (s.err = 0 ∧ s.st = 11) := by
  unfold endedK at h
  simp at h
  by_cases he : s.err = 0
  · exact .inr ⟨he, by simpa [he] using h⟩
  · exact .inl he
theorem feed_out {F G : Nat → Prop} {w wr : World} {g i : Nat} {s : KS} {l : B} {q : Option Addr} {m d : Nat} {st : Bool} {E : Value} (h : FeedI F w wr g s l i G (.slice q m d)) (h1 : feedK s l = feedK s (l.take i)) (h2 : feedN s l = i) (h3 : feedB s l = feedB s (l.take i)) (hst : decide ((feedK s (l.take i)).st = 11) = st) (hE : errOf (feedK s (l.take i)).err = E) (nq : Nat) : FedK F w g s l (.returned (.tuple #[.int .i64 (i : Int), .slice q m d, .bool st, E])) (wr.drewN nq) := by
  have hm : (feedB s l).length = m := by rw [h3]; exact slice_part h.body
  refine ⟨q, d, ?_, G, ?_⟩
  · unfold fedV
    rw [h2, hm, h1, hst, hE]
  · rw [hm]
    exact h.fin h1 h3 nq
set_option maxRecDepth 20000 in
set_option maxHeartbeats 8000000 in
theorem feed_any {F : Nat → Prop} {w : World} {g : Nat} {s : KS} (h : RdAt F w g s) (hi : InvK s) (l : B) (p : Option Addr) (n c : Nat) (hn : l.length = n) (hnc : n ≤ c) (ha : ArgAt w p l) (hp : ArgOut F p l) (hl : n ≤ 281474976710656) :
    Calls Tryz.prog 70 #[.pointer (some ⟨g, 0, none⟩), .slice p n c] w (FedK F w g s l) := by
  have H := hid h
  have HI := hid hi
  have HA := hid ha
  have HP := hid hp
  have HN := hid hn
  clear h hi ha hp hn
  go_enter Tryz.func70, Tryz.ntmps70
  go_wp2
  go_step3
  go_wp2
  go_step3
  go_wp2
  go_loopg [8, 9] (n + 1) (fun gk s8 s9 wr => ∃ (i : Nat) (G : Nat → Prop), s9 = .int .i64 (i : Int) ∧ i ≤ n ∧ gk = n - i + 1 ∧ FeedI F w wr g s l i G s8)
  case atStart => exact ⟨0, _, rfl, by omega, rfl, FeedI.begin H.out l⟩
  case round =>
    obtain ⟨i, G, rfl, hin, rfl, hr⟩ := hrel
    have HR := hid hr
    obtain ⟨q, m, d, rfl⟩ := own_slice3 hr.body
    clear hr
    have HIi := hid (feed_inv (l.take i) HI.out)
    obtain ⟨S, hS⟩ : ∃ S, feedK s (l.take i) = S := ⟨_, rfl⟩
    have HS := hid hS
    rw [hS] at HIi
    obtain ⟨t0, p0, hc0⟩ := HR.out.rd.cells
    rw [hS] at hc0
    have k2 := hc0.a2
    have k3 := hc0.a3
    clear hc0 hS
    have HDn := hid (fun (u : World) (hu : u.cell? ⟨g, 3, none⟩ = some (.int .i64 (S.st : Int))) => done_any g S.st u hu)
    obtain ⟨wv, hwv⟩ : ∃ wv, decide (S.st = 11) = wv := ⟨_, rfl⟩
    have HWv := hid hwv
    rw [hwv] at HDn
    clear hwv
    obtain ⟨E, hE⟩ : ∃ E, errOf S.err = E := ⟨_, rfl⟩
    have HE := hid hE
    by_cases hlt : i < n
    · obtain ⟨y, hy⟩ : ∃ y, l[i]? = some y := ⟨l[i]'(by rw [HN.out]; exact hlt), List.getElem?_eq_getElem (by rw [HN.out]; exact hlt)⟩
      obtain ⟨ag, ao, hap, hac⟩ := HA.out i y hy
      have hac2 := cell_only HR.out.only (HP.out _ hap (by rintro rfl; simp at hy)) hac
      subst hap
      have HY := hid hy
      have hltI : (i : Int) < (n : Int) := by omega
      cases hend : endedK S with
      | true =>
        have HD := hid (fk_done HR.out.n (by rw [HS.out]; exact hend))
        rcases ended_yes hend with he | ⟨he, h11⟩
        · rw [errOf_pos he] at k2 hE
          subst hE
          clear hy hac hend he
          go_wp2
          go_quiet ((go_at_call 109; exact Calls.quiet_of_same (HDn.out _ (by assumption))))
          go_wp2
          (try rw [Exit.noGoto_ret]); refine bodyPost_ret (results_tmp4 rfl _ _ _) rfl ?_
          exact feed_out HR.out HD.out.1 HD.out.2.1 HD.out.2.2 (by rw [HS.out]; exact HWv.out) (by rw [HS.out]; exact HE.out) _
        · rw [he, errOf_zero] at k2 hE
          subst hE
          obtain rfl : true = wv := by rw [← HWv.out]; simp [h11]
          clear hy hac hend he h11
          go_wp2_with (go_at_call 109; (with_reducible refine (HDn.out _ k3).mono ?_); rintro e w1 ⟨rfl, hw1⟩; subst w1)
          go_quiet ((go_at_call 109; exact Calls.quiet_of_same (HDn.out _ (by assumption))))
          go_wp2
          (try rw [Exit.noGoto_ret]); refine bodyPost_ret (results_tmp4 rfl _ _ _) rfl ?_
          exact feed_out HR.out HD.out.1 HD.out.2.1 HD.out.2.2 (by rw [HS.out]; exact HWv.out) (by rw [HS.out]; exact HE.out) _
      | false =>
        obtain ⟨he, h11⟩ := ended_parts hend
        have HEr := hid he
        rw [he, errOf_zero] at k2 hE
        subst hE
        obtain rfl : false = wv := by rw [← HWv.out]; simp [h11]
        by_cases h3 : S.st = 3
        · have HO := hid (own_any HR.out.rd (by rw [HS.out]; exact HIi.out) (by rw [HS.out]; exact h3) ⟨ag, ao + i, none⟩ (n - i) (c - i) (by omega) (by omega))
          have h30 := (HIi.out.s3 h3).1
          have HH3 := hid h3
          obtain ⟨k, hk⟩ : ∃ k, min (n - i) (feedK s (l.take i)).left = k := ⟨_, rfl⟩
          rw [hk] at HO
          rw [HS.out] at hk
          have hk1 : i + k ≤ n := by omega
          have hk0 : 0 < k := by omega
          have HK := hid (show k ≤ S.left from by omega)
          rw [h3] at k3
          rw [h3] at HDn
          have hm := slice_part HR.out.body
          have HM := hid hm
          have hsm : m + k ≤ 2199023255552 := by
            have e1 := fk_small HI.out (l.take i)
            have e2 := HIi.out.s3 h3
            have e3 := HIi.out.most
            rw [hm] at e1
            omega
          obtain ⟨i0, hi0, hz0, hz1, hz2⟩ := info_parts infoB
          have HPc := hid (show ((l.drop i).take k).length = k from by rw [List.length_take, List.length_drop, HN.out]; omega)
          clear hend he h11 hk h3 h30 hm hy hac
          go_wp2_with (first | (go_at_call 109; (with_reducible refine (HDn.out _ k3).mono ?_); rintro e w1 ⟨rfl, hw1⟩; subst w1) | (go_at_call 110; (with_reducible refine HO.out.mono ?_); rintro e w2 ⟨rfl, hq⟩; have HQ := hid hq; have HV := hid (HR.out.over hq HA.out HP.out); clear hq) | (at_builtin; refine wpList_append_own_at _ rfl (.tmp 50) (.tmp 51) 32 rfl w.heap.size 5 i0 _ 1 1 Tryz.underlying32 hi0 hz0 hz1 hz2 rfl (by decide) (.slice q m d) m (Lib.byteCells (feedB s (l.take i))) (by go_simp) (by have h8 := HV.out.1; unfold Own at h8; rw [HM.out] at h8; exact h8) ⟨ag, ao + i, none⟩ k (c - i) (Lib.byteCells ((l.drop i).take k)) (by go_simp) (by simp only [Lib.byteCells, List.length_map, HPc.out, Nat.mul_one]) (arg_news (arg_take (arg_drop HV.out.2.1 i) k)) (byte_one _) (by unfold maxLen; omega) (by omega) HV.out.2.2 ?_; intro v' w3 hown hgr _ hblk; have HF3 := hid (HR.out.mine (by rw [HS.out]; exact HEr.out) (by rw [HS.out]; exact HH3.out) (by rw [HS.out]; exact HK.out) hk0 (by rw [HN.out]; exact hk1) HQ.out hgr (Own.put (by rw [HM.out]; exact hown) rfl HPc.out) hblk); obtain ⟨q3, d3, rfl⟩ := own_slice hown; clear hown hgr hblk))
          obtain ⟨G2, hG2⟩ := HF3.out
          go_roundg (n - (i + k) + 1)
          case measure => omega
          case rel => exact ⟨i + k, G2, by go_num, by omega, rfl, hG2⟩
        · have HSt := hid (show Calls Tryz.prog 111 #[.pointer (some ⟨g, 0, none⟩), byteV y] wr (fun e w' => e = .returned (errOf (stepK (feedK s (l.take i)) y).2) ∧ Turned G wr g (stepK (feedK s (l.take i)) y).1 w') from step_any HR.out.rd (by rw [HS.out]; exact HIi.out) (by rw [HS.out]; exact he) y (by rw [HS.out]; exact h3) (by rw [HS.out]; exact h11))
          have HNe := hid (show endedK (feedK s (l.take i)) = false from by rw [HS.out]; exact hend)
          have HH3 := hid (show (feedK s (l.take i)).st ≠ 3 from by rw [HS.out]; exact h3)
          have f3 : ((S.st : Int) == 3) = false := i_ne (b := 3) h3
          have hin1 : i + 1 ≤ n := by omega
          unfold byteV at HSt
          by_cases he2 : (stepK (feedK s (l.take i)) y).2 = 0
          · have HX := hid (show errOf (stepK (feedK s (l.take i)) y).2 = .nilIface from by rw [he2]; rfl)
            rw [HX.out] at HSt
            clear hend he h11 hy hac h3 he2
            go_wp2_with (first | (go_at_call 109; (with_reducible refine (HDn.out _ k3).mono ?_); rintro e w1 ⟨rfl, hw1⟩; subst w1) | (go_at_call 111; (with_reducible refine HSt.out.mono ?_); rintro e w2 ⟨rfl, hq⟩; have HF3 := hid (HR.out.step HNe.out HH3.out HY.out hq); obtain ⟨G1, hr1, _, _⟩ := hq; obtain ⟨t1, p1, hc1⟩ := hr1.cells; have x2 := hc1.a2; have y2 := hc1.z 2; clear hr1 hc1))
            rw [HX.out] at HF3
            obtain ⟨G2, hG2⟩ := HF3.out
            go_roundg (n - (i + 1) + 1)
            case measure => omega
            case rel => exact ⟨i + 1, G2, by go_num, by omega, rfl, hG2⟩
          · have HX := hid (errOf_pos he2)
            rw [HX.out] at HSt
            obtain ⟨er, her⟩ : ∃ er, (stepK (feedK s (l.take i)) y).2 = er := ⟨_, rfl⟩
            rw [her] at HSt
            have HER := hid her
            clear hend he h11 hy hac h3 he2 her
            go_wp2_with (first | (go_at_call 109; (with_reducible refine (HDn.out _ k3).mono ?_); rintro e w1 ⟨rfl, hw1⟩; subst w1) | (go_at_call 111; (with_reducible refine HSt.out.mono ?_); rintro e w2 ⟨rfl, hq⟩; have HF3 := hid (HR.out.step HNe.out HH3.out HY.out hq); obtain ⟨G1, hr1, _, _⟩ := hq; obtain ⟨t1, p1, hc1⟩ := hr1.cells; have x2 := hc1.a2; have y2 := hc1.z 2; clear hr1 hc1))
            rw [HX.out, HER.out] at HF3
            obtain ⟨G2, hG2⟩ := HF3.out
            go_roundg (n - (i + 1) + 1)
            case measure => omega
            case rel => exact ⟨i + 1, G2, by go_num, by omega, rfl, hG2⟩
    · obtain rfl : i = n := by omega
      have hltI : ¬ (i : Int) < (i : Int) := by omega
      have HT := hid (show l.take i = l from List.take_of_length_le (by rw [HN.out]; exact Nat.le_refl _))
      have HF := hid (show feedN s l = i from by have := HR.out.n; rw [HT.out] at this; exact this)
      rw [hE] at k2
      clear hlt hE
      go_wp2
      go_quiet ((go_at_call 109; exact Calls.quiet_of_same (HDn.out _ (by assumption))))
      go_wp2
      (try rw [Exit.noGoto_ret]); refine bodyPost_ret (results_tmp4 rfl _ _ _) rfl ?_
      exact feed_out HR.out (by rw [HT.out]) HF.out (by rw [HT.out]) (by rw [HS.out]; exact HWv.out) (by rw [HS.out]; exact HE.out) _
end Go.Proofs.YtnlmjlfoeodleaaGreatDoor
