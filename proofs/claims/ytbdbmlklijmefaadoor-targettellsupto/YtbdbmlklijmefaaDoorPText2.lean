/- The program's Text. -/
import Derived.Test.YtbdbmlklijmefaaDoorPText
namespace Go.Proofs.YtbdbmlklijmefaaDoor
open Go.RowKit

theorem short_len (t : TG) : (shortT t).length ≤ t.host.length + t.path.length + t.query.length + 8 := by
  unfold shortT
  have h7 : httpB.length = 7 := rfl
  split
  · simp
  · rw [List.length_append]
    have hq : (if t.has = true then 63 :: t.query else []).length ≤ t.query.length + 1 := by split <;> simp
    split
    · rw [List.length_append, List.length_append, h7]
      have hp : (if t.path = [47] then [] else t.path).length ≤ t.path.length := by split <;> simp
      omega
    · omega
theorem tl_inj {A C : ByteArray} (h : A.toList = C.toList) : A = C := by
  rw [ByteArray.toList_eq, ByteArray.toList_eq] at h
  exact arr_inj h
set_option maxRecDepth 20000 in
set_option maxHeartbeats 8000000 in
theorem ptext_any (t : TG) (hsz : t.host.length + t.path.length + t.query.length ≤ 4294967270) (w : World) (hE : Env w) : Calls Tryd.prog 13 #[tgV t] w fun e w' => e = .returned (.tuple #[.string (str (textT t).1), errOf (textT t).2]) ∧ Below w.heap.size w w' := by
  have hlen := short_len t
  have HSh := hid (short_any t (by omega))
  have HPa := hid (pparse_any (shortT t) (by omega))
  have HV := hid (text_is t)
  have HE := hid hE
  obtain ⟨r, k, hr⟩ : ∃ r k, parseT (shortT t) = (r, k) := ⟨_, _, rfl⟩
  rw [hr] at HPa HV
  dsimp only at HPa HV
  obtain ⟨T, hT⟩ : ∃ T, shortT t = T := ⟨_, rfl⟩
  rw [hT] at HSh HPa HV
  obtain ⟨ST, hST⟩ : ∃ ST, str T = ST := ⟨_, rfl⟩
  rw [hST] at HSh HPa
  have HST := hid hST
  obtain ⟨tf, th, tp, tq, ths⟩ := t
  obtain ⟨rf, rh, rp, rq, rhs⟩ := r
  have HX0 := hid (BX.start w #[.int .i64 tf, .string (str th), .string (str tp), .string (str tq), .bool ths])
  unfold tgV at HSh HPa ⊢
  dsimp only at HSh HPa HX0 ⊢
  have HEq := hid (show str rh = str th → str rp = str tp → str rq = str tq → rf = tf → rhs = ths → (⟨rf, rh, rp, rq, rhs⟩ : TG) = ⟨tf, th, tp, tq, ths⟩ from fun a b c d e => by rw [str_inj a, str_inj b, str_inj c, d, e])
  by_cases hk : k = 0
  · subst hk
    by_cases heq : (⟨rf, rh, rp, rq, rhs⟩ : TG) = ⟨tf, th, tp, tq, ths⟩
    · have HV2 := hid (show textT ⟨tf, th, tp, tq, ths⟩ = (T, 0) from by rw [← HV.out, if_neg (by rintro (q | q); exact q rfl; exact q heq)])
      rw [HV2.out]
      simp only [TG.mk.injEq] at heq
      obtain ⟨rfl, rfl, rfl, rfl, rfl⟩ := heq
      obtain ⟨c1, hc1⟩ : ∃ c1, str rh = c1 := ⟨_, rfl⟩
      obtain ⟨c2, hc2⟩ : ∃ c2, str rp = c2 := ⟨_, rfl⟩
      obtain ⟨c3, hc3⟩ : ∃ c3, str rq = c3 := ⟨_, rfl⟩
      rw [hc1, hc2, hc3] at HX0 HSh HPa ⊢
      have HP2 := hid (show ∀ w, Env w → Calls Tryd.prog 9 #[.string ST] w fun e w' => e = .returned (.tuple #[.agg #[.int .i64 rf, .string c1, .string c2, .string c3, .bool rhs], .nilIface]) ∧ Below w.heap.size w w' from HPa.out)
      dsimp only
      rw [HST.out]
      clear hsz hlen hE hr hT hST hc1 hc2 hc3 HPa
      go_enter Tryd.func13, Tryd.ntmps13
      go_wp2_with (first
        | (go_at_call 34; (with_reducible refine (HSh.out _).mono ?_); rintro e w1 ⟨rfl, hb⟩; have HB1 := hid (below_out HX0.out.low hb); have HE1 := hid (HE.out.below HB1.out); have HX1 := hid (HX0.out.up (hb.mono HX0.out.lt)); clear hb)
        | (go_at_call 9; (with_reducible refine (HP2.out _ HE1.out).mono ?_); rintro e w2 ⟨rfl, hb⟩; have HB2 := hid (below_out HB1.out (below_out hb (below_new w2 (.cells #[.int .i64 rf, .string c1, .string c2, .string c3, .bool rhs] 23 (0, 0))))); have HX2 := hid ((HX1.out.up (hb.mono HX1.out.lt)).next (.cells #[.int .i64 rf, .string c1, .string c2, .string c3, .bool rhs] 23 (0, 0))); obtain ⟨x0, x1, x2, x3, x4, xz⟩ := five HX2.out.box; clear hb xz))
      go_ret2
      exact ⟨rfl, HB2.out⟩
    · have HV2 := hid (show textT ⟨tf, th, tp, tq, ths⟩ = ([], 23) from by rw [← HV.out, if_pos (.inr heq)])
      rw [HV2.out]
      have HNe := hid (show ¬ (str rh = str th ∧ str rp = str tp ∧ str rq = str tq ∧ rf = tf ∧ rhs = ths) from fun q => heq (HEq.out q.1 q.2.1 q.2.2.1 q.2.2.2.1 q.2.2.2.2))
      obtain ⟨c1, hc1⟩ : ∃ c1, str th = c1 := ⟨_, rfl⟩
      obtain ⟨c2, hc2⟩ : ∃ c2, str tp = c2 := ⟨_, rfl⟩
      obtain ⟨c3, hc3⟩ : ∃ c3, str tq = c3 := ⟨_, rfl⟩
      obtain ⟨d1, hd1⟩ : ∃ d1, str rh = d1 := ⟨_, rfl⟩
      obtain ⟨d2, hd2⟩ : ∃ d2, str rp = d2 := ⟨_, rfl⟩
      obtain ⟨d3, hd3⟩ : ∃ d3, str rq = d3 := ⟨_, rfl⟩
      rw [hc1, hc2, hc3] at HX0 HSh HNe ⊢
      rw [hd1, hd2, hd3] at HPa HNe
      have HP2 := hid (show ∀ w, Env w → Calls Tryd.prog 9 #[.string ST] w fun e w' => e = .returned (.tuple #[.agg #[.int .i64 rf, .string d1, .string d2, .string d3, .bool rhs], .nilIface]) ∧ Below w.heap.size w w' from HPa.out)
      dsimp only
      clear hsz hlen hE hr hT hST hc1 hc2 hc3 HPa hd1 hd2 hd3 HEq heq HV
      go_enter Tryd.func13, Tryd.ntmps13
      go_wp2_with (first
        | (go_at_call 34; (with_reducible refine (HSh.out _).mono ?_); rintro e w1 ⟨rfl, hb⟩; have HB1 := hid (below_out HX0.out.low hb); have HE1 := hid (HE.out.below HB1.out); have HX1 := hid (HX0.out.up (hb.mono HX0.out.lt)); clear hb)
        | (go_at_call 9; (with_reducible refine (HP2.out _ HE1.out).mono ?_); rintro e w2 ⟨rfl, hb⟩; have HB2 := hid (show ∀ o, Below w.heap.size w (w2.alloc o) from fun o => below_out HB1.out (below_out hb (below_new w2 o))); have HX2 := hid ((HX1.out.up (hb.mono HX1.out.lt)).next (.cells #[.int .i64 rf, .string d1, .string d2, .string d3, .bool rhs] 23 (0, 0))); obtain ⟨x0, x1, x2, x3, x4, xz⟩ := five HX2.out.box; clear hb xz))
      all_goals first
        | exact absurd ⟨tl_inj (by assumption), tl_inj (by assumption), tl_inj (by assumption), by assumption, by assumption⟩ HNe.out
        | (go_ret2; exact ⟨rfl, HB2.out _⟩)
  · have HV2 := hid (show textT ⟨tf, th, tp, tq, ths⟩ = ([], 23) from by rw [← HV.out, if_pos (.inl hk)])
    rw [HV2.out]
    have HEr := hid (errOf_pos hk)
    rw [HEr.out] at HPa
    obtain ⟨c1, hc1⟩ : ∃ c1, str th = c1 := ⟨_, rfl⟩
    obtain ⟨c2, hc2⟩ : ∃ c2, str tp = c2 := ⟨_, rfl⟩
    obtain ⟨c3, hc3⟩ : ∃ c3, str tq = c3 := ⟨_, rfl⟩
    obtain ⟨d1, hd1⟩ : ∃ d1, str rh = d1 := ⟨_, rfl⟩
    obtain ⟨d2, hd2⟩ : ∃ d2, str rp = d2 := ⟨_, rfl⟩
    obtain ⟨d3, hd3⟩ : ∃ d3, str rq = d3 := ⟨_, rfl⟩
    rw [hc1, hc2, hc3] at HX0 HSh ⊢
    rw [hd1, hd2, hd3] at HPa
    dsimp only
    clear hsz hlen hE hr hT hST hc1 hc2 hc3 hd1 hd2 hd3 HEq HV
    go_enter Tryd.func13, Tryd.ntmps13
    go_wp2_with (first
      | (go_at_call 34; (with_reducible refine (HSh.out _).mono ?_); rintro e w1 ⟨rfl, hb⟩; have HB1 := hid (below_out HX0.out.low hb); have HE1 := hid (HE.out.below HB1.out); clear hb)
      | (go_at_call 9; (with_reducible refine (HPa.out _ HE1.out).mono ?_); rintro e w2 ⟨rfl, hb⟩; have HB2 := hid (below_out HB1.out (below_out hb (below_new w2 (.cells #[.int .i64 rf, .string d1, .string d2, .string d3, .bool rhs] 23 (0, 0))))); clear hb))
    go_ret2
    exact ⟨rfl, HB2.out⟩
end Go.Proofs.YtbdbmlklijmefaaDoor
