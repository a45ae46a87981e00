/- The law of cuts: a way through it. -/
import Derived.Test.YtmcglcdpcblckaaDoorLCut1
namespace Go.Proofs.YtmcglcdpcblckaaDoor
open Go.RowKit

set_option maxRecDepth 20000 in
set_option maxHeartbeats 16000000 in
theorem cuts_z (L : B) (n : Nat) (hn : L.length = n) (resp : Bool) (at_ : Int) (w : World) (hA : ArgAt w none L) (hbn : n ≤ 20000) (he : EnvE w) (i : Nat) (hi0 : i = 0) (hn0 : n = 0) (S1 S2 : PS) (N1 N2 N3 : Nat) (h1 : feedP (newP resp 4096) L = S1) (hN1 : feedN (newP resp 4096) L = N1) (h2 : feedP (newP resp 4096) (L.take i) = S2) (hN2 : feedN (newP resp 4096) (L.take i) = N2) (h3 : feedP S2 (L.drop i) = S1) (hN3 : feedN S2 (L.drop i) = N3) (hsum : N2 + N3 = N1) (hs2 : S2.st ≠ 11) (he2 : S2.err = 0) (hst : S1.st ≠ 11) (her : S1.err = 0) :
    Calls Tryd.prog 6 #[.slice none n 0, .bool resp, .int .i64 at_] w fun e w' => e = .returned (.bool true) ∧ Below w.heap.size w w' := by
  have HN := hid hn
  have HA := hid hA
  have HBn := hid hbn
  have HEn := hid he
  have HInv0 := hid (new_inv (r := resp) (m := 4096) (by omega))
  have HInv1 := hid (show InvP S1 from by rw [← h1]; exact feed_inv L HInv0.out)
  have HInv2 := hid (show InvP S2 from by rw [← h2]; exact feed_inv (L.take i) HInv0.out)
  have HS1 := hid (And.intro h1 hN1)
  have HS2 := hid (And.intro h2 hN2)
  have HS3 := hid (And.intro h3 hN3)
  have HB1 := hid (show decide (S1.st = 11) = false from decide_eq_false hst)
  have HE1 := hid (show errOf S1.err = .nilIface from by rw [her]; rfl)
  have HB2 := hid (show decide (S2.st = 11) = false from decide_eq_false hs2)
  have HE2 := hid (show errOf S2.err = .nilIface from by rw [he2]; rfl)
  obtain ⟨SX, NX, hSX⟩ : ∃ SX NX, feedP S1 [120] = SX ∧ feedN S1 [120] = NX := ⟨_, _, rfl, rfl⟩
  have HX := hid hSX
  obtain ⟨bX, hbX⟩ : ∃ bX, decide (SX.st = 11) = bX := ⟨_, rfl⟩
  have HbX := hid hbX
  obtain ⟨EX, hEX⟩ : ∃ EX, errOf SX.err = EX := ⟨_, rfl⟩
  have HEX := hid hEX
  clear hSX hbX hEX
  obtain ⟨MQ, hMQ⟩ : ∃ MQ, str (rqM S1) = MQ := ⟨_, rfl⟩
  obtain ⟨TQ, hTQ⟩ : ∃ TQ, str (rqT S1) = TQ := ⟨_, rfl⟩
  obtain ⟨KQ, hKQ⟩ : ∃ KQ, rqK S1 = KQ := ⟨_, rfl⟩
  obtain ⟨nq, hnq⟩ : ∃ nq, (rqF S1).length = nq := ⟨_, rfl⟩
  obtain ⟨EQ, hEQ⟩ : ∃ EQ, errOf (rqE S1) = EQ := ⟨_, rfl⟩
  obtain ⟨KP0, hKP0⟩ : ∃ KP0, rpS S1 = KP0 := ⟨_, rfl⟩
  obtain ⟨RP, hRP⟩ : ∃ RP, str (rpR S1) = RP := ⟨_, rfl⟩
  obtain ⟨KP, hKP⟩ : ∃ KP, rpK S1 = KP := ⟨_, rfl⟩
  obtain ⟨np, hnp⟩ : ∃ np, (rpF S1).length = np := ⟨_, rfl⟩
  obtain ⟨EP, hEP⟩ : ∃ EP, errOf (rpE S1) = EP := ⟨_, rfl⟩
  have HLq := hid (And.intro hMQ (And.intro hTQ (And.intro hKQ (And.intro hnq hEQ))))
  have HLp := hid (And.intro hKP0 (And.intro hRP (And.intro hKP (And.intro hnp hEP))))
  have HTq := hid (show ∀ (F : Nat → Prop) (W : World) (g : Nat), RdAt F W g S1 → _ from fun F W g h => tellQ_any h HInv1.out.fields)
  rw [hMQ, hTQ, hKQ, hnq, hEQ] at HTq
  have HTp := hid (show ∀ (F : Nat → Prop) (W : World) (g : Nat), RdAt F W g S1 → _ from fun F W g h => tellP_any h HInv1.out.fields)
  rw [hKP0, hRP, hKP, hnp, hEP] at HTp
  have HNq := hid (show ∀ W : World, EnvE W → _ from fun W h => num_any (rqE S1) W h)
  rw [hEQ] at HNq
  have HNp := hid (show ∀ W : World, EnvE W → _ from fun W h => num_any (rpE S1) W h)
  rw [hEP] at HNp
  have HNg := hid (show ∀ W : World, EnvE W → _ from fun W h => num_any S1.err W h)
  rw [HE1.out] at HNg
  obtain ⟨T1, hT1⟩ : ∃ T1, S1.taken = T1 := ⟨_, rfl⟩
  have HT1 := hid hT1
  have HLen := hid (show ∀ (F : Nat → Prop) (W : World) (g : Nat), RdAt F W g S1 → _ from fun F W g h => len_any g S1.taken W h.cells.2.1)
  rw [hT1] at HLen
  have HSq := hid (show ∀ (W : World) (a b : Option Addr) (c d : Nat), FAt W a (rqF S1) → FAt W b (rqF S1) → _ from fun W a b c d h h' => requests_same MQ TQ KQ (rqF S1) a b nq c d hnq W h h' (by rw [← hnq]; have := HInv1.out.fields; unfold rqF; split <;> simp <;> omega))
  have HSp := hid (show ∀ (W : World) (a b : Option Addr) (c d : Nat), FAt W a (rpF S1) → FAt W b (rpF S1) → _ from fun W a b c d h h' => responses_same KP0 RP KP (rpF S1) a b np c d hnp W h h' (by rw [← hnp]; have := HInv1.out.fields; unfold rpF; split <;> simp <;> omega))
  have hb1 : decide ((20000 : Int) < (n : Int)) = false := decide_eq_false (by omega)
  have hb2 : decide (20000 < n) = false := decide_eq_false (by omega)
  subst hi0 hn0
  have HTl := hid (show (L.take 0).length = 0 from rfl)
  have HDl := hid (show (L.drop 0).length = 0 - 0 from by rw [List.drop_zero, HN.out])
  have HSum := hid hsum
  have hsumI : wrap64 ((N2 : Int) + (N3 : Int)) = (N1 : Int) := by
    have h8 := feedN_le L (newP resp 4096)
    rw [hN1, hn] at h8
    unfold wrap64
    omega
  clear hn hA hbn he h1 hN1 h2 hN2 h3 hN3 hsum hs2 he2 hst her hMQ hTQ hKQ hnq hEQ hKP0 hRP hKP hnp hEP hT1
  have HC1 := hid (reader_yes resp 4096 w (by decide))
  go_enter Tryd.func6, Tryd.ntmps6
  go_wp2_with (first | (go_at_call 16; (with_reducible refine HC1.out.mono ?_); rintro e w1 ⟨rfl, a1, a2, a3⟩; have HR1 := hid (And.intro a1 (And.intro a2 a3)); have HC2 := hid (reader_yes resp 4096 w1 (by decide)); clear a1 a2 a3 HC1) | (go_at_call 16; (with_reducible refine HC2.out.mono ?_); rintro e w2 ⟨rfl, a1, a2, a3⟩; have C2 := hid (CS.begin HR1.out.1 HR1.out.2.1 HR1.out.2.2 a1 a2 a3); have HAx := hid (HA.out.next C2.out.low); have C4 := C2; have Y4 := hid (show YS w2 (fun k => k = w.heap.size) (fun k => k = w1.heap.size) (.slice none 0 0) L from ⟨(by have hL := List.eq_nil_of_length_eq_zero HN.out; rw [hL]; exact Own.nil _ _), fun k e => (by simp [Value.ownBlock] at e)⟩); have HC5 := hid (feed_any C4.out.r HInv0.out L none 0 0 HN.out Y4.out.own.arg (Y4.out.out1 none (fun a e => by cases e) L).1 (by decide)); rw [HS1.out.1, HS1.out.2] at HC5; unfold fedV at HC5; rw [HB1.out, HE1.out] at HC5; clear a1 a2 a3 HC2 HR1) | (go_at_call 18; (with_reducible refine HC5.out.mono ?_); rintro e w5 ⟨rfl, hq⟩; obtain ⟨F5, hf⟩ := C4.out.feed1 hq; have C5 := hid hf.cs; have Y5 := hid (Y4.out.fed1 hf); have HC6 := hid (feed_any C5.out.s HInv0.out (L.take 0) none 0 0 HTl.out (arg_take Y5.out.own.arg 0) (Y5.out.out1 _ (fun a e => ⟨a, e, rfl⟩) _).2 (by have := HBn.out; omega)); rw [HS2.out.1, HS2.out.2] at HC6; unfold fedV at HC6; rw [HB2.out, HE2.out] at HC6; clear hq hf HC5 C4 Y4) | (go_at_call 18; (with_reducible refine HC6.out.mono ?_); rintro e w6 ⟨rfl, hq⟩; obtain ⟨F6, hf⟩ := C5.out.feed2 hq; have C6 := hid hf.cs; have Y6 := hid (Y5.out.fed2 hf); have HC7 := hid (feed_any C6.out.s HInv2.out (L.drop 0) none (0 - 0) 0 HDl.out (fun j y hj => Y6.out.own.arg j y (by rw [List.drop_zero] at hj; exact hj)) (Y6.out.out1 _ (fun a e => by cases e) _).2 (by have := HBn.out; omega)); rw [HS3.out.1, HS3.out.2] at HC7; unfold fedV at HC7; rw [HB1.out, HE1.out] at HC7; simp only [Nat.sub_self] at HC7; clear hq hf HC6 C5 Y5) | (go_at_call 18; (with_reducible refine HC7.out.mono ?_); rintro e w7 ⟨rfl, hq⟩; obtain ⟨F7, hf⟩ := C6.out.feed2 hq; have C7 := hid hf.cs; have HC8 := hid (HTq.out _ _ _ C7.out.r); clear hq hf HC7 C6 Y6) | (go_at_call 21; (with_reducible refine HC8.out.mono ?_); rintro e w8 ⟨p8, c8, rfl, hf8, hb⟩; have C8a := hid (C7.out.next hb); have C8 := hid (C8a.out.next (below_new w8 (.cells #[.string MQ, .string TQ, .int .i64 KQ, .slice p8 nq c8] 25 (0, 0)))); have Q8 := hid (Lc.new C8a.out #[.string MQ, .string TQ, .int .i64 KQ, .slice p8 nq c8] 25); have G8 := hid ((YF.new C7.out hf8).next (below_new w8 (.cells #[.string MQ, .string TQ, .int .i64 KQ, .slice p8 nq c8] 25 (0, 0)))); have HC9 := hid (HTq.out _ _ _ C8.out.s); clear hf8 hb HC8 C7 C8a) | (go_at_call 21; (with_reducible refine HC9.out.mono ?_); rintro e w9 ⟨p9, c9, rfl, hf9, hb⟩; have C9a := hid (C8.out.next hb); have C9 := hid (C9a.out.next (below_new w9 (.cells #[.string MQ, .string TQ, .int .i64 KQ, .slice p9 nq c9] 25 (0, 0)))); have Q8b := hid ((Q8.out.next hb).next (below_new w9 (.cells #[.string MQ, .string TQ, .int .i64 KQ, .slice p9 nq c9] 25 (0, 0)))); have G8b := hid ((G8.out.next hb).next (below_new w9 (.cells #[.string MQ, .string TQ, .int .i64 KQ, .slice p9 nq c9] 25 (0, 0)))); have Q9 := hid (Lc.new C9a.out #[.string MQ, .string TQ, .int .i64 KQ, .slice p9 nq c9] 25); have G9 := hid ((YF.new C8.out hf9).next (below_new w9 (.cells #[.string MQ, .string TQ, .int .i64 KQ, .slice p9 nq c9] 25 (0, 0)))); have HC10 := hid (HTp.out _ _ _ C9.out.r); clear hf9 hb HC9 C8 C9a Q8 G8) | (go_at_call 22; (with_reducible refine HC10.out.mono ?_); rintro e w10 ⟨p10, c10, rfl, hf10, hb⟩; have C10a := hid (C9.out.next hb); have C10 := hid (C10a.out.next (below_new w10 (.cells #[.int .i64 KP0, .string RP, .int .i64 KP, .slice p10 np c10] 38 (0, 0)))); have Q8c := hid ((Q8b.out.next hb).next (below_new w10 (.cells #[.int .i64 KP0, .string RP, .int .i64 KP, .slice p10 np c10] 38 (0, 0)))); have G8c := hid ((G8b.out.next hb).next (below_new w10 (.cells #[.int .i64 KP0, .string RP, .int .i64 KP, .slice p10 np c10] 38 (0, 0)))); have Q9c := hid ((Q9.out.next hb).next (below_new w10 (.cells #[.int .i64 KP0, .string RP, .int .i64 KP, .slice p10 np c10] 38 (0, 0)))); have G9c := hid ((G9.out.next hb).next (below_new w10 (.cells #[.int .i64 KP0, .string RP, .int .i64 KP, .slice p10 np c10] 38 (0, 0)))); have Q10 := hid (Lc.new C10a.out #[.int .i64 KP0, .string RP, .int .i64 KP, .slice p10 np c10] 38); have G10 := hid ((YF.new C9.out hf10).next (below_new w10 (.cells #[.int .i64 KP0, .string RP, .int .i64 KP, .slice p10 np c10] 38 (0, 0)))); have HC11 := hid (HTp.out _ _ _ C10.out.s); clear hf10 hb HC10 C9 C10a Q8b G8b Q9 G9) | (go_at_call 22; (with_reducible refine HC11.out.mono ?_); rintro e w11 ⟨p11, c11, rfl, hf11, hb⟩; have C11a := hid (C10.out.next hb); obtain ⟨W11, hW11⟩ : ∃ W11, W11 = w11.alloc (.cells #[.int .i64 KP0, .string RP, .int .i64 KP, .slice p11 np c11] 38 (0, 0)) := ⟨_, rfl⟩; have HW11 := hid hW11; have hnb := below_new w11 (.cells #[.int .i64 KP0, .string RP, .int .i64 KP, .slice p11 np c11] 38 (0, 0)); rw [← hW11] at hnb; have C11 := hid (C11a.out.next hnb); have Q8d := hid ((Q8c.out.next hb).next hnb); have G8d := hid ((G8c.out.next hb).next hnb); have Q9d := hid ((Q9c.out.next hb).next hnb); have G9d := hid ((G9c.out.next hb).next hnb); have Q10d := hid ((Q10.out.next hb).next hnb); have G10d := hid ((G10.out.next hb).next hnb); have Q11d := hid (show Lc W11 _ w11.heap.size #[.int .i64 KP0, .string RP, .int .i64 KP, .slice p11 np c11] 38 from (by rw [hW11]; exact Lc.new C11a.out #[.int .i64 KP0, .string RP, .int .i64 KP, .slice p11 np c11] 38)); have G11d := hid ((YF.new C10.out hf11).next hnb); have HC12 := hid (HLen.out _ _ _ C11.out.r); have HC13 := hid (HLen.out _ _ _ C11.out.s); clear hf11 hb HC11 C10 C11a Q8c G8c Q9c G9c Q10 G10 hnb hW11) | (go_at_call 20; (rw [← HW11.out]); (with_reducible refine HC12.out.mono ?_); rintro e w12 ⟨rfl, hw12⟩; subst w12; clear HC12) | (go_at_call 20; (with_reducible refine HC13.out.mono ?_); rintro e w13 ⟨rfl, hw13⟩; subst w13; have hconv := Lib.run_convert_bytes_const (P := Tryd.prog) W11 22 5 #[.int .u8 120] 1 1 Tryd.underlying22 Tryd.underlying5; simp only [List.size_toArray, List.length_cons, List.length_nil, Nat.zero_add, Nat.reduceAdd] at hconv; obtain ⟨WX, hWX⟩ : ∃ WX, WX = W11.alloc (.cells #[.int .u8 120] 5 (1, 2)) := ⟨_, rfl⟩; rw [← hWX] at hconv; have hnx := below_new W11 (.cells #[.int .u8 120] 5 (1, 2)); rw [← hWX] at hnx; have CX := hid (C11.out.next hnx); have HNx := hid hnx; have HAX := hid (show ArgAt WX (some ⟨W11.heap.size, 0, none⟩) [120] from (by rw [hWX]; exact one_arg W11 (1, 2))); have HC14 := hid (feed_any CX.out.r HInv1.out [120] (some ⟨W11.heap.size, 0, none⟩) 1 1 rfl HAX.out (fun a e _ hk => (by cases e; have h9 := (C11.out.f1 _ hk).2; dsimp only at h9; omega)) (by decide)); rw [HX.out.1, HX.out.2] at HC14; unfold fedV at HC14; rw [HbX.out, HEX.out] at HC14; clear hnx hWX HC13 HAX) | (go_at_call 18; (with_reducible refine HC14.out.mono ?_); rintro e w14 ⟨rfl, hq⟩; obtain ⟨F14, hf⟩ := CX.out.feed1 hq; have D14 := hid (show BD w w14 _ _ _ _ _ _ _ _ p8 p9 p10 p11 (rqF S1) (rpF S1) from ⟨hf.cs.low, ((Q8d.out.next HNx.out).fed hf).blk, ((Q9d.out.next HNx.out).fed hf).blk, ((Q10d.out.next HNx.out).fed hf).blk, ((Q11d.out.next HNx.out).fed hf).blk, ((G8d.out.next HNx.out).fed hf).own.fat, ((G9d.out.next HNx.out).fed hf).own.fat, ((G10d.out.next HNx.out).fed hf).own.fat, ((G11d.out.next HNx.out).fed hf).own.fat⟩); have K0 := hid (HNg.out _ (HEn.out.next D14.out.low)); clear hq hf HC14 CX C11 Q8d Q9d Q10d Q11d G8d G9d G10d G11d hconv) | (go_at_call 13; (with_reducible refine K0.out.mono ?_); rintro e v0 ⟨rfl, hb⟩; have D20 := hid (D14.out.next hb); have K1 := hid (HNg.out _ (HEn.out.next D20.out.low)); clear hb K0 D14) | (go_at_call 13; (with_reducible refine K1.out.mono ?_); rintro e v1 ⟨rfl, hb⟩; have D21 := hid (D20.out.next hb); have RQ := hid (HSq.out _ p8 p9 c8 c9 D21.out.f8 D21.out.f9); obtain ⟨s0, s1, s2, s3, _⟩ := cells4 D21.out.q8; obtain ⟨s4, s5, s6, s7, _⟩ := cells4 D21.out.q9; clear hb K1 D20) | (go_at_call 12; (with_reducible refine RQ.out.mono ?_); rintro e u1 ⟨rfl, hb⟩; have D30 := hid (D21.out.next hb); have K10 := hid (HNq.out _ (HEn.out.next D30.out.low)); clear hb RQ D21 s0 s1 s2 s3 s4 s5 s6 s7) | (go_at_call 13; (with_reducible refine K10.out.mono ?_); rintro e v10 ⟨rfl, hb⟩; have D31 := hid (D30.out.next hb); have K11 := hid (HNq.out _ (HEn.out.next D31.out.low)); clear hb K10 D30) | (go_at_call 13; (with_reducible refine K11.out.mono ?_); rintro e v11 ⟨rfl, hb⟩; have D32 := hid (D31.out.next hb); have RP2 := hid (HSp.out _ p10 p11 c10 c11 D32.out.f10 D32.out.f11); obtain ⟨t0, t1, t2, t3, _⟩ := cells4 D32.out.q10; obtain ⟨t4, t5, t6, t7, _⟩ := cells4 D32.out.q11; clear hb K11 D31) | (go_at_call 14; (with_reducible refine RP2.out.mono ?_); rintro e u2 ⟨rfl, hb⟩; have D33 := hid (D32.out.next hb); have K12 := hid (HNp.out _ (HEn.out.next D33.out.low)); clear hb RP2 D32 t0 t1 t2 t3 t4 t5 t6 t7) | (go_at_call 13; (with_reducible refine K12.out.mono ?_); rintro e v12 ⟨rfl, hb⟩; have D34 := hid (D33.out.next hb); have K13 := hid (HNp.out _ (HEn.out.next D34.out.low)); clear hb K12 D33) | (go_at_call 13; (with_reducible refine K13.out.mono ?_); rintro e v13 ⟨rfl, hb⟩; have D35 := hid (D34.out.next hb); have KS := hid (sure_any v13); clear hb K13 D34) | (go_at_call 15; (with_reducible refine KS.out.mono ?_); rintro e u9 ⟨rfl, hb⟩; have D36 := hid (D35.out.next hb); clear hb KS))
  go_ret
  exact ⟨rfl, D36.out.low⟩
end Go.Proofs.YtmcglcdpcblckaaDoor
