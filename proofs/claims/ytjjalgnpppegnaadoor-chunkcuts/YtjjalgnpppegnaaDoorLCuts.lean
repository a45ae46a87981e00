/- The law of cuts, walked. -/
import Derived.Test.YtjjalgnpppegnaaDoorKCut
namespace Go.Proofs.YtjjalgnpppegnaaDoor
open Go.RowKit

def IntsAt (w : World) (pc : Option Addr) (nc : Nat) : Prop := ∀ k, k < nc → ∃ b o x, pc = some ⟨b, o, none⟩ ∧ w.cell? ⟨b, o + k, none⟩ = some (.int .i64 x)
theorem IntsAt.next {w w' : World} {pc : Option Addr} {nc : Nat} (h : IntsAt w pc nc) (hb : Below w.heap.size w w') : IntsAt w' pc nc := by
  intro k hk
  obtain ⟨b, o, x, h1, h2⟩ := h k hk
  exact ⟨b, o, x, h1, cell_keep hb h2⟩
theorem CutS.start {w w1 w2 w3 w4 : World} {G1 : Nat → Prop} {s0 : KS} {L : B} {vo : Value} (hb1 : Below w.heap.size w w1) (hs1 : w1.heap.size = w.heap.size + 1) (hr2 : RdAt (fun k => k = w1.heap.size) w2 w1.heap.size s0) (hb2 : Below w1.heap.size w1 w2) (hs2 : w2.heap.size = w1.heap.size + 1) (hb3 : Below w2.heap.size w2 w3) (hG : FedG (fun k => k = w.heap.size) w3 w4 w.heap.size s0 L G1 vo) : CutS w w4 G1 (fun k => k = w1.heap.size) w.heap.size w1.heap.size (feedK s0 L) s0 vo (.slice none 0 0) (feedB s0 L) [] := by
  have h3 := hb3.size
  have h4 := hG.only.size
  have low3 : Below w.heap.size w w3 := (hb1.trans (hb2.mono (by omega))).trans (hb3.mono (by omega))
  refine ⟨low3.trans (hG.only.below (fun k hk => by have hk2 : k = w.heap.size := hk; omega) (by omega)), hG.rd, (hr2.next hb3).keep hG.only (fun k hk hk2 => by have e1 : k = w1.heap.size := hk; have e2 : k = w.heap.size := hk2; omega), fun k hk hk2 => ?_, fun k hk => ?_, fun k hk => ?_, own_low0 hG.body, fun k e hk => ?_, Own.nil _ _, fun k e => by simp [Value.ownBlock] at e⟩
  · have e1 : k = w1.heap.size := hk2
    rcases hG.sub k hk with h | h
    · have e2 : k = w.heap.size := h; omega
    · omega
  · rcases hk with hk | hk
    · rcases hG.sub k hk with h | h
      · have e2 : k = w.heap.size := h; omega
      · omega
    · have e1 : k = w1.heap.size := hk; omega
  · rcases hk with hk | hk
    · exact hG.lt k hk
    · have e1 : k = w1.heap.size := hk; omega
  · have e1 : k = w1.heap.size := hk
    have := own_ge hG.body e
    omega
set_option maxRecDepth 20000 in
set_option maxHeartbeats 16000000 in
theorem cuts_walk (L : B) (p : Option Addr) (n c : Nat) (hSl : SlOk p n c L) (hl : n ≤ 20000) (pc : Option Addr) (nc cc m : Nat) (hm : m ≤ 1099511627776) (w : World) (ha : ArgAt w p L) (hIn : IntsAt w pc nc) (hE : EnvK w) :
    Calls Tryd.prog 4 #[.slice p n c, .slice pc nc cc, .int .i64 (m : Int)] w fun e w' => e = .returned (.bool true) ∧ Below w.heap.size w w' := by
  have hn := hSl.len
  have hI0 : InvK (newK m) := invK_new hm
  have hI3 := feed_inv L hI0
  have hXm := fk_least hm L
  obtain ⟨N3, hN3⟩ : ∃ N3, feedN (newK m) L = N3 := ⟨_, rfl⟩
  obtain ⟨S3, hS3⟩ : ∃ S3, feedK (newK m) L = S3 := ⟨_, rfl⟩
  obtain ⟨X3, hX3⟩ : ∃ X3, feedB (newK m) L = X3 := ⟨_, rfl⟩
  rw [hS3] at hI3
  rw [hX3] at hXm
  obtain ⟨M3, hM3⟩ : ∃ M3, X3.length = M3 := ⟨_, rfl⟩
  obtain ⟨K, hK⟩ : ∃ K, S3.err = K := ⟨_, rfl⟩
  obtain ⟨E, hEe⟩ : ∃ E, errOf K = E := ⟨_, rfl⟩
  obtain ⟨b3, hb3⟩ : ∃ b3, decide (S3.st = 11) = b3 := ⟨_, rfl⟩
  obtain ⟨T3, hT3⟩ : ∃ T3, str X3 = T3 := ⟨_, rfl⟩
  obtain ⟨TL, hTL⟩ : ∃ TL, S3.tr.length = TL := ⟨_, rfl⟩
  have HTl := hid hTL
  have HNum := hid (fun W : World => num_any K W)
  rw [hEe] at HNum
  have HSl := hid hSl
  have HA := hid ha
  have HIn := hid hIn
  have HE := hid hE
  have HI0 := hid hI0
  have HI3 := hid hI3
  have HT3 := hid hT3
  have HN3 := hid hN3
  have HSs := hid hS3
  have HXs := hid hX3
  have Hb3 := hid hb3
  have HEe := hid (show errOf S3.err = E from by rw [hK]; exact hEe)
  have HNw := hid (fun W : World => (show Calls Tryd.prog 13 #[.int .i64 (m : Int)] W (fun e w' => e = .returned (.tuple #[.pointer (some ⟨W.heap.size, 0, none⟩), .nilIface]) ∧ RdAt (fun k => k = W.heap.size) w' W.heap.size (newK m) ∧ Below W.heap.size W w' ∧ w'.heap.size = W.heap.size + 1) from new_yes m W hm))
  have HN1 := hid (HNw.out w)
  have HTw := hid (fun (W : World) (hb : Below w.heap.size w W) => twin_any L p n c hn W (ha.next hb) hSl.nil (by omega))
  have HFd1 := hid (fun (W : World) (r : RdAt (fun k => k = w.heap.size) W w.heap.size (newK m)) (q : Option Addr) (d b : Nat) (ho : Own W b (.slice q n d) L) (hb : w.heap.size < b) => feed_as r hI0 L q n d hn ho.cap ho.arg (own_out ho (fun k hk => by have hk2 : k = w.heap.size := hk; omega)) (by omega) (M := M3) (b := b3) (E := E) hN3 (by rw [hX3]; exact hM3) (by rw [hS3]; exact hb3) (by rw [hS3]; exact HEe.out))
  have hlI : decide ((20000 : Int) < (n : Int)) = false := by rw [decide_eq_false_iff_not]; omega
  have hmI : (M3 : Int) ≤ (m : Int) := by omega
  clear hSl ha hIn hE hI0 hI3 hT3 hN3 hS3 hX3 hb3 hK hEe hn hm hM3 hXm hTL
  go_enter Tryd.func4, Tryd.ntmps4
  go_wp2_with (first | (go_at_call 13; (with_reducible refine HN1.out.mono ?_); rintro e w1 ⟨rfl, hr1, hb1, hs1⟩; have HR1 := hid hr1; have HB1 := hid hb1; have HS1 := hid hs1; have HN2 := hid (HNw.out w1); clear hr1 hb1 hs1 HN1 HNw) | (go_at_call 13; (with_reducible refine HN2.out.mono ?_); rintro e w2 ⟨rfl, hr2, hb2, hs2⟩; have HR2 := hid hr2; have HB2 := hid hb2; have HS2 := hid hs2; have HT1 := hid (HTw.out w2 (below_out HB1.out hb2)); clear hr2 hb2 hs2 HN2 HTw) | (go_at_call 9; (with_reducible refine HT1.out.mono ?_); rintro e w3 ⟨q3, d3, rfl, ho3, hb3⟩; have HB3 := hid hb3; have HF1 := hid (HFd1.out w3 ((HR1.out.next HB2.out).next hb3) q3 d3 w2.heap.size ho3 (by have := HS1.out; have := HS2.out; omega)); clear ho3 hb3 HT1 HFd1 HR1) | (go_at_call 14; (with_reducible refine HF1.out.mono ?_); rintro e w4 ⟨q4, d4, G1, rfl, hG⟩; have HSt := hid (CutS.start HB1.out HS1.out HR2.out HB2.out HS2.out HB3.out hG); rw [HSs.out, HXs.out] at HSt; clear hG HF1 HB3 HR2 HB2 HS2 HB1 HS1))
  go_loopg [15, 16, 17] (n + 1) (fun gk s15 s16 s17 wr => ∃ (f j : Nat) (Gy : Nat → Prop), s16 = .int .i64 (f : Int) ∧ s17 = .int .i64 (j : Int) ∧ f ≤ n ∧ j ≤ f ∧ gk = n - f + 1 ∧ feedN (newK m) (L.take f) = f ∧ CutS w wr G1 Gy w.heap.size w1.heap.size S3 (feedK (newK m) (L.take f)) (.slice q4 M3 d4) s15 X3 (feedB (newK m) (L.take f)))
  case atStart => exact ⟨0, 0, _, rfl, rfl, by omega, by omega, rfl, by simp [feedN], by simpa [feedK, feedB] using HSt.out⟩
  case round =>
    obtain ⟨f, j, Gy, rfl, rfl, hfn, hjf, rfl, hff, hsc⟩ := hrel
    have HSc := hid hsc
    have Hf := hid hff
    obtain ⟨qa, ma, da, rfl⟩ := own_slice3 hsc.a
    have Hma := hid (slice_part hsc.a)
    have HIf := hid (feed_inv (L.take f) HI0.out)
    have hms : ma ≤ 1099511627776 := by have h9 := fk_small HI0.out (L.take f); rw [Hma.out] at h9; exact h9
    clear hsc hff HSt
    by_cases hlt : f < n
    · have hltI : (f : Int) < (n : Int) := by omega
      obtain ⟨J, hJ⟩ : ∃ J : Int, (j : Int) = J := ⟨_, rfl⟩
      rw [hJ]
      have HJ := hid hJ
      have hj0 : 0 ≤ J := by omega
      have hjI : J < 20100 := by omega
      by_cases hjc : j < nc
      · obtain ⟨cb, co, z, hpc, hcell⟩ := (HIn.out.next HSc.out.low) j hjc
        subst hpc
        have hjcI : J < (nc : Int) := by omega
        rw [show j = J.toNat by omega] at hcell
        clear hJ
        go_wp2_with (first | (refine wpList_rem_as rfl (.tmp 102) rfl z rfl ?_; intro r1 hr1 hr2 _) | (refine wpList_rem_as rfl (.tmp 104) rfl (r1 + 40) rfl ?_; intro r2 hr3 hr4 hr5; have hr6 := hr5 (by omega); clear hr5 hr3 hr1 hr2) | (refine wpList_min_as rfl (.tmp 107) (.tmp 111) rfl (r2 + 1) ((n : Int) - (f : Int)) rfl rfl ?_; intro kI hkI; obtain ⟨k, hkk⟩ : ∃ k : Nat, kI = (k : Int) := ⟨kI.toNat, by omega⟩; subst hkk; have hk0 : 0 < k := (by omega); have hk1 : f + k ≤ n := (by omega); clear hkI; obtain ⟨qp, dp, hq, P⟩ := part_lh HSl.out f k hk1; have HQ := hid hq; have HLn := hid (show ((L.drop f).take k).length = k from by rw [List.length_take, List.length_drop, HSl.out.len]; omega); have HT := hid (twin_any ((L.drop f).take k) qp k dp HLn.out wr (P.arg wr (HA.out.next HSc.out.low)) P.nil (by omega)); clear hq P) | (refine wpList_sl rfl (.tmp 115) (some (.tmp 116)) (some (.tmp 119)) rfl (.slice p n c) (.slice qp k dp) (some (.int .i64 (f : Int))) (some (.int .i64 ((f : Int) + (k : Int)))) rfl rfl rfl HQ.out ?_; clear HQ) | (go_at_call 9; (with_reducible refine HT.out.mono ?_); rintro e u1 ⟨q1, d1, rfl, ho1, hb1⟩; have HS1 := hid (HSc.out.next hb1); obtain ⟨mN, hmN⟩ : ∃ mN, feedN (feedK (newK m) (L.take f)) ((L.drop f).take k) = mN := ⟨_, rfl⟩; obtain ⟨MP, hMP⟩ : ∃ MP, (feedB (feedK (newK m) (L.take f)) ((L.drop f).take k)).length = MP := ⟨_, rfl⟩; obtain ⟨bP, hbP⟩ : ∃ bP, decide ((feedK (feedK (newK m) (L.take f)) ((L.drop f).take k)).st = 11) = bP := ⟨_, rfl⟩; obtain ⟨EP, hEP⟩ : ∃ EP, errOf (feedK (feedK (newK m) (L.take f)) ((L.drop f).take k)).err = EP := ⟨_, rfl⟩; have HFd := hid (feed_as HS1.out.y HIf.out ((L.drop f).take k) q1 k d1 HLn.out ho1.cap ho1.arg (own_out ho1 (fun kk hk => HSc.out.lt kk (.inr hk))) (by omega) hmN hMP hbP hEP); have HmN := hid hmN; have HMP := hid hMP; have hmk : mN ≤ k := (by have h9 := fkN_le ((L.drop f).take k) (feedK (newK m) (L.take f)); rw [hmN, HLn.out] at h9; exact h9); clear ho1 hb1 hmN hMP hbP hEP HT) | (go_at_call 14; (with_reducible refine HFd.out.mono ?_); rintro e u2 ⟨q2, d2, G2, rfl, hG2⟩; have HS2 := hid (HS1.out.feed hG2); have HBd := hid hG2.body; have hMs : MP ≤ 1099511627776 := (by have h9 := fk_small HIf.out ((L.drop f).take k); rw [HMP.out] at h9; exact h9); clear hG2 HFd HS1) | (at_builtin; refine wpList_append_any rfl (.tmp 127) (.tmp 128) rfl w.heap.size (.slice qa ma da) ma (feedB (newK m) (L.take f)) (feedB (feedK (newK m) (L.take f)) ((L.drop f).take k)) (by go_simp) HS2.out.a Hma.out q2 MP d2 (by go_simp) HMP.out HBd.out.arg (own_nil HBd.out) (by omega) HS2.out.low.size ?_; intro q3 d3 u3 ho3 hg3 hv3; have HS3 := hid (HS2.out.app hg3 ho3 hv3); clear ho3 hg3 hv3 HS2 HBd))
        · have hlt2 : mN < k := by omega
          obtain ⟨c1, c2, c3⟩ := cut_end Hf.out (by rw [HSl.out.len]; exact hk1) (by rw [HmN.out]; exact hlt2)
          rw [HmN.out, HN3.out] at c2
          have hsum : (((f : Int) + (mN : Int)) == (N3 : Int)) = true := by rw [beq_iff_eq]; omega
          have HFin := hid (show CutS w u3 G1 G2 w.heap.size w1.heap.size S3 S3 (.slice q4 M3 d4) (.slice q3 (ma + MP) d3) X3 X3 from by
            have h9 := HS3.out
            rw [← c1, ← c3, HSs.out, HXs.out] at h9
            exact h9)
          clear c1 c2 c3 HS3
          have HFdN := hid (feed_as HFin.out.y HI3.out [] none 0 0 rfl (Nat.le_refl _) (fun j y hj => by simp at hj) (fun a e _ => by cases e) (by omega) (N := 0) (M := 0) (b := b3) (E := E) rfl rfl Hb3.out HEe.out)
          go_wp2_with (first | (go_at_call 14; (with_reducible refine HFdN.out.mono ?_); rintro e z1 ⟨qz, dz, Gz, rfl, hGz⟩; have HZ := hid (show CutS w z1 G1 Gz w.heap.size w1.heap.size S3 S3 (.slice q4 M3 d4) (.slice q3 (ma + MP) d3) X3 X3 from HFin.out.feed hGz); have hcA := conv_own HZ.out.a; have hcO := conv_own HZ.out.o; rw [HT3.out] at hcA hcO; clear hGz HFdN HFin) | (go_at_call 12; (with_reducible refine (HNum.out _).mono ?_); rintro e z2 ⟨rfl, hz2⟩; subst z2) | (go_at_call 15; (with_reducible refine (trailers_any HZ.out.x HI3.out.tr).mono ?_); rintro e z3 ⟨tq, td, rfl, ho3, hb3⟩; rw [HTl.out] at ho3 ⊢; have HZ3 := hid (HZ.out.next hb3); have HO3 := hid ho3; clear ho3 hb3 HZ) | (go_at_call 15; (with_reducible refine (trailers_any HZ3.out.y HI3.out.tr).mono ?_); rintro e z4 ⟨tq2, td2, rfl, ho4, hb4⟩; rw [HTl.out] at ho4 ⊢; have HZ4 := hid (HZ3.out.next hb4); have HFs := hid (fields_same S3.tr tq tq2 TL td td2 HTl.out z4 (HO3.out.keep hb4).fat ho4.fat (by have := HI3.out.tr; rw [HTl.out] at this; omega)); clear ho4 hb4 HZ3 HO3) | (go_at_call 11; (with_reducible refine HFs.out.mono ?_); rintro e z5 ⟨rfl, hb5⟩; have HZ5 := hid (below_out HZ4.out.low hb5); have HE5 := hid (HE.out.next HZ5.out); clear hb5 HFs) | (go_at_call 7; (with_reducible refine (works_any _ HE5.out).mono ?_); rintro e z6 ⟨rfl, hb6⟩; have HZ6 := hid hb6; clear hb6))
          go_ret
          exact ⟨rfl, below_out HZ5.out HZ6.out⟩
        · obtain rfl : mN = k := by omega
          obtain ⟨c1, c2, c3⟩ := cut_step (k := mN) Hf.out
          rw [HmN.out] at c2
          go_roundg (n - (f + mN) + 1)
          case measure => omega
          case rel => exact ⟨f + mN, j + 1, G2, by go_num, by rw [← HJ.out]; go_num, by omega, by omega, rfl, c2, by rw [c1, c3]; exact HS3.out⟩
      · have hjcI : ¬ J < (nc : Int) := by omega
        clear hJ
        go_wp2_with (first | (refine wpList_min_as rfl (.tmp 107) (.tmp 111) rfl 7 ((n : Int) - (f : Int)) rfl rfl ?_; intro kI hkI; obtain ⟨k, hkk⟩ : ∃ k : Nat, kI = (k : Int) := ⟨kI.toNat, by omega⟩; subst hkk; have hk0 : 0 < k := (by omega); have hk1 : f + k ≤ n := (by omega); clear hkI; obtain ⟨qp, dp, hq, P⟩ := part_lh HSl.out f k hk1; have HQ := hid hq; have HLn := hid (show ((L.drop f).take k).length = k from by rw [List.length_take, List.length_drop, HSl.out.len]; omega); have HT := hid (twin_any ((L.drop f).take k) qp k dp HLn.out wr (P.arg wr (HA.out.next HSc.out.low)) P.nil (by omega)); clear hq P) | (refine wpList_sl rfl (.tmp 115) (some (.tmp 116)) (some (.tmp 119)) rfl (.slice p n c) (.slice qp k dp) (some (.int .i64 (f : Int))) (some (.int .i64 ((f : Int) + (k : Int)))) rfl rfl rfl HQ.out ?_; clear HQ) | (go_at_call 9; (with_reducible refine HT.out.mono ?_); rintro e u1 ⟨q1, d1, rfl, ho1, hb1⟩; have HS1 := hid (HSc.out.next hb1); obtain ⟨mN, hmN⟩ : ∃ mN, feedN (feedK (newK m) (L.take f)) ((L.drop f).take k) = mN := ⟨_, rfl⟩; obtain ⟨MP, hMP⟩ : ∃ MP, (feedB (feedK (newK m) (L.take f)) ((L.drop f).take k)).length = MP := ⟨_, rfl⟩; obtain ⟨bP, hbP⟩ : ∃ bP, decide ((feedK (feedK (newK m) (L.take f)) ((L.drop f).take k)).st = 11) = bP := ⟨_, rfl⟩; obtain ⟨EP, hEP⟩ : ∃ EP, errOf (feedK (feedK (newK m) (L.take f)) ((L.drop f).take k)).err = EP := ⟨_, rfl⟩; have HFd := hid (feed_as HS1.out.y HIf.out ((L.drop f).take k) q1 k d1 HLn.out ho1.cap ho1.arg (own_out ho1 (fun kk hk => HSc.out.lt kk (.inr hk))) (by omega) hmN hMP hbP hEP); have HmN := hid hmN; have HMP := hid hMP; have hmk : mN ≤ k := (by have h9 := fkN_le ((L.drop f).take k) (feedK (newK m) (L.take f)); rw [hmN, HLn.out] at h9; exact h9); clear ho1 hb1 hmN hMP hbP hEP HT) | (go_at_call 14; (with_reducible refine HFd.out.mono ?_); rintro e u2 ⟨q2, d2, G2, rfl, hG2⟩; have HS2 := hid (HS1.out.feed hG2); have HBd := hid hG2.body; have hMs : MP ≤ 1099511627776 := (by have h9 := fk_small HIf.out ((L.drop f).take k); rw [HMP.out] at h9; exact h9); clear hG2 HFd HS1) | (at_builtin; refine wpList_append_any rfl (.tmp 127) (.tmp 128) rfl w.heap.size (.slice qa ma da) ma (feedB (newK m) (L.take f)) (feedB (feedK (newK m) (L.take f)) ((L.drop f).take k)) (by go_simp) HS2.out.a Hma.out q2 MP d2 (by go_simp) HMP.out HBd.out.arg (own_nil HBd.out) (by omega) HS2.out.low.size ?_; intro q3 d3 u3 ho3 hg3 hv3; have HS3 := hid (HS2.out.app hg3 ho3 hv3); clear ho3 hg3 hv3 HS2 HBd))
        · have hlt2 : mN < k := by omega
          obtain ⟨c1, c2, c3⟩ := cut_end Hf.out (by rw [HSl.out.len]; exact hk1) (by rw [HmN.out]; exact hlt2)
          rw [HmN.out, HN3.out] at c2
          have hsum : (((f : Int) + (mN : Int)) == (N3 : Int)) = true := by rw [beq_iff_eq]; omega
          have HFin := hid (show CutS w u3 G1 G2 w.heap.size w1.heap.size S3 S3 (.slice q4 M3 d4) (.slice q3 (ma + MP) d3) X3 X3 from by
            have h9 := HS3.out
            rw [← c1, ← c3, HSs.out, HXs.out] at h9
            exact h9)
          clear c1 c2 c3 HS3
          have HFdN := hid (feed_as HFin.out.y HI3.out [] none 0 0 rfl (Nat.le_refl _) (fun j y hj => by simp at hj) (fun a e _ => by cases e) (by omega) (N := 0) (M := 0) (b := b3) (E := E) rfl rfl Hb3.out HEe.out)
          go_wp2_with (first | (go_at_call 14; (with_reducible refine HFdN.out.mono ?_); rintro e z1 ⟨qz, dz, Gz, rfl, hGz⟩; have HZ := hid (show CutS w z1 G1 Gz w.heap.size w1.heap.size S3 S3 (.slice q4 M3 d4) (.slice q3 (ma + MP) d3) X3 X3 from HFin.out.feed hGz); have hcA := conv_own HZ.out.a; have hcO := conv_own HZ.out.o; rw [HT3.out] at hcA hcO; clear hGz HFdN HFin) | (go_at_call 12; (with_reducible refine (HNum.out _).mono ?_); rintro e z2 ⟨rfl, hz2⟩; subst z2) | (go_at_call 15; (with_reducible refine (trailers_any HZ.out.x HI3.out.tr).mono ?_); rintro e z3 ⟨tq, td, rfl, ho3, hb3⟩; rw [HTl.out] at ho3 ⊢; have HZ3 := hid (HZ.out.next hb3); have HO3 := hid ho3; clear ho3 hb3 HZ) | (go_at_call 15; (with_reducible refine (trailers_any HZ3.out.y HI3.out.tr).mono ?_); rintro e z4 ⟨tq2, td2, rfl, ho4, hb4⟩; rw [HTl.out] at ho4 ⊢; have HZ4 := hid (HZ3.out.next hb4); have HFs := hid (fields_same S3.tr tq tq2 TL td td2 HTl.out z4 (HO3.out.keep hb4).fat ho4.fat (by have := HI3.out.tr; rw [HTl.out] at this; omega)); clear ho4 hb4 HZ3 HO3) | (go_at_call 11; (with_reducible refine HFs.out.mono ?_); rintro e z5 ⟨rfl, hb5⟩; have HZ5 := hid (below_out HZ4.out.low hb5); have HE5 := hid (HE.out.next HZ5.out); clear hb5 HFs) | (go_at_call 7; (with_reducible refine (works_any _ HE5.out).mono ?_); rintro e z6 ⟨rfl, hb6⟩; have HZ6 := hid hb6; clear hb6))
          go_ret
          exact ⟨rfl, below_out HZ5.out HZ6.out⟩
        · obtain rfl : mN = k := by omega
          obtain ⟨c1, c2, c3⟩ := cut_step (k := mN) Hf.out
          rw [HmN.out] at c2
          go_roundg (n - (f + mN) + 1)
          case measure => omega
          case rel => exact ⟨f + mN, j + 1, G2, by go_num, by rw [← HJ.out]; go_num, by omega, by omega, rfl, c2, by rw [c1, c3]; exact HS3.out⟩
    · obtain rfl : f = n := by omega
      have hltI : ¬ (f : Int) < (f : Int) := by omega
      have hTk : L.take f = L := List.take_of_length_le (by rw [HSl.out.len]; exact Nat.le_refl _)
      have hfN : f = N3 := by have h9 := Hf.out; rw [hTk, HN3.out] at h9; exact h9.symm
      have hsum : ((f : Int) == (N3 : Int)) = true := by rw [beq_iff_eq]; omega
      have HFin := hid (show CutS w wr G1 Gy w.heap.size w1.heap.size S3 S3 (.slice q4 M3 d4) (.slice qa ma da) X3 X3 from by
        have h9 := HSc.out
        rw [hTk, HSs.out, HXs.out] at h9
        exact h9)
      clear hlt hTk hfN HSc
      have HFdN := hid (feed_as HFin.out.y HI3.out [] none 0 0 rfl (Nat.le_refl _) (fun j y hj => by simp at hj) (fun a e _ => by cases e) (by omega) (N := 0) (M := 0) (b := b3) (E := E) rfl rfl Hb3.out HEe.out)
      go_wp2_with (first | (go_at_call 14; (with_reducible refine HFdN.out.mono ?_); rintro e z1 ⟨qz, dz, Gz, rfl, hGz⟩; have HZ := hid (show CutS w z1 G1 Gz w.heap.size w1.heap.size S3 S3 (.slice q4 M3 d4) (.slice qa ma da) X3 X3 from HFin.out.feed hGz); have hcA := conv_own HZ.out.a; have hcO := conv_own HZ.out.o; rw [HT3.out] at hcA hcO; clear hGz HFdN HFin) | (go_at_call 12; (with_reducible refine (HNum.out _).mono ?_); rintro e z2 ⟨rfl, hz2⟩; subst z2) | (go_at_call 15; (with_reducible refine (trailers_any HZ.out.x HI3.out.tr).mono ?_); rintro e z3 ⟨tq, td, rfl, ho3, hb3⟩; rw [HTl.out] at ho3 ⊢; have HZ3 := hid (HZ.out.next hb3); have HO3 := hid ho3; clear ho3 hb3 HZ) | (go_at_call 15; (with_reducible refine (trailers_any HZ3.out.y HI3.out.tr).mono ?_); rintro e z4 ⟨tq2, td2, rfl, ho4, hb4⟩; rw [HTl.out] at ho4 ⊢; have HZ4 := hid (HZ3.out.next hb4); have HFs := hid (fields_same S3.tr tq tq2 TL td td2 HTl.out z4 (HO3.out.keep hb4).fat ho4.fat (by have := HI3.out.tr; rw [HTl.out] at this; omega)); clear ho4 hb4 HZ3 HO3) | (go_at_call 11; (with_reducible refine HFs.out.mono ?_); rintro e z5 ⟨rfl, hb5⟩; have HZ5 := hid (below_out HZ4.out.low hb5); have HE5 := hid (HE.out.next HZ5.out); clear hb5 HFs) | (go_at_call 7; (with_reducible refine (works_any _ HE5.out).mono ?_); rintro e z6 ⟨rfl, hb6⟩; have HZ6 := hid hb6; clear hb6))
      go_ret
      exact ⟨rfl, below_out HZ5.out HZ6.out⟩
set_option maxRecDepth 20000 in
set_option maxHeartbeats 16000000 in
theorem cuts_big (p : Option Addr) (n c : Nat) (hl : decide ((20000 : Int) < (n : Int)) = true) (pc : Option Addr) (nc cc m : Nat) (hm : m ≤ 1099511627776) (w : World) (hE : EnvK w) :
    Calls Tryd.prog 4 #[.slice p n c, .slice pc nc cc, .int .i64 (m : Int)] w fun e w' => e = .returned (.bool true) ∧ Below w.heap.size w w' := by
  have HE := hid hE
  have HNw := hid (fun W : World => new_yes m W hm)
  have HN1 := hid (HNw.out w)
  clear hE hm
  go_enter Tryd.func4, Tryd.ntmps4
  go_wp2_with (first | (go_at_call 13; (with_reducible refine HN1.out.mono ?_); rintro e w1 ⟨rfl, _, hb1, _⟩; have HB1 := hid hb1; have HN2 := hid (HNw.out w1); clear hb1 HN1) | (go_at_call 13; (with_reducible refine HN2.out.mono ?_); rintro e w2 ⟨rfl, _, hb2, _⟩; have HB2 := hid (below_out HB1.out hb2); have HE2 := hid (HE.out.next HB2.out); clear hb2 HN2) | (go_at_call 12; (with_reducible refine (num_0 _).mono ?_); rintro e z2 ⟨rfl, hz2⟩; subst z2) | (go_at_call 7; (with_reducible refine (works_any _ HE2.out).mono ?_); rintro e z6 ⟨rfl, hb6⟩; have HZ6 := hid hb6; clear hb6))
  go_ret
  exact ⟨rfl, below_out HB2.out HZ6.out⟩
set_option maxRecDepth 20000 in
set_option maxHeartbeats 16000000 in
theorem cuts_no (p : Option Addr) (n c : Nat) (pc : Option Addr) (nc cc : Nat) (m : Int) (hm : ¬ (0 ≤ m ∧ m ≤ 1099511627776)) (w : World) (hE : EnvK w) :
    Calls Tryd.prog 4 #[.slice p n c, .slice pc nc cc, .int .i64 m] w fun e w' => e = .returned (.bool true) ∧ Below w.heap.size w w' := by
  have HE := hid hE
  have HNw := hid (new_no m w hm)
  clear hE hm
  go_enter Tryd.func4, Tryd.ntmps4
  go_wp2_with (first | (go_at_call 13; (with_reducible refine HNw.out.mono ?_); rintro e w1 ⟨rfl, hw1⟩; subst w1) | (go_at_call 12; (with_reducible refine (num_1 1 _).mono ?_); rintro e z2 ⟨rfl, hz2⟩; subst z2) | (go_at_call 7; (with_reducible refine (works_any _ HE.out).mono ?_); rintro e z6 ⟨rfl, hb6⟩; have HZ6 := hid hb6; clear hb6))
  go_ret
  exact ⟨rfl, HZ6.out⟩
theorem cuts_any (L : B) (p : Option Addr) (n c : Nat) (hSl : SlOk p n c L) (pc : Option Addr) (nc cc : Nat) (m : Int) (w : World) (ha : ArgAt w p L) (hIn : IntsAt w pc nc) (hE : EnvK w) :
    Calls Tryd.prog 4 #[.slice p n c, .slice pc nc cc, .int .i64 m] w fun e w' => e = .returned (.bool true) ∧ Below w.heap.size w w' := by
  by_cases hm : 0 ≤ m ∧ m ≤ 1099511627776
  · obtain ⟨k, rfl⟩ : ∃ k : Nat, m = (k : Int) := ⟨m.toNat, by omega⟩
    by_cases hl : n ≤ 20000
    · exact cuts_walk L p n c hSl hl pc nc cc k (by omega) w ha hIn hE
    · exact cuts_big p n c (decide_eq_true (by omega)) pc nc cc k (by omega) w hE
  · exact cuts_no p n c pc nc cc m hm w hE
end Go.Proofs.YtjjalgnpppegnaaDoor
