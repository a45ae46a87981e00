/- BodyCuts: however bytes are cut into feeds, what they say together, the end, the error and its byte are the same. -/
import Derived.Test.YtllbdpiihiohoaaDoorBTwo
import Derived.Test.YtllbdpiihiohoaaDoorLBk
namespace Go.Proofs.YtllbdpiihiohoaaDoor
open Go.RowKit

theorem end_as {F : Nat → Prop} {w : World} {g : Nat} {s : BS} {cp : Option Addr} {E : Value} (h : BdAt F w g s cp) (hE : errOf (shutX s).err = E) : Calls Tryd.prog 10 #[.pointer (some ⟨g, 0, none⟩)] w fun e w' => e = .returned E ∧ TurnX F w w' g (shutX s) (fun k => F k ∧ k < w.heap.size) cp := by
  refine (end_any h).mono ?_
  rintro e w' ⟨rfl, ht⟩
  exact ⟨by rw [hE], ht⟩
theorem tr_as {F : Nat → Prop} {w : World} {g tn : Nat} {s : BS} {cp : Option Addr} (h : BdAt F w g s cp) (hi : InvX s) (hn : (trX s).length = tn) : Calls Tryd.prog 13 #[.pointer (some ⟨g, 0, none⟩)] w fun e w' => ∃ q d, e = .returned (.slice q tn d) ∧ OwnF w' w.heap.size (.slice q tn d) (trX s) ∧ Below w.heap.size w w' := by
  have h9 := trailersx_any h hi
  rw [hn] at h9
  exact h9
theorem tr_len {s : BS} (hi : InvX s) : (trX s).length ≤ 64 := by
  unfold trX
  split
  · rename_i h; exact (hi.ck h.2).1.tr
  · simp
theorem two_new {w w0 w1 w2 : World} {g1 g2 : Nat} {s : BS} {c1 c2 : Option Addr} (hb0 : Below w.heap.size w w0) (h1 : BdAt (fun k => w0.heap.size ≤ k ∧ k < w1.heap.size) w1 g1 s c1) (hb1 : Below w0.heap.size w0 w1) (h2 : BdAt (fun k => w1.heap.size ≤ k ∧ k < w2.heap.size) w2 g2 s c2) (hb2 : Below w1.heap.size w1 w2) : Two w w2 g1 g2 s s c1 c2 (fun k => w0.heap.size ≤ k ∧ k < w1.heap.size) (fun k => w1.heap.size ≤ k ∧ k < w2.heap.size) := by
  have z0 := hb0.size
  have z1 := hb1.size
  have z2 := hb2.size
  exact ⟨below_out (below_out hb0 hb1) hb2, h1.next hb2, h2, fun k hk h9 => by omega, fun k hk => ⟨by omega, by omega⟩, fun k hk => ⟨by omega, hk.2⟩⟩
theorem new_as {K N m : Int} (h9 : m ≤ 9223372036854775807) (h0 : newE K N m = 0) {S : BS} (hS : newX K N m = S) {w : World} (hE : EnvP w) : Calls Tryd.prog 6 #[.agg #[.int .i64 K, .int .i64 N], .int .i64 m] w fun e w' => ∃ g cp, e = .returned (.tuple #[.pointer (some ⟨g, 0, none⟩), .nilIface]) ∧ BdAt (fun k => w.heap.size ≤ k ∧ k < w'.heap.size) w' g S cp ∧ Below w.heap.size w w' := by
  refine (new_any K N m h9 w hE).mono ?_
  subst hS
  rintro e w' (⟨h1, _⟩ | ⟨_, h⟩)
  · exact absurd h0 h1
  · exact h
theorem new_bad {K N m : Int} (h9 : m ≤ 9223372036854775807) (h0 : newE K N m ≠ 0) {w : World} (hE : EnvP w) : Calls Tryd.prog 6 #[.agg #[.int .i64 K, .int .i64 N], .int .i64 m] w fun e w' => e = .returned (.tuple #[.pointer none, .iface 47 (.int .i64 (newE K N m : Int))]) ∧ Below w.heap.size w w' := by
  refine (new_any K N m h9 w hE).mono ?_
  rintro e w' (⟨_, rfl, hb⟩ | ⟨h1, _⟩)
  · rw [errOf_pos h0]; exact ⟨rfl, hb⟩
  · exact absurd h1 h0
set_option maxRecDepth 20000 in
set_option maxHeartbeats 8000000 in
theorem bcuts_e (K N : Int) (p : Option Addr) (n c : Nat) (at_ : Int) (w : World) (hE : EnvP w) (hEe : EnvE w) (h0 : newE K N (-1) ≠ 0) :
    Calls Tryd.prog 3 #[.agg #[.int .i64 K, .int .i64 N], .slice p n c, .int .i64 at_] w fun e w' => e = .returned (.bool true) ∧ Below w.heap.size w w' := by
  have HB0 := hid (below_new w (frmO K N))
  have HX0 := hid (heap_alloc_new w (frmO K N))
  obtain ⟨k, hk⟩ : ∃ k : Int, (newE K N (-1) : Int) = k := ⟨_, rfl⟩
  have HNw := hid (fun (W : World) (hb : Below w.heap.size w W) => new_bad (K := K) (N := N) (m := -1) (by decide) h0 (hE.next hb))
  rw [hk] at HNw
  have HNm := hid (fun (W : World) (hb : Below w.heap.size w W) => num_err k W (hEe.next hb))
  have HSu0 := hid (fun (W : World) (hb : Below w.heap.size w W) => sure_any W (hE.next hb))
  clear hE hEe h0 hk
  go_enter Tryd.func3, Tryd.ntmps3
  go_wp2_with (first | (go_at_call 6; clear HB0; (with_reducible refine (HNw.out _ HB1.out).mono ?_); rintro e w2 ⟨rfl, hb⟩; have HB2 := hid (below_out HB1.out hb); have HN1 := hid (HNm.out w2 HB2.out); clear hb HNw) | (go_at_call 6; (with_reducible refine (HNw.out _ HB0.out).mono ?_); rintro e w1 ⟨rfl, hb⟩; have HB1 := hid (below_out HB0.out hb); obtain ⟨y0, y1, _, _⟩ := cells2 (blk_next HX0.out hb); clear hb) | (go_at_call 7; (with_reducible refine HN1.out.mono ?_); rintro e w3 ⟨rfl, hb⟩; have HB3 := hid (below_out HB2.out hb); have HN2 := hid (HNm.out w3 HB3.out); clear hb HN1 HNm) | (go_at_call 7; (with_reducible refine HN2.out.mono ?_); rintro e w4 ⟨rfl, hb⟩; have HB4 := hid (below_out HB3.out hb); have HSu := hid (HSu0.out w4 HB4.out); clear hb HN2) | (go_at_call 8; (with_reducible refine HSu.out.mono ?_); rintro e w5 ⟨rfl, hb⟩; have HB5 := hid (below_out HB4.out hb); clear hb HSu))
  go_ret
  exact ⟨rfl, HB5.out⟩
set_option maxRecDepth 20000 in
set_option maxHeartbeats 16000000 in
theorem bcuts_z1 (K N : Int) (b : B) (p : Option Addr) (n c : Nat) (at_ : Int) (hSl : SlOk p n c b) (hnn : n ≤ 140737488351232) (w : World) (ha : ArgAt w p b) (hE : EnvP w) (hEe : EnvE w) (h0 : newE K N (-1) = 0) (hn0 : n = 0) (hk : (fedX (newX K N (-1)) (b.take 0)).done = true) :
    Calls Tryd.prog 3 #[.agg #[.int .i64 K, .int .i64 N], .slice p n c, .int .i64 at_] w fun e w' => e = .returned (.bool true) ∧ Below w.heap.size w w' := by
  have hnI : ¬ (0 : Int) < (n : Int) := by omega
  have hI0 : InvX (newX K N (-1)) := inv_new h0 (by decide)
  obtain ⟨S0, hS0'⟩ : ∃ S0, newX K N (-1) = S0 := ⟨_, rfl⟩
  rw [hS0'] at hI0
  have hn := hSl.len
  have hov : overX (fedX S0 (b.take 0)) = true := by rw [hS0'] at hk ; unfold overX; rw [hk]; simp
  obtain ⟨c1, c2, c3⟩ := cut_over hov (b.drop 0)
  rw [List.take_append_drop] at c1 c2 c3
  have hl1 : (b.take 0).length = 0 := by rw [List.length_take]; omega
  have hl2 : (b.drop 0).length = n - 0 := by rw [List.length_drop]; omega
  obtain ⟨b1, hb1⟩ : ∃ b1, b.take 0 = b1 := ⟨_, rfl⟩
  obtain ⟨b2, hb2⟩ : ∃ b2, b.drop 0 = b2 := ⟨_, rfl⟩
  rw [hb1] at c1 c2 c3 hl1 hk
  rw [hb2] at hl2
  obtain ⟨S1, hS1⟩ : ∃ S1, fedX S0 b1 = S1 := ⟨_, rfl⟩
  obtain ⟨S, hS⟩ : ∃ S, fedX S0 b = S := ⟨_, rfl⟩
  obtain ⟨X, hX⟩ : ∃ X, saidX S0 b = X := ⟨_, rfl⟩
  obtain ⟨X1, hX1⟩ : ∃ X1, saidX S0 b1 = X1 := ⟨_, rfl⟩
  obtain ⟨T, hT⟩ : ∃ T, tookX S0 b = T := ⟨_, rfl⟩
  obtain ⟨T1, hT1⟩ : ∃ T1, tookX S0 b1 = T1 := ⟨_, rfl⟩
  obtain ⟨M, hM⟩ : ∃ M, X.length = M := ⟨_, rfl⟩
  obtain ⟨M1, hM1⟩ : ∃ M1, X1.length = M1 := ⟨_, rfl⟩
  have hI1 : InvX S1 := by rw [← hS1]; exact inv_fed hI0 b1
  have hIS : InvX S := by rw [← hS]; exact inv_fed hI0 b
  have hM1l : M1 ≤ 140737488351232 := by rw [← hM1, ← hX1]; rcases said_le hI0 b1 with h5 | h5 <;> omega
  have hTl : T ≤ 140737488351232 := by have h5 := took_le S0 b; omega
  obtain ⟨D, hD⟩ : ∃ D, S.done = D := ⟨_, rfl⟩
  obtain ⟨E, hEr⟩ : ∃ E, errOf S.err = E := ⟨_, rfl⟩
  obtain ⟨E2, hE2⟩ : ∃ E2, errOf (shutX S).err = E2 := ⟨_, rfl⟩
  obtain ⟨tn, htn⟩ : ∃ tn, (trX (shutX S)).length = tn := ⟨_, rfl⟩
  obtain ⟨D2, hD2⟩ : ∃ D2, (shutX S).done = D2 := ⟨_, rfl⟩
  have htl : tn ≤ 64 := by rw [← htn]; exact tr_len (inv_shut hIS)
  rw [hS1, hS] at c1
  rw [hT, hT1] at c2
  rw [hX, hX1] at c3
  subst c1 c2 c3
  have hDe1 : S.done = true := by rw [← hS1]; rw [hS0'] at hk; exact hk
  obtain rfl : D = true := by rw [← hD]; exact hDe1
  have hEe1 : errOf S.err = E := hEr
  obtain ⟨TT, hTT⟩ : ∃ TT, str X = TT := ⟨_, rfl⟩
  have HB0 := hid (below_new w (frmO K N))
  have HX0 := hid (heap_alloc_new w (frmO K N))
  have HNw := hid (fun (W : World) (hb : Below w.heap.size w W) => new_as (K := K) (N := N) (m := -1) (by decide) h0 hS0' (hE.next hb))
  have HFx := hid (fun (W : World) (G : Nat → Prop) (g : Nat) (cp q : Option Addr) (d bb : Nat) (hd : BdAt G W g S0 cp) (ho : Own W bb (.slice q n d) b) (hp : ArgOut G q b) => feedx_as hd hI0 b q n d hn ho.cap (own_nil ho) ho.arg hp (by omega) hT hX hM hS hD hEr)
  have HFa := hid (fun (W : World) (G : Nat → Prop) (g : Nat) (cp q qy : Option Addr) (d dy k : Nat) (hd : BdAt G W g S0 cp) (P : Part qy b q k d 0) (hki : k = 0) (ha : ArgAt W qy b) (hp : ArgOut G q b1) => feedx_as hd hI0 b1 q k d (by omega) P.cap P.nil (by have h8 := P.arg W ha; rw [List.drop_zero, hki, hb1] at h8; exact h8) hp (by omega) hT1 hX1 hM1 hS1 hDe1 hEe1)
  have HNm := hid (fun (W : World) (hb : Below w.heap.size w W) => bnum_any S.err W (hEe.next hb))
  have HNm2 := hid (fun (W : World) (hb : Below w.heap.size w W) => bnum_any (shutX S).err W (hEe.next hb))
  rw [hEr] at HNm
  rw [hE2] at HNm2
  obtain ⟨k1, hk1⟩ : ∃ k1 : Int, (S.err : Int) = k1 := ⟨_, rfl⟩
  obtain ⟨k2, hk2e⟩ : ∃ k2 : Int, ((shutX S).err : Int) = k2 := ⟨_, rfl⟩
  rw [hk1] at HNm
  rw [hk2e] at HNm2
  have HEn := hid (fun (W : World) (G : Nat → Prop) (g : Nat) (cp : Option Addr) (hd : BdAt G W g S cp) => end_as hd hE2)
  have HDn := hid (fun (W : World) (G : Nat → Prop) (g : Nat) (cp : Option Addr) (hd : BdAt G W g (shutX S) cp) => donex_any g D2 W (by have h8 := hd.cells.a4; rw [hD2] at h8; exact h8))
  have HTr := hid (fun (W : World) (G : Nat → Prop) (g : Nat) (cp : Option Addr) (hd : BdAt G W g (shutX S) cp) => tr_as hd (inv_shut hIS) htn)
  have HFl := hid (fun (W : World) (q q' : Option Addr) (d d' : Nat) (h1 : FAt W q (trX (shutX S))) (h2 : FAt W q' (trX (shutX S))) => bfields_same (trX (shutX S)) q q' tn d d' htn W h1 h2 (by omega))
  have HSu0 := hid (fun (W : World) (hb : Below w.heap.size w W) => sure_any W (hE.next hb))
  have HTT := hid hTT
  have HSl := hid hSl
  have HA := hid ha
  have HM := hid hM
  have HM1 := hid hM1
  clear hSl ha hE hEe h0 hI0 hS0' hn hov hl1 hl2 hb1 hb2 hk hS1 hS hX hX1 hT hT1 hM hM1 hI1 hIS hD hEr hE2 htn hD2 hDe1 hEe1 hTT hk1 hk2e hn0
  go_enter Tryd.func3, Tryd.ntmps3
  go_wp2_with (first | (go_at_call 6; clear HB0; (with_reducible refine (HNw.out _ HB1.out).mono ?_); rintro e w2 ⟨g2, cp2, rfl, hd2, hb⟩; have H2 := hid (two_new HZ0.out HD1.out HZ1.out hd2 hb); clear hb hd2 HNw HD1 HZ0 HZ1 HB1) | (go_at_call 6; (with_reducible refine (HNw.out _ HB0.out).mono ?_); rintro e w1 ⟨g1, cp1, rfl, hd1, hb⟩; have HB1 := hid (below_out HB0.out hb); have HD1 := hid hd1; have HZ0 := hid HB0.out; have HZ1 := hid hb; obtain ⟨y0, y1, _, _⟩ := cells2 (blk_next HX0.out hb); clear hb hd1) | (at_builtin; refine wpList_copy rfl (.tmp 60) (.tmp 61) rfl (by go_simp) b p n c (by go_simp) HSl.out.len (HA.out.next H2.out.low) HSl.out.nil (by omega) ?_; intro qx dx w3 ho hb _ _; have HRx := hid (Row.fresh H2.out ho); replace H2 := hid (H2.out.next hb); clear ho hb) | (at_builtin; refine wpList_copy rfl (.tmp 63) (.tmp 64) rfl (by go_simp) b p n c (by go_simp) HSl.out.len (HA.out.next H2.out.low) HSl.out.nil (by omega) ?_; intro qy dy w4 ho hb _ _; have HRy := hid (Row.fresh H2.out ho); replace H2 := hid (H2.out.next hb); replace HRx := hid (HRx.out.next hb); have HF1 := hid (HFx.out w4 _ g1 _ qx dx _ H2.out.r1 HRx.out.own HRx.out.self.1); obtain ⟨qa, da, hqa, Pa⟩ := part_h HRy.out.slok 0 (Nat.zero_le _); obtain ⟨qb, db, hqb, Pb⟩ := part_l HRy.out.slok 0 (Nat.zero_le _); have HQa := hid (show ∀ W, (Instr.sliceAt 24 (.slice qy n dy) none (some (.int .i64 0)) none).run Tryd.prog W = .ok (.slice qa 0 da) W from hqa); have HQb := hid (show ∀ W, (Instr.sliceAt 24 (.slice qy n dy) (some (.int .i64 0)) none none).run Tryd.prog W = .ok (.slice qb n db) W from hqb); have HPa := hid Pa; have HPb := hid (show Part qy b qb n db 0 from Pb); clear ho hb hqa hqb Pa Pb HFx) | (go_at_call 9; (with_reducible refine HF1.out.mono ?_); rintro e w5 ⟨qo, do_, G1, cq1, rfl, hG⟩; have HRo := hid (Row.told1 H2.out hG); replace HRy := hid (HRy.out.turn1 hG.t); replace H2 := hid (H2.out.turn1 hG.t); have HF2 := hid (HFa.out w5 _ g2 _ qa qy da dy 0 H2.out.r2 HPa.out rfl HRy.out.own.arg (HRy.out.out1 HPa.out).2); clear hG HF1 HFa HPa) | (refine wpList_sl rfl (.tmp 86) none (some (.tmp 87)) rfl (.slice qy n dy) (.slice qa 0 da) none (some (.int .i64 0)) rfl rfl (by go_simp) HQa.out ?_; clear HQa) | (go_at_call 9; (with_reducible refine HF2.out.mono ?_); rintro e w6 ⟨qp, dp, G2, cq2, rfl, hG⟩; have HRp := hid (Row.told2 H2.out hG); replace HRy := hid (HRy.out.turn2 hG.t); replace HRo := hid (HRo.out.turn2 hG.t); replace H2 := hid (H2.out.turn2 hG.t); have HLt := hid (fun (k : Nat) (e : (Value.slice qo M do_).ownBlock = some k) => ys_lt (own_low0 HRo.out.own) e); clear hG HF2) | (at_builtin; refine wpList_copy rfl (.tmp 94) (.tmp 95) rfl (by go_simp) X qp M1 dp (by go_simp) HM1.out HRp.out.own.arg (own_nil HRp.out.own) (by omega) ?_; intro qg dg w7 ho hb _ _; have HRg := hid (Row.fresh H2.out ho); replace H2 := hid (H2.out.next hb); replace HRo := hid (HRo.out.next hb); have c1 := conv_own HRo.out.own; have c2 := conv_own HRg.out.own; rw [HTT.out] at c1 c2; have HN1 := hid (HNm.out _ H2.out.low); clear ho hb) | (go_at_call 7; (with_reducible refine HN1.out.mono ?_); rintro e v1 ⟨rfl, hb⟩; replace H2 := hid (H2.out.next hb); have HN2 := hid (HNm.out _ H2.out.low); clear hb HN1 HNm) | (go_at_call 7; (with_reducible refine HN2.out.mono ?_); rintro e v2 ⟨rfl, hb⟩; replace H2 := hid (H2.out.next hb); have HE1 := hid (HEn.out _ _ _ _ H2.out.r1); clear hb HN2) | (go_at_call 10; (with_reducible refine HE1.out.mono ?_); rintro e v3 ⟨rfl, ht⟩; replace H2 := hid (H2.out.turn1 ht); have HN3 := hid (HNm2.out _ H2.out.low); clear ht HE1) | (go_at_call 7; (with_reducible refine HN3.out.mono ?_); rintro e v4 ⟨rfl, hb⟩; replace H2 := hid (H2.out.next hb); have HE2 := hid (HEn.out _ _ _ _ H2.out.r2); clear hb HN3) | (go_at_call 10; (with_reducible refine HE2.out.mono ?_); rintro e v5 ⟨rfl, ht⟩; replace H2 := hid (H2.out.turn2 ht); have HN4 := hid (HNm2.out _ H2.out.low); clear ht HE2) | (go_at_call 7; (with_reducible refine HN4.out.mono ?_); rintro e v6 ⟨rfl, hb⟩; replace H2 := hid (H2.out.next hb); have HD1 := hid (HDn.out _ _ _ _ H2.out.r1); clear hb HN4) | (go_at_call 11; (with_reducible refine HD1.out.mono ?_); rintro e v7 ⟨rfl, hw⟩; subst v7; have HD2 := hid (HDn.out _ _ _ _ H2.out.r2); clear HD1) | (go_at_call 11; (with_reducible refine HD2.out.mono ?_); rintro e v8 ⟨rfl, hw⟩; subst v8; have HT1 := hid (HTr.out _ _ _ _ H2.out.r1); clear HD2) | (go_at_call 13; (with_reducible refine HT1.out.mono ?_); rintro e v9 ⟨qt1, dt1, rfl, ho, hb⟩; have HO1 := hid ho; replace H2 := hid (H2.out.next hb); have HT2 := hid (HTr.out _ _ _ _ H2.out.r2); clear ho hb HT1) | (go_at_call 13; (with_reducible refine HT2.out.mono ?_); rintro e v10 ⟨qt2, dt2, rfl, ho, hb⟩; replace H2 := hid (H2.out.next hb); have HFs := hid (HFl.out _ qt1 qt2 dt1 dt2 (HO1.out.keep hb).fat ho.fat); clear ho hb HT2) | (go_at_call 12; (with_reducible refine HFs.out.mono ?_); rintro e v11 ⟨rfl, hb⟩; replace H2 := hid (H2.out.next hb); have HSu := hid (HSu0.out _ H2.out.low); clear hb HFs) | (go_at_call 8; (with_reducible refine HSu.out.mono ?_); rintro e v12 ⟨rfl, hb⟩; have HB12 := hid (below_out H2.out.low hb); clear hb HSu))
  go_ret
  exact ⟨rfl, HB12.out⟩
set_option maxRecDepth 20000 in
set_option maxHeartbeats 16000000 in
theorem bcuts_z2 (K N : Int) (b : B) (p : Option Addr) (n c : Nat) (at_ : Int) (hSl : SlOk p n c b) (hnn : n ≤ 140737488351232) (w : World) (ha : ArgAt w p b) (hE : EnvP w) (hEe : EnvE w) (h0 : newE K N (-1) = 0) (hn0 : n = 0) (hk : (fedX (newX K N (-1)) (b.take 0)).done = false) (hk2 : (fedX (newX K N (-1)) (b.take 0)).err ≠ 0) :
    Calls Tryd.prog 3 #[.agg #[.int .i64 K, .int .i64 N], .slice p n c, .int .i64 at_] w fun e w' => e = .returned (.bool true) ∧ Below w.heap.size w w' := by
  have hnI : ¬ (0 : Int) < (n : Int) := by omega
  have hI0 : InvX (newX K N (-1)) := inv_new h0 (by decide)
  obtain ⟨S0, hS0'⟩ : ∃ S0, newX K N (-1) = S0 := ⟨_, rfl⟩
  rw [hS0'] at hI0
  have hn := hSl.len
  have hov : overX (fedX S0 (b.take 0)) = true := by rw [hS0'] at hk hk2; unfold overX; rw [hk]; rw [Bool.false_or]; exact decide_eq_true hk2
  obtain ⟨c1, c2, c3⟩ := cut_over hov (b.drop 0)
  rw [List.take_append_drop] at c1 c2 c3
  have hl1 : (b.take 0).length = 0 := by rw [List.length_take]; omega
  have hl2 : (b.drop 0).length = n - 0 := by rw [List.length_drop]; omega
  obtain ⟨b1, hb1⟩ : ∃ b1, b.take 0 = b1 := ⟨_, rfl⟩
  obtain ⟨b2, hb2⟩ : ∃ b2, b.drop 0 = b2 := ⟨_, rfl⟩
  rw [hb1] at c1 c2 c3 hl1 hk hk2
  rw [hb2] at hl2
  obtain ⟨S1, hS1⟩ : ∃ S1, fedX S0 b1 = S1 := ⟨_, rfl⟩
  obtain ⟨S, hS⟩ : ∃ S, fedX S0 b = S := ⟨_, rfl⟩
  obtain ⟨X, hX⟩ : ∃ X, saidX S0 b = X := ⟨_, rfl⟩
  obtain ⟨X1, hX1⟩ : ∃ X1, saidX S0 b1 = X1 := ⟨_, rfl⟩
  obtain ⟨T, hT⟩ : ∃ T, tookX S0 b = T := ⟨_, rfl⟩
  obtain ⟨T1, hT1⟩ : ∃ T1, tookX S0 b1 = T1 := ⟨_, rfl⟩
  obtain ⟨M, hM⟩ : ∃ M, X.length = M := ⟨_, rfl⟩
  obtain ⟨M1, hM1⟩ : ∃ M1, X1.length = M1 := ⟨_, rfl⟩
  have hI1 : InvX S1 := by rw [← hS1]; exact inv_fed hI0 b1
  have hIS : InvX S := by rw [← hS]; exact inv_fed hI0 b
  have hM1l : M1 ≤ 140737488351232 := by rw [← hM1, ← hX1]; rcases said_le hI0 b1 with h5 | h5 <;> omega
  have hTl : T ≤ 140737488351232 := by have h5 := took_le S0 b; omega
  obtain ⟨D, hD⟩ : ∃ D, S.done = D := ⟨_, rfl⟩
  obtain ⟨E, hEr⟩ : ∃ E, errOf S.err = E := ⟨_, rfl⟩
  obtain ⟨E2, hE2⟩ : ∃ E2, errOf (shutX S).err = E2 := ⟨_, rfl⟩
  obtain ⟨tn, htn⟩ : ∃ tn, (trX (shutX S)).length = tn := ⟨_, rfl⟩
  obtain ⟨D2, hD2⟩ : ∃ D2, (shutX S).done = D2 := ⟨_, rfl⟩
  have htl : tn ≤ 64 := by rw [← htn]; exact tr_len (inv_shut hIS)
  rw [hS1, hS] at c1
  rw [hT, hT1] at c2
  rw [hX, hX1] at c3
  subst c1 c2 c3
  have hDe1 : S.done = false := by rw [← hS1]; rw [hS0'] at hk; exact hk
  obtain rfl : D = false := by rw [← hD]; exact hDe1
  have hEe1 : errOf S.err = .iface 47 (.int .i64 (S.err : Int)) := errOf_pos (by rw [← hS1]; rw [hS0'] at hk2; exact hk2)
  obtain rfl : E = .iface 47 (.int .i64 (S.err : Int)) := by rw [← hEr]; exact hEe1
  obtain ⟨TT, hTT⟩ : ∃ TT, str X = TT := ⟨_, rfl⟩
  have HB0 := hid (below_new w (frmO K N))
  have HX0 := hid (heap_alloc_new w (frmO K N))
  have HNw := hid (fun (W : World) (hb : Below w.heap.size w W) => new_as (K := K) (N := N) (m := -1) (by decide) h0 hS0' (hE.next hb))
  have HFx := hid (fun (W : World) (G : Nat → Prop) (g : Nat) (cp q : Option Addr) (d bb : Nat) (hd : BdAt G W g S0 cp) (ho : Own W bb (.slice q n d) b) (hp : ArgOut G q b) => feedx_as hd hI0 b q n d hn ho.cap (own_nil ho) ho.arg hp (by omega) hT hX hM hS hD hEr)
  have HFa := hid (fun (W : World) (G : Nat → Prop) (g : Nat) (cp q qy : Option Addr) (d dy k : Nat) (hd : BdAt G W g S0 cp) (P : Part qy b q k d 0) (hki : k = 0) (ha : ArgAt W qy b) (hp : ArgOut G q b1) => feedx_as hd hI0 b1 q k d (by omega) P.cap P.nil (by have h8 := P.arg W ha; rw [List.drop_zero, hki, hb1] at h8; exact h8) hp (by omega) hT1 hX1 hM1 hS1 hDe1 hEe1)
  have HNm := hid (fun (W : World) (hb : Below w.heap.size w W) => bnum_any S.err W (hEe.next hb))
  have HNm2 := hid (fun (W : World) (hb : Below w.heap.size w W) => bnum_any (shutX S).err W (hEe.next hb))
  rw [hEr] at HNm
  rw [hE2] at HNm2
  obtain ⟨k2, hk2e⟩ : ∃ k2 : Int, ((shutX S).err : Int) = k2 := ⟨_, rfl⟩
  rw [hk2e] at HNm2
  have HEn := hid (fun (W : World) (G : Nat → Prop) (g : Nat) (cp : Option Addr) (hd : BdAt G W g S cp) => end_as hd hE2)
  have HDn := hid (fun (W : World) (G : Nat → Prop) (g : Nat) (cp : Option Addr) (hd : BdAt G W g (shutX S) cp) => donex_any g D2 W (by have h8 := hd.cells.a4; rw [hD2] at h8; exact h8))
  have HTr := hid (fun (W : World) (G : Nat → Prop) (g : Nat) (cp : Option Addr) (hd : BdAt G W g (shutX S) cp) => tr_as hd (inv_shut hIS) htn)
  have HFl := hid (fun (W : World) (q q' : Option Addr) (d d' : Nat) (h1 : FAt W q (trX (shutX S))) (h2 : FAt W q' (trX (shutX S))) => bfields_same (trX (shutX S)) q q' tn d d' htn W h1 h2 (by omega))
  have HSu0 := hid (fun (W : World) (hb : Below w.heap.size w W) => sure_any W (hE.next hb))
  have HTT := hid hTT
  have HSl := hid hSl
  have HA := hid ha
  have HM := hid hM
  have HM1 := hid hM1
  clear hSl ha hE hEe h0 hI0 hS0' hn hov hl1 hl2 hb1 hb2 hk hk2 hS1 hS hX hX1 hT hT1 hM hM1 hI1 hIS hD hEr hE2 htn hD2 hDe1 hEe1 hTT hk2e hn0
  go_enter Tryd.func3, Tryd.ntmps3
  go_wp2_with (first | (go_at_call 6; clear HB0; (with_reducible refine (HNw.out _ HB1.out).mono ?_); rintro e w2 ⟨g2, cp2, rfl, hd2, hb⟩; have H2 := hid (two_new HZ0.out HD1.out HZ1.out hd2 hb); clear hb hd2 HNw HD1 HZ0 HZ1 HB1) | (go_at_call 6; (with_reducible refine (HNw.out _ HB0.out).mono ?_); rintro e w1 ⟨g1, cp1, rfl, hd1, hb⟩; have HB1 := hid (below_out HB0.out hb); have HD1 := hid hd1; have HZ0 := hid HB0.out; have HZ1 := hid hb; obtain ⟨y0, y1, _, _⟩ := cells2 (blk_next HX0.out hb); clear hb hd1) | (at_builtin; refine wpList_copy rfl (.tmp 60) (.tmp 61) rfl (by go_simp) b p n c (by go_simp) HSl.out.len (HA.out.next H2.out.low) HSl.out.nil (by omega) ?_; intro qx dx w3 ho hb _ _; have HRx := hid (Row.fresh H2.out ho); replace H2 := hid (H2.out.next hb); clear ho hb) | (at_builtin; refine wpList_copy rfl (.tmp 63) (.tmp 64) rfl (by go_simp) b p n c (by go_simp) HSl.out.len (HA.out.next H2.out.low) HSl.out.nil (by omega) ?_; intro qy dy w4 ho hb _ _; have HRy := hid (Row.fresh H2.out ho); replace H2 := hid (H2.out.next hb); replace HRx := hid (HRx.out.next hb); have HF1 := hid (HFx.out w4 _ g1 _ qx dx _ H2.out.r1 HRx.out.own HRx.out.self.1); obtain ⟨qa, da, hqa, Pa⟩ := part_h HRy.out.slok 0 (Nat.zero_le _); obtain ⟨qb, db, hqb, Pb⟩ := part_l HRy.out.slok 0 (Nat.zero_le _); have HQa := hid (show ∀ W, (Instr.sliceAt 24 (.slice qy n dy) none (some (.int .i64 0)) none).run Tryd.prog W = .ok (.slice qa 0 da) W from hqa); have HQb := hid (show ∀ W, (Instr.sliceAt 24 (.slice qy n dy) (some (.int .i64 0)) none none).run Tryd.prog W = .ok (.slice qb n db) W from hqb); have HPa := hid Pa; have HPb := hid (show Part qy b qb n db 0 from Pb); clear ho hb hqa hqb Pa Pb HFx) | (go_at_call 9; (with_reducible refine HF1.out.mono ?_); rintro e w5 ⟨qo, do_, G1, cq1, rfl, hG⟩; have HRo := hid (Row.told1 H2.out hG); replace HRy := hid (HRy.out.turn1 hG.t); replace H2 := hid (H2.out.turn1 hG.t); have HF2 := hid (HFa.out w5 _ g2 _ qa qy da dy 0 H2.out.r2 HPa.out rfl HRy.out.own.arg (HRy.out.out1 HPa.out).2); clear hG HF1 HFa HPa) | (refine wpList_sl rfl (.tmp 86) none (some (.tmp 87)) rfl (.slice qy n dy) (.slice qa 0 da) none (some (.int .i64 0)) rfl rfl (by go_simp) HQa.out ?_; clear HQa) | (go_at_call 9; (with_reducible refine HF2.out.mono ?_); rintro e w6 ⟨qp, dp, G2, cq2, rfl, hG⟩; have HRp := hid (Row.told2 H2.out hG); replace HRy := hid (HRy.out.turn2 hG.t); replace HRo := hid (HRo.out.turn2 hG.t); replace H2 := hid (H2.out.turn2 hG.t); have HLt := hid (fun (k : Nat) (e : (Value.slice qo M do_).ownBlock = some k) => ys_lt (own_low0 HRo.out.own) e); clear hG HF2) | (at_builtin; refine wpList_copy rfl (.tmp 94) (.tmp 95) rfl (by go_simp) X qp M1 dp (by go_simp) HM1.out HRp.out.own.arg (own_nil HRp.out.own) (by omega) ?_; intro qg dg w7 ho hb _ _; have HRg := hid (Row.fresh H2.out ho); replace H2 := hid (H2.out.next hb); replace HRo := hid (HRo.out.next hb); have c1 := conv_own HRo.out.own; have c2 := conv_own HRg.out.own; rw [HTT.out] at c1 c2; have HN1 := hid (HNm.out _ H2.out.low); clear ho hb) | (go_at_call 7; (with_reducible refine HN1.out.mono ?_); rintro e v1 ⟨rfl, hb⟩; replace H2 := hid (H2.out.next hb); have HN2 := hid (HNm.out _ H2.out.low); clear hb HN1 HNm) | (go_at_call 7; (with_reducible refine HN2.out.mono ?_); rintro e v2 ⟨rfl, hb⟩; replace H2 := hid (H2.out.next hb); have HE1 := hid (HEn.out _ _ _ _ H2.out.r1); clear hb HN2) | (go_at_call 10; (with_reducible refine HE1.out.mono ?_); rintro e v3 ⟨rfl, ht⟩; replace H2 := hid (H2.out.turn1 ht); have HN3 := hid (HNm2.out _ H2.out.low); clear ht HE1) | (go_at_call 7; (with_reducible refine HN3.out.mono ?_); rintro e v4 ⟨rfl, hb⟩; replace H2 := hid (H2.out.next hb); have HE2 := hid (HEn.out _ _ _ _ H2.out.r2); clear hb HN3) | (go_at_call 10; (with_reducible refine HE2.out.mono ?_); rintro e v5 ⟨rfl, ht⟩; replace H2 := hid (H2.out.turn2 ht); have HN4 := hid (HNm2.out _ H2.out.low); clear ht HE2) | (go_at_call 7; (with_reducible refine HN4.out.mono ?_); rintro e v6 ⟨rfl, hb⟩; replace H2 := hid (H2.out.next hb); have HD1 := hid (HDn.out _ _ _ _ H2.out.r1); clear hb HN4) | (go_at_call 11; (with_reducible refine HD1.out.mono ?_); rintro e v7 ⟨rfl, hw⟩; subst v7; have HD2 := hid (HDn.out _ _ _ _ H2.out.r2); clear HD1) | (go_at_call 11; (with_reducible refine HD2.out.mono ?_); rintro e v8 ⟨rfl, hw⟩; subst v8; have HT1 := hid (HTr.out _ _ _ _ H2.out.r1); clear HD2) | (go_at_call 13; (with_reducible refine HT1.out.mono ?_); rintro e v9 ⟨qt1, dt1, rfl, ho, hb⟩; have HO1 := hid ho; replace H2 := hid (H2.out.next hb); have HT2 := hid (HTr.out _ _ _ _ H2.out.r2); clear ho hb HT1) | (go_at_call 13; (with_reducible refine HT2.out.mono ?_); rintro e v10 ⟨qt2, dt2, rfl, ho, hb⟩; replace H2 := hid (H2.out.next hb); have HFs := hid (HFl.out _ qt1 qt2 dt1 dt2 (HO1.out.keep hb).fat ho.fat); clear ho hb HT2) | (go_at_call 12; (with_reducible refine HFs.out.mono ?_); rintro e v11 ⟨rfl, hb⟩; replace H2 := hid (H2.out.next hb); have HSu := hid (HSu0.out _ H2.out.low); clear hb HFs) | (go_at_call 8; (with_reducible refine HSu.out.mono ?_); rintro e v12 ⟨rfl, hb⟩; have HB12 := hid (below_out H2.out.low hb); clear hb HSu))
  go_ret
  exact ⟨rfl, HB12.out⟩
set_option maxRecDepth 20000 in
set_option maxHeartbeats 16000000 in
theorem bcuts_z3 (K N : Int) (b : B) (p : Option Addr) (n c : Nat) (at_ : Int) (hSl : SlOk p n c b) (hnn : n ≤ 140737488351232) (w : World) (ha : ArgAt w p b) (hE : EnvP w) (hEe : EnvE w) (h0 : newE K N (-1) = 0) (hn0 : n = 0) (hk : (fedX (newX K N (-1)) (b.take 0)).done = false) (hk2 : (fedX (newX K N (-1)) (b.take 0)).err = 0) :
    Calls Tryd.prog 3 #[.agg #[.int .i64 K, .int .i64 N], .slice p n c, .int .i64 at_] w fun e w' => e = .returned (.bool true) ∧ Below w.heap.size w w' := by
  have hnI : ¬ (0 : Int) < (n : Int) := by omega
  have hI0 : InvX (newX K N (-1)) := inv_new h0 (by decide)
  obtain ⟨S0, hS0'⟩ : ∃ S0, newX K N (-1) = S0 := ⟨_, rfl⟩
  rw [hS0'] at hI0
  have hn := hSl.len
  have hov : overX (fedX S0 (b.take 0)) = false := by rw [hS0'] at hk hk2; unfold overX; rw [hk, hk2]; rfl
  obtain ⟨c1, c2, c3⟩ := cut_on hov (b.drop 0)
  rw [List.take_append_drop] at c1 c2 c3
  have hl1 : (b.take 0).length = 0 := by rw [List.length_take]; omega
  have hl2 : (b.drop 0).length = n - 0 := by rw [List.length_drop]; omega
  obtain ⟨b1, hb1⟩ : ∃ b1, b.take 0 = b1 := ⟨_, rfl⟩
  obtain ⟨b2, hb2⟩ : ∃ b2, b.drop 0 = b2 := ⟨_, rfl⟩
  rw [hb1] at c1 c2 c3 hl1 hk hk2
  rw [hb2] at hl2
  obtain ⟨S1, hS1⟩ : ∃ S1, fedX S0 b1 = S1 := ⟨_, rfl⟩
  obtain ⟨S, hS⟩ : ∃ S, fedX S0 b = S := ⟨_, rfl⟩
  obtain ⟨X, hX⟩ : ∃ X, saidX S0 b = X := ⟨_, rfl⟩
  obtain ⟨X1, hX1⟩ : ∃ X1, saidX S0 b1 = X1 := ⟨_, rfl⟩
  obtain ⟨T, hT⟩ : ∃ T, tookX S0 b = T := ⟨_, rfl⟩
  obtain ⟨T1, hT1⟩ : ∃ T1, tookX S0 b1 = T1 := ⟨_, rfl⟩
  obtain ⟨M, hM⟩ : ∃ M, X.length = M := ⟨_, rfl⟩
  obtain ⟨M1, hM1⟩ : ∃ M1, X1.length = M1 := ⟨_, rfl⟩
  have hI1 : InvX S1 := by rw [← hS1]; exact inv_fed hI0 b1
  have hIS : InvX S := by rw [← hS]; exact inv_fed hI0 b
  have hM1l : M1 ≤ 140737488351232 := by rw [← hM1, ← hX1]; rcases said_le hI0 b1 with h5 | h5 <;> omega
  have hTl : T ≤ 140737488351232 := by have h5 := took_le S0 b; omega
  obtain ⟨D, hD⟩ : ∃ D, S.done = D := ⟨_, rfl⟩
  obtain ⟨E, hEr⟩ : ∃ E, errOf S.err = E := ⟨_, rfl⟩
  obtain ⟨E2, hE2⟩ : ∃ E2, errOf (shutX S).err = E2 := ⟨_, rfl⟩
  obtain ⟨tn, htn⟩ : ∃ tn, (trX (shutX S)).length = tn := ⟨_, rfl⟩
  obtain ⟨D2, hD2⟩ : ∃ D2, (shutX S).done = D2 := ⟨_, rfl⟩
  have htl : tn ≤ 64 := by rw [← htn]; exact tr_len (inv_shut hIS)
  rw [hS1] at c1 c2 c3
  rw [hb2, hS] at c1
  obtain ⟨T2, hT2⟩ : ∃ T2, tookX S1 b2 = T2 := ⟨_, rfl⟩
  obtain ⟨X2, hX2⟩ : ∃ X2, saidX S1 b2 = X2 := ⟨_, rfl⟩
  obtain ⟨M2, hM2⟩ : ∃ M2, X2.length = M2 := ⟨_, rfl⟩
  rw [hb2, hT, hT1, hT2] at c2
  rw [hb2, hX, hX1, hX2] at c3
  have hM2l : M1 + M2 ≤ 140737488355328 := by
    rw [← hM1, ← hM2, ← List.length_append, ← c3, ← hX]
    rcases said_le hI0 b with h5 | h5 <;> omega
  have hsum : ((T : Int) == (T1 : Int) + (T2 : Int)) = true := by rw [beq_iff_eq]; omega
  have hwT : IntKind.i64.wrap ((T1 : Int) + (T2 : Int)) = (T1 : Int) + (T2 : Int) := by rw [IntKind.wrap_i64]; omega
  have HC3 := hid c3
  have hDe1 : S1.done = false := by rw [← hS1]; rw [hS0'] at hk; exact hk
  have hEe1 : errOf S1.err = .nilIface := by rw [← hS1]; rw [hS0'] at hk2; rw [hk2]; rfl
  obtain ⟨TT, hTT⟩ : ∃ TT, str X = TT := ⟨_, rfl⟩
  have HB0 := hid (below_new w (frmO K N))
  have HX0 := hid (heap_alloc_new w (frmO K N))
  have HNw := hid (fun (W : World) (hb : Below w.heap.size w W) => new_as (K := K) (N := N) (m := -1) (by decide) h0 hS0' (hE.next hb))
  have HFx := hid (fun (W : World) (G : Nat → Prop) (g : Nat) (cp q : Option Addr) (d bb : Nat) (hd : BdAt G W g S0 cp) (ho : Own W bb (.slice q n d) b) (hp : ArgOut G q b) => feedx_as hd hI0 b q n d hn ho.cap (own_nil ho) ho.arg hp (by omega) hT hX hM hS hD hEr)
  have HFa := hid (fun (W : World) (G : Nat → Prop) (g : Nat) (cp q qy : Option Addr) (d dy k : Nat) (hd : BdAt G W g S0 cp) (P : Part qy b q k d 0) (hki : k = 0) (ha : ArgAt W qy b) (hp : ArgOut G q b1) => feedx_as hd hI0 b1 q k d (by omega) P.cap P.nil (by have h8 := P.arg W ha; rw [List.drop_zero, hki, hb1] at h8; exact h8) hp (by omega) hT1 hX1 hM1 hS1 hDe1 hEe1)
  have HFb := hid (fun (W : World) (G : Nat → Prop) (g : Nat) (cp q qy : Option Addr) (d dy k : Nat) (hd : BdAt G W g S1 cp) (P : Part qy b q k d 0) (hki : k = n - 0) (ha : ArgAt W qy b) (hp : ArgOut G q b2) => feedx_as hd hI1 b2 q k d (by omega) P.cap P.nil (by have h8 := P.arg W ha; rw [hb2, List.take_of_length_le (by omega)] at h8; exact h8) hp (by omega) hT2 hX2 hM2 c1.symm hD hEr)
  have HNm := hid (fun (W : World) (hb : Below w.heap.size w W) => bnum_any S.err W (hEe.next hb))
  have HNm2 := hid (fun (W : World) (hb : Below w.heap.size w W) => bnum_any (shutX S).err W (hEe.next hb))
  rw [hEr] at HNm
  rw [hE2] at HNm2
  obtain ⟨k1, hk1⟩ : ∃ k1 : Int, (S.err : Int) = k1 := ⟨_, rfl⟩
  obtain ⟨k2, hk2e⟩ : ∃ k2 : Int, ((shutX S).err : Int) = k2 := ⟨_, rfl⟩
  rw [hk1] at HNm
  rw [hk2e] at HNm2
  have HEn := hid (fun (W : World) (G : Nat → Prop) (g : Nat) (cp : Option Addr) (hd : BdAt G W g S cp) => end_as hd hE2)
  have HDn := hid (fun (W : World) (G : Nat → Prop) (g : Nat) (cp : Option Addr) (hd : BdAt G W g (shutX S) cp) => donex_any g D2 W (by have h8 := hd.cells.a4; rw [hD2] at h8; exact h8))
  have HTr := hid (fun (W : World) (G : Nat → Prop) (g : Nat) (cp : Option Addr) (hd : BdAt G W g (shutX S) cp) => tr_as hd (inv_shut hIS) htn)
  have HFl := hid (fun (W : World) (q q' : Option Addr) (d d' : Nat) (h1 : FAt W q (trX (shutX S))) (h2 : FAt W q' (trX (shutX S))) => bfields_same (trX (shutX S)) q q' tn d d' htn W h1 h2 (by omega))
  have HSu0 := hid (fun (W : World) (hb : Below w.heap.size w W) => sure_any W (hE.next hb))
  have HTT := hid hTT
  have HSl := hid hSl
  have HA := hid ha
  have HM := hid hM
  have HM1 := hid hM1
  have HM2 := hid hM2
  clear hSl ha hE hEe h0 hI0 hS0' hn hov hl1 hl2 hb1 hb2 hk hk2 hS1 hS hX hX1 hT hT1 hM hM1 hI1 hIS hD hEr hE2 htn hD2 hDe1 c1 c2 c3 hT2 hX2 hM2 hEe1 hTT hk1 hk2e hn0
  go_enter Tryd.func3, Tryd.ntmps3
  go_wp2_with (first | (go_at_call 6; clear HB0; (with_reducible refine (HNw.out _ HB1.out).mono ?_); rintro e w2 ⟨g2, cp2, rfl, hd2, hb⟩; have H2 := hid (two_new HZ0.out HD1.out HZ1.out hd2 hb); clear hb hd2 HNw HD1 HZ0 HZ1 HB1) | (go_at_call 6; (with_reducible refine (HNw.out _ HB0.out).mono ?_); rintro e w1 ⟨g1, cp1, rfl, hd1, hb⟩; have HB1 := hid (below_out HB0.out hb); have HD1 := hid hd1; have HZ0 := hid HB0.out; have HZ1 := hid hb; obtain ⟨y0, y1, _, _⟩ := cells2 (blk_next HX0.out hb); clear hb hd1) | (at_builtin; refine wpList_copy rfl (.tmp 60) (.tmp 61) rfl (by go_simp) b p n c (by go_simp) HSl.out.len (HA.out.next H2.out.low) HSl.out.nil (by omega) ?_; intro qx dx w3 ho hb _ _; have HRx := hid (Row.fresh H2.out ho); replace H2 := hid (H2.out.next hb); clear ho hb) | (at_builtin; refine wpList_copy rfl (.tmp 63) (.tmp 64) rfl (by go_simp) b p n c (by go_simp) HSl.out.len (HA.out.next H2.out.low) HSl.out.nil (by omega) ?_; intro qy dy w4 ho hb _ _; have HRy := hid (Row.fresh H2.out ho); replace H2 := hid (H2.out.next hb); replace HRx := hid (HRx.out.next hb); have HF1 := hid (HFx.out w4 _ g1 _ qx dx _ H2.out.r1 HRx.out.own HRx.out.self.1); obtain ⟨qa, da, hqa, Pa⟩ := part_h HRy.out.slok 0 (Nat.zero_le _); obtain ⟨qb, db, hqb, Pb⟩ := part_l HRy.out.slok 0 (Nat.zero_le _); have HQa := hid (show ∀ W, (Instr.sliceAt 24 (.slice qy n dy) none (some (.int .i64 0)) none).run Tryd.prog W = .ok (.slice qa 0 da) W from hqa); have HQb := hid (show ∀ W, (Instr.sliceAt 24 (.slice qy n dy) (some (.int .i64 0)) none none).run Tryd.prog W = .ok (.slice qb n db) W from hqb); have HPa := hid Pa; have HPb := hid (show Part qy b qb n db 0 from Pb); clear ho hb hqa hqb Pa Pb HFx) | (go_at_call 9; (with_reducible refine HF1.out.mono ?_); rintro e w5 ⟨qo, do_, G1, cq1, rfl, hG⟩; have HRo := hid (Row.told1 H2.out hG); replace HRy := hid (HRy.out.turn1 hG.t); replace H2 := hid (H2.out.turn1 hG.t); have HF2 := hid (HFa.out w5 _ g2 _ qa qy da dy 0 H2.out.r2 HPa.out rfl HRy.out.own.arg (HRy.out.out1 HPa.out).2); clear hG HF1 HFa HPa) | (refine wpList_sl rfl (.tmp 86) none (some (.tmp 87)) rfl (.slice qy n dy) (.slice qa 0 da) none (some (.int .i64 0)) rfl rfl (by go_simp) HQa.out ?_; clear HQa) | (go_at_call 9; (with_reducible refine HF2.out.mono ?_); rintro e w6 ⟨qp, dp, G2, cq2, rfl, hG⟩; have HRp := hid (Row.told2 H2.out hG); replace HRy := hid (HRy.out.turn2 hG.t); replace HRo := hid (HRo.out.turn2 hG.t); replace H2 := hid (H2.out.turn2 hG.t); have HLt := hid (fun (k : Nat) (e : (Value.slice qo M do_).ownBlock = some k) => ys_lt (own_low0 HRo.out.own) e); clear hG HF2) | (at_builtin; refine wpList_copy rfl (.tmp 94) (.tmp 95) rfl (by go_simp) X1 qp M1 dp (by go_simp) HM1.out HRp.out.own.arg (own_nil HRp.out.own) (by omega) ?_; intro qg dg w7 ho hb _ _; have HRg := hid (Row.fresh H2.out ho); have HGe := hid (fun (k : Nat) (e : (Value.slice qg M1 dg).ownBlock = some k) => own_ge ho e); replace H2 := hid (H2.out.next hb); replace HRo := hid (HRo.out.next hb); replace HRy := hid (HRy.out.next hb); have HF3 := hid (HFb.out w7 _ g2 _ qb qy db dy n H2.out.r2 HPb.out rfl HRy.out.own.arg (HRy.out.out1 HPb.out).2); clear ho hb HFb) | (refine wpList_sl rfl (.tmp 105) (some (.tmp 106)) none rfl (.slice qy n dy) (.slice qb n db) (some (.int .i64 0)) none rfl (by go_simp) rfl HQb.out ?_; clear HQb) | (go_at_call 9; (with_reducible refine HF3.out.mono ?_); rintro e w8 ⟨qr, dr, G3, cq3, rfl, hG⟩; have HRr := hid (Row.told2 H2.out hG); replace HRg := hid (HRg.out.turn2 hG.t); replace HRo := hid (HRo.out.turn2 hG.t); replace H2 := hid (H2.out.turn2 hG.t); clear hG HF3) | (at_builtin; refine wpList_append_any rfl (.tmp 116) (.tmp 117) rfl w.heap.size (.slice qg M1 dg) M1 X1 X2 (by go_simp) HRg.out.own HM1.out qr M2 dr (by go_simp) HM2.out HRr.out.own.arg (own_nil HRr.out.own) hM2l H2.out.low.size ?_; intro q9 d9 w9 ho hg _; have c1 := conv_own (own_only HRo.out.own (Only.grown (F := fun j => (Value.slice qg M1 dg).ownBlock = some j) hg (fun j e => e)) (fun k e e2 => by have h5 := HLt.out k e; have h6 := HGe.out k e2; omega)); replace H2 := hid (H2.out.grow HRg.out hg); have c2 := conv_own ho; rw [← HC3.out] at c2; rw [HTT.out] at c1 c2; have HN1 := hid (HNm.out _ H2.out.low); clear ho hg) | (go_at_call 7; (with_reducible refine HN1.out.mono ?_); rintro e v1 ⟨rfl, hb⟩; replace H2 := hid (H2.out.next hb); have HN2 := hid (HNm.out _ H2.out.low); clear hb HN1 HNm) | (go_at_call 7; (with_reducible refine HN2.out.mono ?_); rintro e v2 ⟨rfl, hb⟩; replace H2 := hid (H2.out.next hb); have HE1 := hid (HEn.out _ _ _ _ H2.out.r1); clear hb HN2) | (go_at_call 10; (with_reducible refine HE1.out.mono ?_); rintro e v3 ⟨rfl, ht⟩; replace H2 := hid (H2.out.turn1 ht); have HN3 := hid (HNm2.out _ H2.out.low); clear ht HE1) | (go_at_call 7; (with_reducible refine HN3.out.mono ?_); rintro e v4 ⟨rfl, hb⟩; replace H2 := hid (H2.out.next hb); have HE2 := hid (HEn.out _ _ _ _ H2.out.r2); clear hb HN3) | (go_at_call 10; (with_reducible refine HE2.out.mono ?_); rintro e v5 ⟨rfl, ht⟩; replace H2 := hid (H2.out.turn2 ht); have HN4 := hid (HNm2.out _ H2.out.low); clear ht HE2) | (go_at_call 7; (with_reducible refine HN4.out.mono ?_); rintro e v6 ⟨rfl, hb⟩; replace H2 := hid (H2.out.next hb); have HD1 := hid (HDn.out _ _ _ _ H2.out.r1); clear hb HN4) | (go_at_call 11; (with_reducible refine HD1.out.mono ?_); rintro e v7 ⟨rfl, hw⟩; subst v7; have HD2 := hid (HDn.out _ _ _ _ H2.out.r2); clear HD1) | (go_at_call 11; (with_reducible refine HD2.out.mono ?_); rintro e v8 ⟨rfl, hw⟩; subst v8; have HT1 := hid (HTr.out _ _ _ _ H2.out.r1); clear HD2) | (go_at_call 13; (with_reducible refine HT1.out.mono ?_); rintro e v9 ⟨qt1, dt1, rfl, ho, hb⟩; have HO1 := hid ho; replace H2 := hid (H2.out.next hb); have HT2 := hid (HTr.out _ _ _ _ H2.out.r2); clear ho hb HT1) | (go_at_call 13; (with_reducible refine HT2.out.mono ?_); rintro e v10 ⟨qt2, dt2, rfl, ho, hb⟩; replace H2 := hid (H2.out.next hb); have HFs := hid (HFl.out _ qt1 qt2 dt1 dt2 (HO1.out.keep hb).fat ho.fat); clear ho hb HT2) | (go_at_call 12; (with_reducible refine HFs.out.mono ?_); rintro e v11 ⟨rfl, hb⟩; replace H2 := hid (H2.out.next hb); have HSu := hid (HSu0.out _ H2.out.low); clear hb HFs) | (go_at_call 8; (with_reducible refine HSu.out.mono ?_); rintro e v12 ⟨rfl, hb⟩; have HB12 := hid (below_out H2.out.low hb); clear hb HSu))
  go_ret
  exact ⟨rfl, HB12.out⟩
set_option maxRecDepth 20000 in
set_option maxHeartbeats 16000000 in
theorem bcuts_s1 (K N : Int) (b : B) (p : Option Addr) (n c : Nat) (at_ : Int) (i : Nat) (hSl : SlOk p n c b) (hnn : n ≤ 140737488351232) (w : World) (ha : ArgAt w p b) (hE : EnvP w) (hEe : EnvE w) (h0 : newE K N (-1) = 0) (hn0 : 0 < n) (hi : (IntKind.u64.wrap at_).tmod (n : Int) = (i : Int)) (hil : i ≤ n) (hk : (fedX (newX K N (-1)) (b.take i)).done = true) :
    Calls Tryd.prog 3 #[.agg #[.int .i64 K, .int .i64 N], .slice p n c, .int .i64 at_] w fun e w' => e = .returned (.bool true) ∧ Below w.heap.size w w' := by
  have hnI : (0 : Int) < (n : Int) := by omega
  have HI : Value.int .i64 (wrap64 ((IntKind.u64.wrap at_).tmod (n : Int))) = .int .i64 (i : Int) := by rw [hi, wrap_small (i := i) (x := n) hil (by omega)]
  have hwn := wrapU (n := n) (by omega)
  have hdz : ¬ IntKind.u64.wrap (n : Int) = 0 := by rw [wrapU (by omega)]; omega
  have hdz2 : (IntKind.u64.wrap (n : Int) == 0) = false := by simpa using hdz
  have hI0 : InvX (newX K N (-1)) := inv_new h0 (by decide)
  obtain ⟨S0, hS0'⟩ : ∃ S0, newX K N (-1) = S0 := ⟨_, rfl⟩
  rw [hS0'] at hI0
  have hn := hSl.len
  have hov : overX (fedX S0 (b.take i)) = true := by rw [hS0'] at hk ; unfold overX; rw [hk]; simp
  obtain ⟨c1, c2, c3⟩ := cut_over hov (b.drop i)
  rw [List.take_append_drop] at c1 c2 c3
  have hl1 : (b.take i).length = i := by rw [List.length_take]; omega
  have hl2 : (b.drop i).length = n - i := by rw [List.length_drop]; omega
  obtain ⟨b1, hb1⟩ : ∃ b1, b.take i = b1 := ⟨_, rfl⟩
  obtain ⟨b2, hb2⟩ : ∃ b2, b.drop i = b2 := ⟨_, rfl⟩
  rw [hb1] at c1 c2 c3 hl1 hk
  rw [hb2] at hl2
  obtain ⟨S1, hS1⟩ : ∃ S1, fedX S0 b1 = S1 := ⟨_, rfl⟩
  obtain ⟨S, hS⟩ : ∃ S, fedX S0 b = S := ⟨_, rfl⟩
  obtain ⟨X, hX⟩ : ∃ X, saidX S0 b = X := ⟨_, rfl⟩
  obtain ⟨X1, hX1⟩ : ∃ X1, saidX S0 b1 = X1 := ⟨_, rfl⟩
  obtain ⟨T, hT⟩ : ∃ T, tookX S0 b = T := ⟨_, rfl⟩
  obtain ⟨T1, hT1⟩ : ∃ T1, tookX S0 b1 = T1 := ⟨_, rfl⟩
  obtain ⟨M, hM⟩ : ∃ M, X.length = M := ⟨_, rfl⟩
  obtain ⟨M1, hM1⟩ : ∃ M1, X1.length = M1 := ⟨_, rfl⟩
  have hI1 : InvX S1 := by rw [← hS1]; exact inv_fed hI0 b1
  have hIS : InvX S := by rw [← hS]; exact inv_fed hI0 b
  have hM1l : M1 ≤ 140737488351232 := by rw [← hM1, ← hX1]; rcases said_le hI0 b1 with h5 | h5 <;> omega
  have hTl : T ≤ 140737488351232 := by have h5 := took_le S0 b; omega
  obtain ⟨D, hD⟩ : ∃ D, S.done = D := ⟨_, rfl⟩
  obtain ⟨E, hEr⟩ : ∃ E, errOf S.err = E := ⟨_, rfl⟩
  obtain ⟨E2, hE2⟩ : ∃ E2, errOf (shutX S).err = E2 := ⟨_, rfl⟩
  obtain ⟨tn, htn⟩ : ∃ tn, (trX (shutX S)).length = tn := ⟨_, rfl⟩
  obtain ⟨D2, hD2⟩ : ∃ D2, (shutX S).done = D2 := ⟨_, rfl⟩
  have htl : tn ≤ 64 := by rw [← htn]; exact tr_len (inv_shut hIS)
  rw [hS1, hS] at c1
  rw [hT, hT1] at c2
  rw [hX, hX1] at c3
  subst c1 c2 c3
  have hDe1 : S.done = true := by rw [← hS1]; rw [hS0'] at hk; exact hk
  obtain rfl : D = true := by rw [← hD]; exact hDe1
  have hEe1 : errOf S.err = E := hEr
  obtain ⟨TT, hTT⟩ : ∃ TT, str X = TT := ⟨_, rfl⟩
  have HB0 := hid (below_new w (frmO K N))
  have HX0 := hid (heap_alloc_new w (frmO K N))
  have HNw := hid (fun (W : World) (hb : Below w.heap.size w W) => new_as (K := K) (N := N) (m := -1) (by decide) h0 hS0' (hE.next hb))
  have HFx := hid (fun (W : World) (G : Nat → Prop) (g : Nat) (cp q : Option Addr) (d bb : Nat) (hd : BdAt G W g S0 cp) (ho : Own W bb (.slice q n d) b) (hp : ArgOut G q b) => feedx_as hd hI0 b q n d hn ho.cap (own_nil ho) ho.arg hp (by omega) hT hX hM hS hD hEr)
  have HFa := hid (fun (W : World) (G : Nat → Prop) (g : Nat) (cp q qy : Option Addr) (d dy k : Nat) (hd : BdAt G W g S0 cp) (P : Part qy b q k d 0) (hki : k = i) (ha : ArgAt W qy b) (hp : ArgOut G q b1) => feedx_as hd hI0 b1 q k d (by omega) P.cap P.nil (by have h8 := P.arg W ha; rw [List.drop_zero, hki, hb1] at h8; exact h8) hp (by omega) hT1 hX1 hM1 hS1 hDe1 hEe1)
  have HNm := hid (fun (W : World) (hb : Below w.heap.size w W) => bnum_any S.err W (hEe.next hb))
  have HNm2 := hid (fun (W : World) (hb : Below w.heap.size w W) => bnum_any (shutX S).err W (hEe.next hb))
  rw [hEr] at HNm
  rw [hE2] at HNm2
  obtain ⟨k1, hk1⟩ : ∃ k1 : Int, (S.err : Int) = k1 := ⟨_, rfl⟩
  obtain ⟨k2, hk2e⟩ : ∃ k2 : Int, ((shutX S).err : Int) = k2 := ⟨_, rfl⟩
  rw [hk1] at HNm
  rw [hk2e] at HNm2
  have HEn := hid (fun (W : World) (G : Nat → Prop) (g : Nat) (cp : Option Addr) (hd : BdAt G W g S cp) => end_as hd hE2)
  have HDn := hid (fun (W : World) (G : Nat → Prop) (g : Nat) (cp : Option Addr) (hd : BdAt G W g (shutX S) cp) => donex_any g D2 W (by have h8 := hd.cells.a4; rw [hD2] at h8; exact h8))
  have HTr := hid (fun (W : World) (G : Nat → Prop) (g : Nat) (cp : Option Addr) (hd : BdAt G W g (shutX S) cp) => tr_as hd (inv_shut hIS) htn)
  have HFl := hid (fun (W : World) (q q' : Option Addr) (d d' : Nat) (h1 : FAt W q (trX (shutX S))) (h2 : FAt W q' (trX (shutX S))) => bfields_same (trX (shutX S)) q q' tn d d' htn W h1 h2 (by omega))
  have HSu0 := hid (fun (W : World) (hb : Below w.heap.size w W) => sure_any W (hE.next hb))
  have HTT := hid hTT
  have HSl := hid hSl
  have HA := hid ha
  have HM := hid hM
  have HM1 := hid hM1
  have HIl := hid hil
  clear hSl ha hE hEe h0 hI0 hS0' hn hov hl1 hl2 hb1 hb2 hk hS1 hS hX hX1 hT hT1 hM hM1 hI1 hIS hD hEr hE2 htn hD2 hDe1 hEe1 hTT hk1 hk2e hn0 hi
  go_enter Tryd.func3, Tryd.ntmps3
  go_wp2_with (first | (go_at_call 6; clear HB0; (with_reducible refine (HNw.out _ HB1.out).mono ?_); rintro e w2 ⟨g2, cp2, rfl, hd2, hb⟩; have H2 := hid (two_new HZ0.out HD1.out HZ1.out hd2 hb); clear hb hd2 HNw HD1 HZ0 HZ1 HB1) | (go_at_call 6; (with_reducible refine (HNw.out _ HB0.out).mono ?_); rintro e w1 ⟨g1, cp1, rfl, hd1, hb⟩; have HB1 := hid (below_out HB0.out hb); have HD1 := hid hd1; have HZ0 := hid HB0.out; have HZ1 := hid hb; obtain ⟨y0, y1, _, _⟩ := cells2 (blk_next HX0.out hb); clear hb hd1) | (at_builtin; refine wpList_copy rfl (.tmp 60) (.tmp 61) rfl (by go_simp) b p n c (by go_simp) HSl.out.len (HA.out.next H2.out.low) HSl.out.nil (by omega) ?_; intro qx dx w3 ho hb _ _; have HRx := hid (Row.fresh H2.out ho); replace H2 := hid (H2.out.next hb); clear ho hb) | (at_builtin; refine wpList_copy rfl (.tmp 63) (.tmp 64) rfl (by go_simp) b p n c (by go_simp) HSl.out.len (HA.out.next H2.out.low) HSl.out.nil (by omega) ?_; intro qy dy w4 ho hb _ _; have HRy := hid (Row.fresh H2.out ho); replace H2 := hid (H2.out.next hb); replace HRx := hid (HRx.out.next hb); have HF1 := hid (HFx.out w4 _ g1 _ qx dx _ H2.out.r1 HRx.out.own HRx.out.self.1); obtain ⟨qa, da, hqa, Pa⟩ := part_h HRy.out.slok i HIl.out; obtain ⟨qb, db, hqb, Pb⟩ := part_l HRy.out.slok i HIl.out; have HQa := hid hqa; have HQb := hid hqb; have HPa := hid Pa; have HPb := hid Pb; clear ho hb hqa hqb Pa Pb HFx) | (go_at_call 9; (with_reducible refine HF1.out.mono ?_); rintro e w5 ⟨qo, do_, G1, cq1, rfl, hG⟩; have HRo := hid (Row.told1 H2.out hG); replace HRy := hid (HRy.out.turn1 hG.t); replace H2 := hid (H2.out.turn1 hG.t); have HF2 := hid (HFa.out w5 _ g2 _ qa qy da dy i H2.out.r2 HPa.out rfl HRy.out.own.arg (HRy.out.out1 HPa.out).2); clear hG HF1 HFa HPa) | (refine wpList_sl rfl (.tmp 86) none (some (.tmp 87)) rfl (.slice qy n dy) (.slice qa i da) none (some (.int .i64 (i : Int))) rfl rfl (by go_simp) HQa.out ?_; clear HQa) | (go_at_call 9; (with_reducible refine HF2.out.mono ?_); rintro e w6 ⟨qp, dp, G2, cq2, rfl, hG⟩; have HRp := hid (Row.told2 H2.out hG); replace HRy := hid (HRy.out.turn2 hG.t); replace HRo := hid (HRo.out.turn2 hG.t); replace H2 := hid (H2.out.turn2 hG.t); have HLt := hid (fun (k : Nat) (e : (Value.slice qo M do_).ownBlock = some k) => ys_lt (own_low0 HRo.out.own) e); clear hG HF2) | (at_builtin; refine wpList_copy rfl (.tmp 94) (.tmp 95) rfl (by go_simp) X qp M1 dp (by go_simp) HM1.out HRp.out.own.arg (own_nil HRp.out.own) (by omega) ?_; intro qg dg w7 ho hb _ _; have HRg := hid (Row.fresh H2.out ho); replace H2 := hid (H2.out.next hb); replace HRo := hid (HRo.out.next hb); have c1 := conv_own HRo.out.own; have c2 := conv_own HRg.out.own; rw [HTT.out] at c1 c2; have HN1 := hid (HNm.out _ H2.out.low); clear ho hb) | (go_at_call 7; (with_reducible refine HN1.out.mono ?_); rintro e v1 ⟨rfl, hb⟩; replace H2 := hid (H2.out.next hb); have HN2 := hid (HNm.out _ H2.out.low); clear hb HN1 HNm) | (go_at_call 7; (with_reducible refine HN2.out.mono ?_); rintro e v2 ⟨rfl, hb⟩; replace H2 := hid (H2.out.next hb); have HE1 := hid (HEn.out _ _ _ _ H2.out.r1); clear hb HN2) | (go_at_call 10; (with_reducible refine HE1.out.mono ?_); rintro e v3 ⟨rfl, ht⟩; replace H2 := hid (H2.out.turn1 ht); have HN3 := hid (HNm2.out _ H2.out.low); clear ht HE1) | (go_at_call 7; (with_reducible refine HN3.out.mono ?_); rintro e v4 ⟨rfl, hb⟩; replace H2 := hid (H2.out.next hb); have HE2 := hid (HEn.out _ _ _ _ H2.out.r2); clear hb HN3) | (go_at_call 10; (with_reducible refine HE2.out.mono ?_); rintro e v5 ⟨rfl, ht⟩; replace H2 := hid (H2.out.turn2 ht); have HN4 := hid (HNm2.out _ H2.out.low); clear ht HE2) | (go_at_call 7; (with_reducible refine HN4.out.mono ?_); rintro e v6 ⟨rfl, hb⟩; replace H2 := hid (H2.out.next hb); have HD1 := hid (HDn.out _ _ _ _ H2.out.r1); clear hb HN4) | (go_at_call 11; (with_reducible refine HD1.out.mono ?_); rintro e v7 ⟨rfl, hw⟩; subst v7; have HD2 := hid (HDn.out _ _ _ _ H2.out.r2); clear HD1) | (go_at_call 11; (with_reducible refine HD2.out.mono ?_); rintro e v8 ⟨rfl, hw⟩; subst v8; have HT1 := hid (HTr.out _ _ _ _ H2.out.r1); clear HD2) | (go_at_call 13; (with_reducible refine HT1.out.mono ?_); rintro e v9 ⟨qt1, dt1, rfl, ho, hb⟩; have HO1 := hid ho; replace H2 := hid (H2.out.next hb); have HT2 := hid (HTr.out _ _ _ _ H2.out.r2); clear ho hb HT1) | (go_at_call 13; (with_reducible refine HT2.out.mono ?_); rintro e v10 ⟨qt2, dt2, rfl, ho, hb⟩; replace H2 := hid (H2.out.next hb); have HFs := hid (HFl.out _ qt1 qt2 dt1 dt2 (HO1.out.keep hb).fat ho.fat); clear ho hb HT2) | (go_at_call 12; (with_reducible refine HFs.out.mono ?_); rintro e v11 ⟨rfl, hb⟩; replace H2 := hid (H2.out.next hb); have HSu := hid (HSu0.out _ H2.out.low); clear hb HFs) | (go_at_call 8; (with_reducible refine HSu.out.mono ?_); rintro e v12 ⟨rfl, hb⟩; have HB12 := hid (below_out H2.out.low hb); clear hb HSu))
  go_ret
  exact ⟨rfl, HB12.out⟩
set_option maxRecDepth 20000 in
set_option maxHeartbeats 16000000 in
theorem bcuts_s2 (K N : Int) (b : B) (p : Option Addr) (n c : Nat) (at_ : Int) (i : Nat) (hSl : SlOk p n c b) (hnn : n ≤ 140737488351232) (w : World) (ha : ArgAt w p b) (hE : EnvP w) (hEe : EnvE w) (h0 : newE K N (-1) = 0) (hn0 : 0 < n) (hi : (IntKind.u64.wrap at_).tmod (n : Int) = (i : Int)) (hil : i ≤ n) (hk : (fedX (newX K N (-1)) (b.take i)).done = false) (hk2 : (fedX (newX K N (-1)) (b.take i)).err ≠ 0) :
    Calls Tryd.prog 3 #[.agg #[.int .i64 K, .int .i64 N], .slice p n c, .int .i64 at_] w fun e w' => e = .returned (.bool true) ∧ Below w.heap.size w w' := by
  have hnI : (0 : Int) < (n : Int) := by omega
  have HI : Value.int .i64 (wrap64 ((IntKind.u64.wrap at_).tmod (n : Int))) = .int .i64 (i : Int) := by rw [hi, wrap_small (i := i) (x := n) hil (by omega)]
  have hwn := wrapU (n := n) (by omega)
  have hdz : ¬ IntKind.u64.wrap (n : Int) = 0 := by rw [wrapU (by omega)]; omega
  have hdz2 : (IntKind.u64.wrap (n : Int) == 0) = false := by simpa using hdz
  have hI0 : InvX (newX K N (-1)) := inv_new h0 (by decide)
  obtain ⟨S0, hS0'⟩ : ∃ S0, newX K N (-1) = S0 := ⟨_, rfl⟩
  rw [hS0'] at hI0
  have hn := hSl.len
  have hov : overX (fedX S0 (b.take i)) = true := by rw [hS0'] at hk hk2; unfold overX; rw [hk]; rw [Bool.false_or]; exact decide_eq_true hk2
  obtain ⟨c1, c2, c3⟩ := cut_over hov (b.drop i)
  rw [List.take_append_drop] at c1 c2 c3
  have hl1 : (b.take i).length = i := by rw [List.length_take]; omega
  have hl2 : (b.drop i).length = n - i := by rw [List.length_drop]; omega
  obtain ⟨b1, hb1⟩ : ∃ b1, b.take i = b1 := ⟨_, rfl⟩
  obtain ⟨b2, hb2⟩ : ∃ b2, b.drop i = b2 := ⟨_, rfl⟩
  rw [hb1] at c1 c2 c3 hl1 hk hk2
  rw [hb2] at hl2
  obtain ⟨S1, hS1⟩ : ∃ S1, fedX S0 b1 = S1 := ⟨_, rfl⟩
  obtain ⟨S, hS⟩ : ∃ S, fedX S0 b = S := ⟨_, rfl⟩
  obtain ⟨X, hX⟩ : ∃ X, saidX S0 b = X := ⟨_, rfl⟩
  obtain ⟨X1, hX1⟩ : ∃ X1, saidX S0 b1 = X1 := ⟨_, rfl⟩
  obtain ⟨T, hT⟩ : ∃ T, tookX S0 b = T := ⟨_, rfl⟩
  obtain ⟨T1, hT1⟩ : ∃ T1, tookX S0 b1 = T1 := ⟨_, rfl⟩
  obtain ⟨M, hM⟩ : ∃ M, X.length = M := ⟨_, rfl⟩
  obtain ⟨M1, hM1⟩ : ∃ M1, X1.length = M1 := ⟨_, rfl⟩
  have hI1 : InvX S1 := by rw [← hS1]; exact inv_fed hI0 b1
  have hIS : InvX S := by rw [← hS]; exact inv_fed hI0 b
  have hM1l : M1 ≤ 140737488351232 := by rw [← hM1, ← hX1]; rcases said_le hI0 b1 with h5 | h5 <;> omega
  have hTl : T ≤ 140737488351232 := by have h5 := took_le S0 b; omega
  obtain ⟨D, hD⟩ : ∃ D, S.done = D := ⟨_, rfl⟩
  obtain ⟨E, hEr⟩ : ∃ E, errOf S.err = E := ⟨_, rfl⟩
  obtain ⟨E2, hE2⟩ : ∃ E2, errOf (shutX S).err = E2 := ⟨_, rfl⟩
  obtain ⟨tn, htn⟩ : ∃ tn, (trX (shutX S)).length = tn := ⟨_, rfl⟩
  obtain ⟨D2, hD2⟩ : ∃ D2, (shutX S).done = D2 := ⟨_, rfl⟩
  have htl : tn ≤ 64 := by rw [← htn]; exact tr_len (inv_shut hIS)
  rw [hS1, hS] at c1
  rw [hT, hT1] at c2
  rw [hX, hX1] at c3
  subst c1 c2 c3
  have hDe1 : S.done = false := by rw [← hS1]; rw [hS0'] at hk; exact hk
  obtain rfl : D = false := by rw [← hD]; exact hDe1
  have hEe1 : errOf S.err = .iface 47 (.int .i64 (S.err : Int)) := errOf_pos (by rw [← hS1]; rw [hS0'] at hk2; exact hk2)
  obtain rfl : E = .iface 47 (.int .i64 (S.err : Int)) := by rw [← hEr]; exact hEe1
  obtain ⟨TT, hTT⟩ : ∃ TT, str X = TT := ⟨_, rfl⟩
  have HB0 := hid (below_new w (frmO K N))
  have HX0 := hid (heap_alloc_new w (frmO K N))
  have HNw := hid (fun (W : World) (hb : Below w.heap.size w W) => new_as (K := K) (N := N) (m := -1) (by decide) h0 hS0' (hE.next hb))
  have HFx := hid (fun (W : World) (G : Nat → Prop) (g : Nat) (cp q : Option Addr) (d bb : Nat) (hd : BdAt G W g S0 cp) (ho : Own W bb (.slice q n d) b) (hp : ArgOut G q b) => feedx_as hd hI0 b q n d hn ho.cap (own_nil ho) ho.arg hp (by omega) hT hX hM hS hD hEr)
  have HFa := hid (fun (W : World) (G : Nat → Prop) (g : Nat) (cp q qy : Option Addr) (d dy k : Nat) (hd : BdAt G W g S0 cp) (P : Part qy b q k d 0) (hki : k = i) (ha : ArgAt W qy b) (hp : ArgOut G q b1) => feedx_as hd hI0 b1 q k d (by omega) P.cap P.nil (by have h8 := P.arg W ha; rw [List.drop_zero, hki, hb1] at h8; exact h8) hp (by omega) hT1 hX1 hM1 hS1 hDe1 hEe1)
  have HNm := hid (fun (W : World) (hb : Below w.heap.size w W) => bnum_any S.err W (hEe.next hb))
  have HNm2 := hid (fun (W : World) (hb : Below w.heap.size w W) => bnum_any (shutX S).err W (hEe.next hb))
  rw [hEr] at HNm
  rw [hE2] at HNm2
  obtain ⟨k2, hk2e⟩ : ∃ k2 : Int, ((shutX S).err : Int) = k2 := ⟨_, rfl⟩
  rw [hk2e] at HNm2
  have HEn := hid (fun (W : World) (G : Nat → Prop) (g : Nat) (cp : Option Addr) (hd : BdAt G W g S cp) => end_as hd hE2)
  have HDn := hid (fun (W : World) (G : Nat → Prop) (g : Nat) (cp : Option Addr) (hd : BdAt G W g (shutX S) cp) => donex_any g D2 W (by have h8 := hd.cells.a4; rw [hD2] at h8; exact h8))
  have HTr := hid (fun (W : World) (G : Nat → Prop) (g : Nat) (cp : Option Addr) (hd : BdAt G W g (shutX S) cp) => tr_as hd (inv_shut hIS) htn)
  have HFl := hid (fun (W : World) (q q' : Option Addr) (d d' : Nat) (h1 : FAt W q (trX (shutX S))) (h2 : FAt W q' (trX (shutX S))) => bfields_same (trX (shutX S)) q q' tn d d' htn W h1 h2 (by omega))
  have HSu0 := hid (fun (W : World) (hb : Below w.heap.size w W) => sure_any W (hE.next hb))
  have HTT := hid hTT
  have HSl := hid hSl
  have HA := hid ha
  have HM := hid hM
  have HM1 := hid hM1
  have HIl := hid hil
  clear hSl ha hE hEe h0 hI0 hS0' hn hov hl1 hl2 hb1 hb2 hk hk2 hS1 hS hX hX1 hT hT1 hM hM1 hI1 hIS hD hEr hE2 htn hD2 hDe1 hEe1 hTT hk2e hn0 hi
  go_enter Tryd.func3, Tryd.ntmps3
  go_wp2_with (first | (go_at_call 6; clear HB0; (with_reducible refine (HNw.out _ HB1.out).mono ?_); rintro e w2 ⟨g2, cp2, rfl, hd2, hb⟩; have H2 := hid (two_new HZ0.out HD1.out HZ1.out hd2 hb); clear hb hd2 HNw HD1 HZ0 HZ1 HB1) | (go_at_call 6; (with_reducible refine (HNw.out _ HB0.out).mono ?_); rintro e w1 ⟨g1, cp1, rfl, hd1, hb⟩; have HB1 := hid (below_out HB0.out hb); have HD1 := hid hd1; have HZ0 := hid HB0.out; have HZ1 := hid hb; obtain ⟨y0, y1, _, _⟩ := cells2 (blk_next HX0.out hb); clear hb hd1) | (at_builtin; refine wpList_copy rfl (.tmp 60) (.tmp 61) rfl (by go_simp) b p n c (by go_simp) HSl.out.len (HA.out.next H2.out.low) HSl.out.nil (by omega) ?_; intro qx dx w3 ho hb _ _; have HRx := hid (Row.fresh H2.out ho); replace H2 := hid (H2.out.next hb); clear ho hb) | (at_builtin; refine wpList_copy rfl (.tmp 63) (.tmp 64) rfl (by go_simp) b p n c (by go_simp) HSl.out.len (HA.out.next H2.out.low) HSl.out.nil (by omega) ?_; intro qy dy w4 ho hb _ _; have HRy := hid (Row.fresh H2.out ho); replace H2 := hid (H2.out.next hb); replace HRx := hid (HRx.out.next hb); have HF1 := hid (HFx.out w4 _ g1 _ qx dx _ H2.out.r1 HRx.out.own HRx.out.self.1); obtain ⟨qa, da, hqa, Pa⟩ := part_h HRy.out.slok i HIl.out; obtain ⟨qb, db, hqb, Pb⟩ := part_l HRy.out.slok i HIl.out; have HQa := hid hqa; have HQb := hid hqb; have HPa := hid Pa; have HPb := hid Pb; clear ho hb hqa hqb Pa Pb HFx) | (go_at_call 9; (with_reducible refine HF1.out.mono ?_); rintro e w5 ⟨qo, do_, G1, cq1, rfl, hG⟩; have HRo := hid (Row.told1 H2.out hG); replace HRy := hid (HRy.out.turn1 hG.t); replace H2 := hid (H2.out.turn1 hG.t); have HF2 := hid (HFa.out w5 _ g2 _ qa qy da dy i H2.out.r2 HPa.out rfl HRy.out.own.arg (HRy.out.out1 HPa.out).2); clear hG HF1 HFa HPa) | (refine wpList_sl rfl (.tmp 86) none (some (.tmp 87)) rfl (.slice qy n dy) (.slice qa i da) none (some (.int .i64 (i : Int))) rfl rfl (by go_simp) HQa.out ?_; clear HQa) | (go_at_call 9; (with_reducible refine HF2.out.mono ?_); rintro e w6 ⟨qp, dp, G2, cq2, rfl, hG⟩; have HRp := hid (Row.told2 H2.out hG); replace HRy := hid (HRy.out.turn2 hG.t); replace HRo := hid (HRo.out.turn2 hG.t); replace H2 := hid (H2.out.turn2 hG.t); have HLt := hid (fun (k : Nat) (e : (Value.slice qo M do_).ownBlock = some k) => ys_lt (own_low0 HRo.out.own) e); clear hG HF2) | (at_builtin; refine wpList_copy rfl (.tmp 94) (.tmp 95) rfl (by go_simp) X qp M1 dp (by go_simp) HM1.out HRp.out.own.arg (own_nil HRp.out.own) (by omega) ?_; intro qg dg w7 ho hb _ _; have HRg := hid (Row.fresh H2.out ho); replace H2 := hid (H2.out.next hb); replace HRo := hid (HRo.out.next hb); have c1 := conv_own HRo.out.own; have c2 := conv_own HRg.out.own; rw [HTT.out] at c1 c2; have HN1 := hid (HNm.out _ H2.out.low); clear ho hb) | (go_at_call 7; (with_reducible refine HN1.out.mono ?_); rintro e v1 ⟨rfl, hb⟩; replace H2 := hid (H2.out.next hb); have HN2 := hid (HNm.out _ H2.out.low); clear hb HN1 HNm) | (go_at_call 7; (with_reducible refine HN2.out.mono ?_); rintro e v2 ⟨rfl, hb⟩; replace H2 := hid (H2.out.next hb); have HE1 := hid (HEn.out _ _ _ _ H2.out.r1); clear hb HN2) | (go_at_call 10; (with_reducible refine HE1.out.mono ?_); rintro e v3 ⟨rfl, ht⟩; replace H2 := hid (H2.out.turn1 ht); have HN3 := hid (HNm2.out _ H2.out.low); clear ht HE1) | (go_at_call 7; (with_reducible refine HN3.out.mono ?_); rintro e v4 ⟨rfl, hb⟩; replace H2 := hid (H2.out.next hb); have HE2 := hid (HEn.out _ _ _ _ H2.out.r2); clear hb HN3) | (go_at_call 10; (with_reducible refine HE2.out.mono ?_); rintro e v5 ⟨rfl, ht⟩; replace H2 := hid (H2.out.turn2 ht); have HN4 := hid (HNm2.out _ H2.out.low); clear ht HE2) | (go_at_call 7; (with_reducible refine HN4.out.mono ?_); rintro e v6 ⟨rfl, hb⟩; replace H2 := hid (H2.out.next hb); have HD1 := hid (HDn.out _ _ _ _ H2.out.r1); clear hb HN4) | (go_at_call 11; (with_reducible refine HD1.out.mono ?_); rintro e v7 ⟨rfl, hw⟩; subst v7; have HD2 := hid (HDn.out _ _ _ _ H2.out.r2); clear HD1) | (go_at_call 11; (with_reducible refine HD2.out.mono ?_); rintro e v8 ⟨rfl, hw⟩; subst v8; have HT1 := hid (HTr.out _ _ _ _ H2.out.r1); clear HD2) | (go_at_call 13; (with_reducible refine HT1.out.mono ?_); rintro e v9 ⟨qt1, dt1, rfl, ho, hb⟩; have HO1 := hid ho; replace H2 := hid (H2.out.next hb); have HT2 := hid (HTr.out _ _ _ _ H2.out.r2); clear ho hb HT1) | (go_at_call 13; (with_reducible refine HT2.out.mono ?_); rintro e v10 ⟨qt2, dt2, rfl, ho, hb⟩; replace H2 := hid (H2.out.next hb); have HFs := hid (HFl.out _ qt1 qt2 dt1 dt2 (HO1.out.keep hb).fat ho.fat); clear ho hb HT2) | (go_at_call 12; (with_reducible refine HFs.out.mono ?_); rintro e v11 ⟨rfl, hb⟩; replace H2 := hid (H2.out.next hb); have HSu := hid (HSu0.out _ H2.out.low); clear hb HFs) | (go_at_call 8; (with_reducible refine HSu.out.mono ?_); rintro e v12 ⟨rfl, hb⟩; have HB12 := hid (below_out H2.out.low hb); clear hb HSu))
  go_ret
  exact ⟨rfl, HB12.out⟩
set_option maxRecDepth 20000 in
set_option maxHeartbeats 16000000 in
theorem bcuts_s3 (K N : Int) (b : B) (p : Option Addr) (n c : Nat) (at_ : Int) (i : Nat) (hSl : SlOk p n c b) (hnn : n ≤ 140737488351232) (w : World) (ha : ArgAt w p b) (hE : EnvP w) (hEe : EnvE w) (h0 : newE K N (-1) = 0) (hn0 : 0 < n) (hi : (IntKind.u64.wrap at_).tmod (n : Int) = (i : Int)) (hil : i ≤ n) (hk : (fedX (newX K N (-1)) (b.take i)).done = false) (hk2 : (fedX (newX K N (-1)) (b.take i)).err = 0) :
    Calls Tryd.prog 3 #[.agg #[.int .i64 K, .int .i64 N], .slice p n c, .int .i64 at_] w fun e w' => e = .returned (.bool true) ∧ Below w.heap.size w w' := by
  have hnI : (0 : Int) < (n : Int) := by omega
  have HI : Value.int .i64 (wrap64 ((IntKind.u64.wrap at_).tmod (n : Int))) = .int .i64 (i : Int) := by rw [hi, wrap_small (i := i) (x := n) hil (by omega)]
  have hwn := wrapU (n := n) (by omega)
  have hdz : ¬ IntKind.u64.wrap (n : Int) = 0 := by rw [wrapU (by omega)]; omega
  have hdz2 : (IntKind.u64.wrap (n : Int) == 0) = false := by simpa using hdz
  have hI0 : InvX (newX K N (-1)) := inv_new h0 (by decide)
  obtain ⟨S0, hS0'⟩ : ∃ S0, newX K N (-1) = S0 := ⟨_, rfl⟩
  rw [hS0'] at hI0
  have hn := hSl.len
  have hov : overX (fedX S0 (b.take i)) = false := by rw [hS0'] at hk hk2; unfold overX; rw [hk, hk2]; rfl
  obtain ⟨c1, c2, c3⟩ := cut_on hov (b.drop i)
  rw [List.take_append_drop] at c1 c2 c3
  have hl1 : (b.take i).length = i := by rw [List.length_take]; omega
  have hl2 : (b.drop i).length = n - i := by rw [List.length_drop]; omega
  obtain ⟨b1, hb1⟩ : ∃ b1, b.take i = b1 := ⟨_, rfl⟩
  obtain ⟨b2, hb2⟩ : ∃ b2, b.drop i = b2 := ⟨_, rfl⟩
  rw [hb1] at c1 c2 c3 hl1 hk hk2
  rw [hb2] at hl2
  obtain ⟨S1, hS1⟩ : ∃ S1, fedX S0 b1 = S1 := ⟨_, rfl⟩
  obtain ⟨S, hS⟩ : ∃ S, fedX S0 b = S := ⟨_, rfl⟩
  obtain ⟨X, hX⟩ : ∃ X, saidX S0 b = X := ⟨_, rfl⟩
  obtain ⟨X1, hX1⟩ : ∃ X1, saidX S0 b1 = X1 := ⟨_, rfl⟩
  obtain ⟨T, hT⟩ : ∃ T, tookX S0 b = T := ⟨_, rfl⟩
  obtain ⟨T1, hT1⟩ : ∃ T1, tookX S0 b1 = T1 := ⟨_, rfl⟩
  obtain ⟨M, hM⟩ : ∃ M, X.length = M := ⟨_, rfl⟩
  obtain ⟨M1, hM1⟩ : ∃ M1, X1.length = M1 := ⟨_, rfl⟩
  have hI1 : InvX S1 := by rw [← hS1]; exact inv_fed hI0 b1
  have hIS : InvX S := by rw [← hS]; exact inv_fed hI0 b
  have hM1l : M1 ≤ 140737488351232 := by rw [← hM1, ← hX1]; rcases said_le hI0 b1 with h5 | h5 <;> omega
  have hTl : T ≤ 140737488351232 := by have h5 := took_le S0 b; omega
  obtain ⟨D, hD⟩ : ∃ D, S.done = D := ⟨_, rfl⟩
  obtain ⟨E, hEr⟩ : ∃ E, errOf S.err = E := ⟨_, rfl⟩
  obtain ⟨E2, hE2⟩ : ∃ E2, errOf (shutX S).err = E2 := ⟨_, rfl⟩
  obtain ⟨tn, htn⟩ : ∃ tn, (trX (shutX S)).length = tn := ⟨_, rfl⟩
  obtain ⟨D2, hD2⟩ : ∃ D2, (shutX S).done = D2 := ⟨_, rfl⟩
  have htl : tn ≤ 64 := by rw [← htn]; exact tr_len (inv_shut hIS)
  rw [hS1] at c1 c2 c3
  rw [hb2, hS] at c1
  obtain ⟨T2, hT2⟩ : ∃ T2, tookX S1 b2 = T2 := ⟨_, rfl⟩
  obtain ⟨X2, hX2⟩ : ∃ X2, saidX S1 b2 = X2 := ⟨_, rfl⟩
  obtain ⟨M2, hM2⟩ : ∃ M2, X2.length = M2 := ⟨_, rfl⟩
  rw [hb2, hT, hT1, hT2] at c2
  rw [hb2, hX, hX1, hX2] at c3
  have hM2l : M1 + M2 ≤ 140737488355328 := by
    rw [← hM1, ← hM2, ← List.length_append, ← c3, ← hX]
    rcases said_le hI0 b with h5 | h5 <;> omega
  have hsum : ((T : Int) == (T1 : Int) + (T2 : Int)) = true := by rw [beq_iff_eq]; omega
  have hwT : IntKind.i64.wrap ((T1 : Int) + (T2 : Int)) = (T1 : Int) + (T2 : Int) := by rw [IntKind.wrap_i64]; omega
  have HC3 := hid c3
  have hDe1 : S1.done = false := by rw [← hS1]; rw [hS0'] at hk; exact hk
  have hEe1 : errOf S1.err = .nilIface := by rw [← hS1]; rw [hS0'] at hk2; rw [hk2]; rfl
  obtain ⟨TT, hTT⟩ : ∃ TT, str X = TT := ⟨_, rfl⟩
  have HB0 := hid (below_new w (frmO K N))
  have HX0 := hid (heap_alloc_new w (frmO K N))
  have HNw := hid (fun (W : World) (hb : Below w.heap.size w W) => new_as (K := K) (N := N) (m := -1) (by decide) h0 hS0' (hE.next hb))
  have HFx := hid (fun (W : World) (G : Nat → Prop) (g : Nat) (cp q : Option Addr) (d bb : Nat) (hd : BdAt G W g S0 cp) (ho : Own W bb (.slice q n d) b) (hp : ArgOut G q b) => feedx_as hd hI0 b q n d hn ho.cap (own_nil ho) ho.arg hp (by omega) hT hX hM hS hD hEr)
  have HFa := hid (fun (W : World) (G : Nat → Prop) (g : Nat) (cp q qy : Option Addr) (d dy k : Nat) (hd : BdAt G W g S0 cp) (P : Part qy b q k d 0) (hki : k = i) (ha : ArgAt W qy b) (hp : ArgOut G q b1) => feedx_as hd hI0 b1 q k d (by omega) P.cap P.nil (by have h8 := P.arg W ha; rw [List.drop_zero, hki, hb1] at h8; exact h8) hp (by omega) hT1 hX1 hM1 hS1 hDe1 hEe1)
  have HFb := hid (fun (W : World) (G : Nat → Prop) (g : Nat) (cp q qy : Option Addr) (d dy k : Nat) (hd : BdAt G W g S1 cp) (P : Part qy b q k d i) (hki : k = n - i) (ha : ArgAt W qy b) (hp : ArgOut G q b2) => feedx_as hd hI1 b2 q k d (by omega) P.cap P.nil (by have h8 := P.arg W ha; rw [hb2, List.take_of_length_le (by omega)] at h8; exact h8) hp (by omega) hT2 hX2 hM2 c1.symm hD hEr)
  have HNm := hid (fun (W : World) (hb : Below w.heap.size w W) => bnum_any S.err W (hEe.next hb))
  have HNm2 := hid (fun (W : World) (hb : Below w.heap.size w W) => bnum_any (shutX S).err W (hEe.next hb))
  rw [hEr] at HNm
  rw [hE2] at HNm2
  obtain ⟨k1, hk1⟩ : ∃ k1 : Int, (S.err : Int) = k1 := ⟨_, rfl⟩
  obtain ⟨k2, hk2e⟩ : ∃ k2 : Int, ((shutX S).err : Int) = k2 := ⟨_, rfl⟩
  rw [hk1] at HNm
  rw [hk2e] at HNm2
  have HEn := hid (fun (W : World) (G : Nat → Prop) (g : Nat) (cp : Option Addr) (hd : BdAt G W g S cp) => end_as hd hE2)
  have HDn := hid (fun (W : World) (G : Nat → Prop) (g : Nat) (cp : Option Addr) (hd : BdAt G W g (shutX S) cp) => donex_any g D2 W (by have h8 := hd.cells.a4; rw [hD2] at h8; exact h8))
  have HTr := hid (fun (W : World) (G : Nat → Prop) (g : Nat) (cp : Option Addr) (hd : BdAt G W g (shutX S) cp) => tr_as hd (inv_shut hIS) htn)
  have HFl := hid (fun (W : World) (q q' : Option Addr) (d d' : Nat) (h1 : FAt W q (trX (shutX S))) (h2 : FAt W q' (trX (shutX S))) => bfields_same (trX (shutX S)) q q' tn d d' htn W h1 h2 (by omega))
  have HSu0 := hid (fun (W : World) (hb : Below w.heap.size w W) => sure_any W (hE.next hb))
  have HTT := hid hTT
  have HSl := hid hSl
  have HA := hid ha
  have HM := hid hM
  have HM1 := hid hM1
  have HIl := hid hil
  have HM2 := hid hM2
  clear hSl ha hE hEe h0 hI0 hS0' hn hov hl1 hl2 hb1 hb2 hk hk2 hS1 hS hX hX1 hT hT1 hM hM1 hI1 hIS hD hEr hE2 htn hD2 hDe1 c1 c2 c3 hT2 hX2 hM2 hEe1 hTT hk1 hk2e hn0 hi
  go_enter Tryd.func3, Tryd.ntmps3
  go_wp2_with (first | (go_at_call 6; clear HB0; (with_reducible refine (HNw.out _ HB1.out).mono ?_); rintro e w2 ⟨g2, cp2, rfl, hd2, hb⟩; have H2 := hid (two_new HZ0.out HD1.out HZ1.out hd2 hb); clear hb hd2 HNw HD1 HZ0 HZ1 HB1) | (go_at_call 6; (with_reducible refine (HNw.out _ HB0.out).mono ?_); rintro e w1 ⟨g1, cp1, rfl, hd1, hb⟩; have HB1 := hid (below_out HB0.out hb); have HD1 := hid hd1; have HZ0 := hid HB0.out; have HZ1 := hid hb; obtain ⟨y0, y1, _, _⟩ := cells2 (blk_next HX0.out hb); clear hb hd1) | (at_builtin; refine wpList_copy rfl (.tmp 60) (.tmp 61) rfl (by go_simp) b p n c (by go_simp) HSl.out.len (HA.out.next H2.out.low) HSl.out.nil (by omega) ?_; intro qx dx w3 ho hb _ _; have HRx := hid (Row.fresh H2.out ho); replace H2 := hid (H2.out.next hb); clear ho hb) | (at_builtin; refine wpList_copy rfl (.tmp 63) (.tmp 64) rfl (by go_simp) b p n c (by go_simp) HSl.out.len (HA.out.next H2.out.low) HSl.out.nil (by omega) ?_; intro qy dy w4 ho hb _ _; have HRy := hid (Row.fresh H2.out ho); replace H2 := hid (H2.out.next hb); replace HRx := hid (HRx.out.next hb); have HF1 := hid (HFx.out w4 _ g1 _ qx dx _ H2.out.r1 HRx.out.own HRx.out.self.1); obtain ⟨qa, da, hqa, Pa⟩ := part_h HRy.out.slok i HIl.out; obtain ⟨qb, db, hqb, Pb⟩ := part_l HRy.out.slok i HIl.out; have HQa := hid hqa; have HQb := hid hqb; have HPa := hid Pa; have HPb := hid Pb; clear ho hb hqa hqb Pa Pb HFx) | (go_at_call 9; (with_reducible refine HF1.out.mono ?_); rintro e w5 ⟨qo, do_, G1, cq1, rfl, hG⟩; have HRo := hid (Row.told1 H2.out hG); replace HRy := hid (HRy.out.turn1 hG.t); replace H2 := hid (H2.out.turn1 hG.t); have HF2 := hid (HFa.out w5 _ g2 _ qa qy da dy i H2.out.r2 HPa.out rfl HRy.out.own.arg (HRy.out.out1 HPa.out).2); clear hG HF1 HFa HPa) | (refine wpList_sl rfl (.tmp 86) none (some (.tmp 87)) rfl (.slice qy n dy) (.slice qa i da) none (some (.int .i64 (i : Int))) rfl rfl (by go_simp) HQa.out ?_; clear HQa) | (go_at_call 9; (with_reducible refine HF2.out.mono ?_); rintro e w6 ⟨qp, dp, G2, cq2, rfl, hG⟩; have HRp := hid (Row.told2 H2.out hG); replace HRy := hid (HRy.out.turn2 hG.t); replace HRo := hid (HRo.out.turn2 hG.t); replace H2 := hid (H2.out.turn2 hG.t); have HLt := hid (fun (k : Nat) (e : (Value.slice qo M do_).ownBlock = some k) => ys_lt (own_low0 HRo.out.own) e); clear hG HF2) | (at_builtin; refine wpList_copy rfl (.tmp 94) (.tmp 95) rfl (by go_simp) X1 qp M1 dp (by go_simp) HM1.out HRp.out.own.arg (own_nil HRp.out.own) (by omega) ?_; intro qg dg w7 ho hb _ _; have HRg := hid (Row.fresh H2.out ho); have HGe := hid (fun (k : Nat) (e : (Value.slice qg M1 dg).ownBlock = some k) => own_ge ho e); replace H2 := hid (H2.out.next hb); replace HRo := hid (HRo.out.next hb); replace HRy := hid (HRy.out.next hb); have HF3 := hid (HFb.out w7 _ g2 _ qb qy db dy (n - i) H2.out.r2 HPb.out rfl HRy.out.own.arg (HRy.out.out1 HPb.out).2); clear ho hb HFb) | (refine wpList_sl rfl (.tmp 105) (some (.tmp 106)) none rfl (.slice qy n dy) (.slice qb (n - i) db) (some (.int .i64 (i : Int))) none rfl (by go_simp) rfl HQb.out ?_; clear HQb) | (go_at_call 9; (with_reducible refine HF3.out.mono ?_); rintro e w8 ⟨qr, dr, G3, cq3, rfl, hG⟩; have HRr := hid (Row.told2 H2.out hG); replace HRg := hid (HRg.out.turn2 hG.t); replace HRo := hid (HRo.out.turn2 hG.t); replace H2 := hid (H2.out.turn2 hG.t); clear hG HF3) | (at_builtin; refine wpList_append_any rfl (.tmp 116) (.tmp 117) rfl w.heap.size (.slice qg M1 dg) M1 X1 X2 (by go_simp) HRg.out.own HM1.out qr M2 dr (by go_simp) HM2.out HRr.out.own.arg (own_nil HRr.out.own) hM2l H2.out.low.size ?_; intro q9 d9 w9 ho hg _; have c1 := conv_own (own_only HRo.out.own (Only.grown (F := fun j => (Value.slice qg M1 dg).ownBlock = some j) hg (fun j e => e)) (fun k e e2 => by have h5 := HLt.out k e; have h6 := HGe.out k e2; omega)); replace H2 := hid (H2.out.grow HRg.out hg); have c2 := conv_own ho; rw [← HC3.out] at c2; rw [HTT.out] at c1 c2; have HN1 := hid (HNm.out _ H2.out.low); clear ho hg) | (go_at_call 7; (with_reducible refine HN1.out.mono ?_); rintro e v1 ⟨rfl, hb⟩; replace H2 := hid (H2.out.next hb); have HN2 := hid (HNm.out _ H2.out.low); clear hb HN1 HNm) | (go_at_call 7; (with_reducible refine HN2.out.mono ?_); rintro e v2 ⟨rfl, hb⟩; replace H2 := hid (H2.out.next hb); have HE1 := hid (HEn.out _ _ _ _ H2.out.r1); clear hb HN2) | (go_at_call 10; (with_reducible refine HE1.out.mono ?_); rintro e v3 ⟨rfl, ht⟩; replace H2 := hid (H2.out.turn1 ht); have HN3 := hid (HNm2.out _ H2.out.low); clear ht HE1) | (go_at_call 7; (with_reducible refine HN3.out.mono ?_); rintro e v4 ⟨rfl, hb⟩; replace H2 := hid (H2.out.next hb); have HE2 := hid (HEn.out _ _ _ _ H2.out.r2); clear hb HN3) | (go_at_call 10; (with_reducible refine HE2.out.mono ?_); rintro e v5 ⟨rfl, ht⟩; replace H2 := hid (H2.out.turn2 ht); have HN4 := hid (HNm2.out _ H2.out.low); clear ht HE2) | (go_at_call 7; (with_reducible refine HN4.out.mono ?_); rintro e v6 ⟨rfl, hb⟩; replace H2 := hid (H2.out.next hb); have HD1 := hid (HDn.out _ _ _ _ H2.out.r1); clear hb HN4) | (go_at_call 11; (with_reducible refine HD1.out.mono ?_); rintro e v7 ⟨rfl, hw⟩; subst v7; have HD2 := hid (HDn.out _ _ _ _ H2.out.r2); clear HD1) | (go_at_call 11; (with_reducible refine HD2.out.mono ?_); rintro e v8 ⟨rfl, hw⟩; subst v8; have HT1 := hid (HTr.out _ _ _ _ H2.out.r1); clear HD2) | (go_at_call 13; (with_reducible refine HT1.out.mono ?_); rintro e v9 ⟨qt1, dt1, rfl, ho, hb⟩; have HO1 := hid ho; replace H2 := hid (H2.out.next hb); have HT2 := hid (HTr.out _ _ _ _ H2.out.r2); clear ho hb HT1) | (go_at_call 13; (with_reducible refine HT2.out.mono ?_); rintro e v10 ⟨qt2, dt2, rfl, ho, hb⟩; replace H2 := hid (H2.out.next hb); have HFs := hid (HFl.out _ qt1 qt2 dt1 dt2 (HO1.out.keep hb).fat ho.fat); clear ho hb HT2) | (go_at_call 12; (with_reducible refine HFs.out.mono ?_); rintro e v11 ⟨rfl, hb⟩; replace H2 := hid (H2.out.next hb); have HSu := hid (HSu0.out _ H2.out.low); clear hb HFs) | (go_at_call 8; (with_reducible refine HSu.out.mono ?_); rintro e v12 ⟨rfl, hb⟩; have HB12 := hid (below_out H2.out.low hb); clear hb HSu))
  go_ret
  exact ⟨rfl, HB12.out⟩
theorem bcuts_any (K N : Int) (b : B) (p : Option Addr) (n c : Nat) (at_ : Int) (hSl : SlOk p n c b) (hnn : n ≤ 140737488351232) (w : World) (ha : ArgAt w p b) (hE : EnvP w) (hEe : EnvE w) :
    Calls Tryd.prog 3 #[.agg #[.int .i64 K, .int .i64 N], .slice p n c, .int .i64 at_] w fun e w' => e = .returned (.bool true) ∧ Below w.heap.size w w' := by
  by_cases h0 : newE K N (-1) = 0
  · by_cases hz : n = 0
    · cases hk : (fedX (newX K N (-1)) (b.take 0)).done with
      | true => exact bcuts_z1 K N b p n c at_ hSl hnn w ha hE hEe h0 hz hk
      | false =>
        by_cases hk2 : (fedX (newX K N (-1)) (b.take 0)).err = 0
        · exact bcuts_z3 K N b p n c at_ hSl hnn w ha hE hEe h0 hz hk hk2
        · exact bcuts_z2 K N b p n c at_ hSl hnn w ha hE hEe h0 hz hk hk2
    · obtain ⟨i, hi, hlt⟩ := cut_at at_ (x := n) (by omega)
      cases hk : (fedX (newX K N (-1)) (b.take i)).done with
      | true => exact bcuts_s1 K N b p n c at_ i hSl hnn w ha hE hEe h0 (by omega) hi (by omega) hk
      | false =>
        by_cases hk2 : (fedX (newX K N (-1)) (b.take i)).err = 0
        · exact bcuts_s3 K N b p n c at_ i hSl hnn w ha hE hEe h0 (by omega) hi (by omega) hk hk2
        · exact bcuts_s2 K N b p n c at_ i hSl hnn w ha hE hEe h0 (by omega) hi (by omega) hk hk2
  · exact bcuts_e K N p n c at_ w hE hEe h0
end Go.Proofs.YtllbdpiihiohoaaDoor
