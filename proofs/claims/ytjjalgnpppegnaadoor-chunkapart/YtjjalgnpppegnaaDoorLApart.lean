/- The law of twins, walked. -/
import Derived.Test.YtjjalgnpppegnaaDoorKSl
namespace Go.Proofs.YtjjalgnpppegnaaDoor
open Go.RowKit

/-- What is fed in two pieces, the second behind what the first took. -/
theorem fk_apart (s : KS) (L : B) (i : Nat) : feedK (feedK s (L.take i)) (L.drop (feedN s (L.take i))) = feedK s L ∧ feedN s (L.take i) + feedN (feedK s (L.take i)) (L.drop (feedN s (L.take i))) = feedN s L ∧ feedB s (L.take i) ++ feedB (feedK s (L.take i)) (L.drop (feedN s (L.take i))) = feedB s L := by
  obtain ⟨t1, t2, t3, _⟩ := fk_took (L.take i) s
  have hle := fkN_le (L.take i) s
  rw [List.length_take] at hle
  rw [List.take_take, Nat.min_eq_left (by omega)] at t1 t2 t3
  obtain ⟨a1, a2, a3⟩ := fk_app (L.take (feedN s (L.take i))) (L.drop (feedN s (L.take i))) s
  rw [List.take_append_drop, t1] at a1
  rw [List.take_append_drop, t1, t3] at a2
  rw [List.take_append_drop, t1, t2] at a3
  exact ⟨a1.symm, a2.symm, a3.symm⟩
def zzz : B := [122, 122, 122]
def zzC : Array Value := #[.int .u8 122, .int .u8 122, .int .u8 122]
/-- The reader, what it told, and a twin of it that was fed. -/
structure ApR (w W : World) (G : Nat → Prop) (g : Nat) (S : KS) (v : Value) (X : B) : Prop where
  low : Below w.heap.size w W
  rd : RdAt G W g S
  lt : ∀ k, G k → k < W.heap.size
  ge : ∀ k, G k → w.heap.size ≤ k
  own : Own W 0 v X
  out : ∀ k, v.ownBlock = some k → ¬ G k
theorem ApR.next {w W W' : World} {G : Nat → Prop} {g : Nat} {S : KS} {v : Value} {X : B} (h : ApR w W G g S v X) (hb : Below W.heap.size W W') : ApR w W' G g S v X :=
  ⟨h.low.trans (hb.mono h.low.size), h.rd.next hb, fun k hk => Nat.lt_of_lt_of_le (h.lt k hk) hb.size, h.ge, h.own.keep hb, h.out⟩
theorem ApR.m {w W : World} {G : Nat → Prop} {g : Nat} {S : KS} {v : Value} {X : B} (h : ApR w W G g S v X) : (∀ k, G k → k < W.heap.size) ∧ (∀ k, v.ownBlock = some k → k < W.heap.size) ∧ w.heap.size ≤ W.heap.size := ⟨h.lt, fun _ e => ys_lt h.own e, h.low.size⟩
theorem ApR.beside {w W' W2 : World} {F G : Nat → Prop} {g : Nat} {S : KS} {v : Value} {X : B} (h : ApR w W' G g S v X) (ho : Only F W' W2) (M : Nat) (hF : ∀ k, F k → M ≤ k) (hM : ∀ k, G k → k < M) (hv : ∀ k, v.ownBlock = some k → k < M) (hw : w.heap.size ≤ M) : ApR w W2 G g S v X :=
  ⟨h.low.trans (ho.below (fun k hk => Nat.le_trans hw (hF k hk)) h.low.size), h.rd.keep ho (fun k hk hf => by have := hF k hf; have := hM k hk; omega), fun k hk => Nat.lt_of_lt_of_le (h.lt k hk) ho.size, h.ge, own_only h.own ho (fun k e hf => by have := hF k hf; have := hv k e; omega), h.out⟩
structure Rows2 (w W : World) (M : Nat) (v1 v2 : Value) (X1 X2 : B) : Prop where
  low : Below w.heap.size w W
  a : Own W 0 v1 X1
  b : Own W 0 v2 X2
  la : ∀ k, v1.ownBlock = some k → k < M
  lb : ∀ k, v2.ownBlock = some k → k < M
  wm : w.heap.size ≤ M
theorem Rows2.next {w W W' : World} {M : Nat} {v1 v2 : Value} {X1 X2 : B} (h : Rows2 w W M v1 v2 X1 X2) (hb : Below W.heap.size W W') : Rows2 w W' M v1 v2 X1 X2 := ⟨h.low.trans (hb.mono h.low.size), h.a.keep hb, h.b.keep hb, h.la, h.lb, h.wm⟩
theorem Rows2.only {w W W' : World} {M : Nat} {v1 v2 : Value} {X1 X2 : B} {F : Nat → Prop} (h : Rows2 w W M v1 v2 X1 X2) (ho : Only F W W') (hF : ∀ k, F k → M ≤ k) : Rows2 w W' M v1 v2 X1 X2 := ⟨h.low.trans (ho.below (fun k hk => Nat.le_trans h.wm (hF k hk)) h.low.size), own_only h.a ho (fun k e hf => by have := h.la k e; have := hF k hf; omega), own_only h.b ho (fun k e hf => by have := h.lb k e; have := hF k hf; omega), h.la, h.lb, h.wm⟩
theorem ApR.rows {w W W' : World} {G G' : Nat → Prop} {g : Nat} {S : KS} {v v' : Value} {X X' l : B} (h : ApR w W G g S v X) (hG : FedG G W W' g S l G' v') (e : feedB S l = X') : Rows2 w W' W'.heap.size v v' X X' :=
  ⟨h.low.trans (hG.only.below h.ge h.low.size), own_only h.own hG.only (fun k e => h.out k e), by rw [← e]; exact own_low0 hG.body, fun k e => Nat.lt_of_lt_of_le (ys_lt h.own e) hG.only.size, fun k e => ys_lt (own_low0 hG.body) e, Nat.le_trans h.low.size hG.only.size⟩
set_option maxRecDepth 20000 in
set_option maxHeartbeats 16000000 in
theorem apart_walk (L : B) (p : Option Addr) (at_ : Int) (n c i : Nat) (hSl : SlOk p n c L) (hl : n ≤ 20000) (hi : max 0 (min at_ (n : Int)) = (i : Int)) (w : World) (ha : ArgAt w p L) (hE : EnvK w) :
    Calls Tryd.prog 5 #[.slice p n c, .int .i64 at_] w fun e w' => e = .returned (.bool true) ∧ Below w.heap.size w w' := by
  have hn := hSl.len
  have hnc := hSl.cap
  have hin : i ≤ n := by omega
  obtain ⟨mm, hmm⟩ : ∃ mm, min at_ (n : Int) = mm := ⟨_, rfl⟩
  rw [hmm] at hi
  have hA : (L.take i).length = i := by rw [List.length_take]; omega
  obtain ⟨p1, p2, p3⟩ := fk_apart (newK 1048576) L i
  have hI0 : InvK (newK 1048576) := invK_new (by decide)
  have hI1 := feed_inv (L.take i) hI0
  have hN1l := fkN_le (L.take i) (newK 1048576)
  have hX3 := fk_small hI0 L
  obtain ⟨N1, hN1⟩ : ∃ N1, feedN (newK 1048576) (L.take i) = N1 := ⟨_, rfl⟩
  obtain ⟨S1, hS1⟩ : ∃ S1, feedK (newK 1048576) (L.take i) = S1 := ⟨_, rfl⟩
  obtain ⟨X1, hX1⟩ : ∃ X1, feedB (newK 1048576) (L.take i) = X1 := ⟨_, rfl⟩
  rw [hN1, hA] at hN1l
  have hD : (L.drop N1).length = n - N1 := by rw [List.length_drop, hn]
  have hN2l := fkN_le (L.drop N1) S1
  rw [hN1, hS1] at p1 p2 p3
  rw [hX1] at p3
  rw [hS1] at hI1
  obtain ⟨N2, hN2⟩ : ∃ N2, feedN S1 (L.drop N1) = N2 := ⟨_, rfl⟩
  obtain ⟨X2, hX2⟩ : ∃ X2, feedB S1 (L.drop N1) = X2 := ⟨_, rfl⟩
  obtain ⟨N3, hN3⟩ : ∃ N3, feedN (newK 1048576) L = N3 := ⟨_, rfl⟩
  obtain ⟨X3, hX3e⟩ : ∃ X3, feedB (newK 1048576) L = X3 := ⟨_, rfl⟩
  rw [hN2, hN3] at p2
  rw [hX2, hX3e] at p3
  obtain ⟨M1, hM1⟩ : ∃ M1, X1.length = M1 := ⟨_, rfl⟩
  obtain ⟨M2, hM2⟩ : ∃ M2, X2.length = M2 := ⟨_, rfl⟩
  obtain ⟨M3, hM3⟩ : ∃ M3, X3.length = M3 := ⟨_, rfl⟩
  obtain ⟨K, hK⟩ : ∃ K, (feedK (newK 1048576) L).err = K := ⟨_, rfl⟩
  obtain ⟨E, hEe⟩ : ∃ E, errOf K = E := ⟨_, rfl⟩
  obtain ⟨b3, hb3⟩ : ∃ b3, decide ((feedK (newK 1048576) L).st = 11) = b3 := ⟨_, rfl⟩
  obtain ⟨b1, hb1⟩ : ∃ b1, decide (S1.st = 11) = b1 := ⟨_, rfl⟩
  obtain ⟨E1, hE1⟩ : ∃ E1, errOf S1.err = E1 := ⟨_, rfl⟩
  obtain ⟨T1, hT1⟩ : ∃ T1, str X1 = T1 := ⟨_, rfl⟩
  obtain ⟨T2, hT2⟩ : ∃ T2, str X2 = T2 := ⟨_, rfl⟩
  obtain ⟨T3, hT3⟩ : ∃ T3, str X3 = T3 := ⟨_, rfl⟩
  have hcat : T1 ++ T2 = T3 := by rw [← hT1, ← hT2, ← hT3, ← p3, str_app]
  have hsum : (((N1 : Int) + (N2 : Int)) == (N3 : Int)) = true := by rw [beq_iff_eq]; omega
  have hlen := congrArg List.length p3
  rw [List.length_append, hM1, hM2, hM3] at hlen
  have hz1 : T1.size ≤ 1099511627776 := by rw [← hT1, str_size, hM1]; rw [hX3e, hM3] at hX3; omega
  have hz2 : T2.size ≤ 1099511627776 := by rw [← hT2, str_size, hM2]; rw [hX3e, hM3] at hX3; omega
  obtain ⟨qa, da, hq1, P1⟩ := part_h hSl i hin
  obtain ⟨qb, db, hq2, P2⟩ := part_l hSl N1 (by omega)
  have HQ1 := hid hq1
  have HQ2 := hid hq2
  have HNum := hid (fun W : World => num_any K W)
  rw [hEe] at HNum
  have HA0 := hid ha
  have HE := hid hE
  have HT1e := hid hT1
  have HT2e := hid hT2
  have HT3e := hid hT3
  have HN1 := hid (show Calls Tryd.prog 13 #[.int .i64 1048576] w (fun e w' => e = .returned (.tuple #[.pointer (some ⟨w.heap.size, 0, none⟩), .nilIface]) ∧ RdAt (fun k => k = w.heap.size) w' w.heap.size (newK 1048576) ∧ Below w.heap.size w w' ∧ w'.heap.size = w.heap.size + 1) from new_yes 1048576 w (by decide))
  have HTw1 := hid (fun (W : World) (hb : Below w.heap.size w W) => twin_any (L.take i) qa i da hA W (by have h9 := P1.arg W (ha.next hb); rw [List.drop_zero] at h9; exact h9) P1.nil (by omega))
  have HFd1 := hid (fun (W : World) (r : RdAt (fun k => k = w.heap.size) W w.heap.size (newK 1048576)) (q : Option Addr) (d b : Nat) (ho : Own W b (.slice q i d) (L.take i)) (hb : w.heap.size < b) => feed_as r hI0 (L.take i) q i d hA ho.cap ho.arg (own_out ho (fun k hk => by have hk2 : k = w.heap.size := hk; omega)) (by omega) (M := M1) (b := b1) (E := E1) hN1 (by rw [hX1]; exact hM1) (by rw [hS1]; exact hb1) (by rw [hS1]; exact hE1))
  have HCl := hid (fun (W : World) (F : Nat → Prop) (r : RdAt F W w.heap.size S1) => kclone_any r hI1)
  have HZ := hid (fun (W : World) (F : Nat → Prop) (g : Nat) (r : RdAt F W g S1) (hlt : ∀ k, F k → k < W.heap.size) => feed_any (r.next (below_new W (.cells zzC 5 (3, 4)))) hI1 zzz (some ⟨W.heap.size, 0, none⟩) 3 3 rfl (by omega) (const_arg W _ zzz _ rfl) (fun a e _ hf => by have e2 := Option.some.inj e; subst e2; have h9 := hlt _ hf; exact absurd h9 (Nat.lt_irrefl _)) (by omega))
  have HTw2 := hid (fun (W : World) (hb : Below w.heap.size w W) => twin_any (L.drop N1) qb (n - N1) db hD W (by have h9 := P2.arg W (ha.next hb); rw [List.take_of_length_le (by omega)] at h9; exact h9) P2.nil (by omega))
  have HFd2 := hid (fun (W : World) (G : Nat → Prop) (r : RdAt G W w.heap.size S1) (q : Option Addr) (d b : Nat) (ho : Own W b (.slice q (n - N1) d) (L.drop N1)) (hb : ∀ k, G k → k < b) => feed_as r hI1 (L.drop N1) q (n - N1) d hD ho.cap ho.arg (own_out ho hb) (by omega) (M := M2) (b := b3) (E := E) hN2 (by rw [hX2]; exact hM2) (by rw [p1]; exact hb3) (by rw [p1, hK]; exact hEe))
  have HN2 := hid (fun W : World => (show Calls Tryd.prog 13 #[.int .i64 1048576] W (fun e w' => e = .returned (.tuple #[.pointer (some ⟨W.heap.size, 0, none⟩), .nilIface]) ∧ RdAt (fun k => k = W.heap.size) w' W.heap.size (newK 1048576) ∧ Below W.heap.size W w' ∧ w'.heap.size = W.heap.size + 1) from new_yes 1048576 W (by decide)))
  have HTw3 := hid (fun (W : World) (hb : Below w.heap.size w W) => twin_any L p n c hn W (ha.next hb) hSl.nil (by omega))
  have HFd3 := hid (fun (W : World) (g : Nat) (r : RdAt (fun k => k = g) W g (newK 1048576)) (q : Option Addr) (d b : Nat) (ho : Own W b (.slice q n d) L) (hb : g < b) => feed_as r hI0 L q n d hn ho.cap ho.arg (own_out ho (fun k hk => by have hk2 : k = g := hk; omega)) (by omega) (M := M3) (b := b3) (E := E) hN3 (by rw [hX3e]; exact hM3) hb3 (by rw [hK]; exact hEe))
  have HXa := hid hX1
  have HXb := hid hX2
  have HXc := hid hX3e
  have HSs := hid hS1
  have hcv : ∀ W : World, (convert 24 24 (.slice (some ⟨W.heap.size, 0, none⟩) 3 3)).run Tryd.prog (W.alloc (.cells #[.int .u8 122, .int .u8 122, .int .u8 122] 5)) = .ok (.slice (some ⟨W.heap.size, 0, none⟩) 3 3) (W.alloc (.cells zzC 5 (3, 4))) := fun W => Lib.run_convert_bytes_const W 24 5 zzC 3 3 Tryd.underlying24 Tryd.underlying5
  have HCv := hid hcv
  have hlI : decide ((20000 : Int) < (n : Int)) = false := by rw [decide_eq_false_iff_not]; omega
  have hN1b : N1 ≤ 20000 := by omega
  have hN2b : N2 ≤ 20000 := by omega
  have hN1n : N1 ≤ n := by omega
  clear hSl P1 P2 hq1 hq2 hn hnc hl ha hE hA hI0 hI1 hN1l hX3 hN1 hS1 hX1 hD hN2l p1 p2 p3 hN2 hX2 hN3 hX3e hM1 hM2 hM3 hK hEe hb3 hb1 hE1 hT1 hT2 hT3 hlen hcv
  go_enter Tryd.func5, Tryd.ntmps5
  go_wp2_with (first | (refine wpList_sl rfl (.tmp 58) none (some (.tmp 59)) rfl (.slice p n c) (.slice qa i da) none (some (.int .i64 (i : Int))) rfl rfl rfl HQ1.out ?_; clear HQ1) | (refine wpList_sl rfl (.tmp 77) (some (.tmp 78)) none rfl (.slice p n c) (.slice qb (n - N1) db) (some (.int .i64 (N1 : Int))) none rfl rfl rfl HQ2.out ?_; clear HQ2) | (go_at_call 13; (with_reducible refine HN1.out.mono ?_); rintro e w1 ⟨rfl, hr1, hb1, hs1⟩; have HR1 := hid hr1; have HB1 := hid hb1; have HS1 := hid hs1; have HT1 := hid (HTw1.out w1 hb1); clear hr1 hb1 hs1 HN1 HTw1) | (go_at_call 9; (with_reducible refine HT1.out.mono ?_); rintro e w2 ⟨q2, d2, rfl, ho2, hb2⟩; have HF1 := hid (HFd1.out w2 (HR1.out.next hb2) q2 d2 _ ho2 (by have := HS1.out; omega)); have HB2 := hid (below_out HB1.out hb2); clear ho2 hb2 HT1 HFd1 HR1) | (go_at_call 14; (with_reducible refine HF1.out.mono ?_); rintro e w3 ⟨q3, d3, G1, rfl, hG⟩; have HG1 := hid (show ApR w w3 G1 w.heap.size S1 (.slice q3 M1 d3) X1 from ⟨HB2.out.trans (hG.below (fun k hk => by have hk2 : k = w.heap.size := hk; omega) HB2.out.size), by have h9 := hG.rd; rw [HSs.out] at h9; exact h9, hG.lt, fun k hk => by rcases hG.sub k hk with h9 | h9; (have hk2 : k = w.heap.size := h9; omega); exact Nat.le_trans HB2.out.size h9, by have h9 := own_low0 hG.body; rw [HXa.out] at h9; exact h9, hG.out⟩); have HC := hid (HCl.out w3 G1 HG1.out.rd); clear hG HF1 HCl) | (go_at_call 16; (with_reducible refine HC.out.mono ?_); rintro e w4 ⟨rfl, htw⟩; obtain ⟨⟨F4, r4, ge4, lt4⟩, low4⟩ := htw; have HG4 := hid (HG1.out.next low4); have HM4 := hid HG1.out.m; have HZ4 := hid (HZ.out w4 F4 w3.heap.size r4 lt4); have HGe4 := hid ge4; have hcv4 := HCv.out w4; clear r4 ge4 lt4 low4 HC HG1 HCv HZ) | (go_at_call 14; (with_reducible refine HZ4.out.mono ?_); rintro e w6 ⟨q6, d6, rfl, G6, hG6⟩; have HG6 := hid (ApR.beside (HG4.out.next (below_new w4 _)) hG6.only w3.heap.size HGe4.out HM4.out.1 HM4.out.2.1 HM4.out.2.2); have HT2 := hid (HTw2.out w6 HG6.out.low); clear hG6 hcv4 HG4 HM4 HGe4 HZ4 HTw2) | (go_at_call 9; (with_reducible refine HT2.out.mono ?_); rintro e w7 ⟨q7, d7, rfl, ho7, hb7⟩; have HG7 := hid (HG6.out.next hb7); have HF2 := hid (HFd2.out w7 G1 HG7.out.rd q7 d7 w6.heap.size ho7 HG6.out.lt); clear ho7 hb7 HT2 HFd2 HG6) | (go_at_call 14; (with_reducible refine HF2.out.mono ?_); rintro e w8 ⟨q8, d8, G8, rfl, hG8⟩; have HW8 := hid (HG7.out.rows hG8 HXb.out); have HN3 := hid (HN2.out w8); clear hG8 HF2 HN2 HG7) | (go_at_call 13; (with_reducible refine HN3.out.mono ?_); rintro e w9 ⟨rfl, hr9, hb9, hs9⟩; have HW9 := hid (HW8.out.next hb9); have HR9 := hid hr9; have HS9 := hid hs9; have HT3 := hid (HTw3.out w9 HW9.out.low); clear hr9 hb9 hs9 HN3 HTw3 HW8) | (go_at_call 9; (with_reducible refine HT3.out.mono ?_); rintro e w10 ⟨q10, d10, rfl, ho10, hb10⟩; have HW10 := hid (HW9.out.next hb10); have HF3 := hid (HFd3.out w10 w8.heap.size (HR9.out.next hb10) q10 d10 w9.heap.size ho10 (by have := HS9.out; omega)); clear ho10 hb10 HT3 HFd3 HR9 HW9) | (go_at_call 14; (with_reducible refine HF3.out.mono ?_); rintro e w11 ⟨q11, d11, G11, rfl, hG11⟩; have HW11 := hid (HW10.out.only hG11.only (fun k hk => by have hk2 : k = w8.heap.size := hk; omega)); have hc1 := conv_own HW11.out.a; have hc2 := conv_own HW11.out.b; have hc3 := conv_own hG11.body; rw [HXc.out, HT3e.out] at hc3; rw [HT1e.out] at hc1; rw [HT2e.out] at hc2; have HE11 := hid (HE.out.next HW11.out.low); clear hG11 HF3 HW10) | (go_at_call 14; (with_reducible refine (nil_feed p n c _).mono ?_); rintro e v1 ⟨rfl, hv1⟩; subst v1) | (go_at_call 12; (with_reducible refine (HNum.out _).mono ?_); rintro e v2 ⟨rfl, hv2⟩; subst v2) | (go_at_call 12; (with_reducible refine (num_1 1 _).mono ?_); rintro e v3 ⟨rfl, hv3⟩; subst v3) | (go_at_call 17; (with_reducible refine (nil_done _).mono ?_); rintro e v4 ⟨rfl, hv4⟩; subst v4) | (go_at_call 18; (with_reducible refine (nil_len _).mono ?_); rintro e v5 ⟨rfl, hv5⟩; subst v5) | (go_at_call 15; (with_reducible refine (nil_trailers _).mono ?_); rintro e v6 ⟨rfl, hv6⟩; subst v6) | (go_at_call 16; (with_reducible refine (nil_clone _).mono ?_); rintro e v7 ⟨rfl, hv7⟩; subst v7) | (go_at_call 7; (with_reducible refine (works_any _ HE11.out).mono ?_); rintro e v8 ⟨rfl, hv8⟩; have HV8 := hid hv8; clear hv8))
  go_ret
  exact ⟨rfl, below_out HW11.out.low HV8.out⟩
set_option maxRecDepth 20000 in
set_option maxHeartbeats 16000000 in
theorem apart_big (p : Option Addr) (at_ : Int) (n c : Nat) (hl : decide ((20000 : Int) < (n : Int)) = true) (w : World) (hE : EnvK w) :
    Calls Tryd.prog 5 #[.slice p n c, .int .i64 at_] w fun e w' => e = .returned (.bool true) ∧ Below w.heap.size w w' := by
  have HE := hid hE
  have HN1 := hid (show Calls Tryd.prog 13 #[.int .i64 1048576] w (fun e w' => e = .returned (.tuple #[.pointer (some ⟨w.heap.size, 0, none⟩), .nilIface]) ∧ RdAt (fun k => k = w.heap.size) w' w.heap.size (newK 1048576) ∧ Below w.heap.size w w' ∧ w'.heap.size = w.heap.size + 1) from new_yes 1048576 w (by decide))
  clear hE
  go_enter Tryd.func5, Tryd.ntmps5
  go_wp2_with (first | (go_at_call 13; (with_reducible refine HN1.out.mono ?_); rintro e w1 ⟨rfl, _, hb1, _⟩; have HB1 := hid hb1; have HE1 := hid (HE.out.next hb1); clear hb1) | (go_at_call 7; (with_reducible refine (works_any _ HE1.out).mono ?_); rintro e v8 ⟨rfl, hv8⟩; have HV8 := hid hv8; clear hv8))
  go_ret
  exact ⟨rfl, below_out HB1.out HV8.out⟩
theorem apart_any (L : B) (p : Option Addr) (at_ : Int) (n c : Nat) (hSl : SlOk p n c L) (w : World) (ha : ArgAt w p L) (hE : EnvK w) :
    Calls Tryd.prog 5 #[.slice p n c, .int .i64 at_] w fun e w' => e = .returned (.bool true) ∧ Below w.heap.size w w' := by
  by_cases hl : n ≤ 20000
  · exact apart_walk L p at_ n c (max 0 (min at_ (n : Int))).toNat hSl hl (by omega) w ha hE
  · exact apart_big p at_ n c (decide_eq_true (by omega)) w hE
end Go.Proofs.YtjjalgnpppegnaaDoor
