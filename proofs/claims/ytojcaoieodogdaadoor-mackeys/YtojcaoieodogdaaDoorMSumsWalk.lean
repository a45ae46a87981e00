/- The law MacSums returns true for all keys, texts and codes. -/
import Derived.Test.YtojcaoieodogdaaDoorWorks
import Derived.Test.YtojcaoieodogdaaDoorOrder
namespace Go.Proofs.YtojcaoieodogdaaDoor
open Go.RowKit

/-- Slices of bytes in memory. -/
structure StM (w W : World) (L : List (Value × List Int)) : Prop where
  below : Below w.heap.size w W
  k : KAt W
  args : ∀ q ∈ L, ArgAt W q.1 q.2
section
variable {w W W' : World} {L : List (Value × List Int)}
theorem StM.next (H : StM w W L) (hb : Below W.heap.size W W') : StM w W' L := ⟨H.below.trans (hb.mono H.below.size), H.k.below hb, fun q hq => (H.args q hq).below hb⟩
theorem StM.mine (H : StM w W L) {pa : Option Addr} {cap N : Nat} {bs : List Int} (hm : Mine W W' pa cap bs) (hN : bs.length = N) : StM w W' ((.slice pa N cap, bs) :: L) := by
  subst hN
  have h2 := H.next hm.below
  refine ⟨h2.below, h2.k, fun q hq => ?_⟩
  rcases List.mem_cons.1 hq with rfl | hq
  · exact hm.arg
  · exact h2.args q hq
end
/-- The same, and an answer beside them. -/
structure StR (w W : World) (f : Nat) (S : List Int) (L : List (Value × List Int)) : Prop where
  st : StM w W L
  row : RowAt W f (bsv S) 24
theorem StR.next {w W W' : World} {f : Nat} {S : List Int} {L : List (Value × List Int)} (H : StR w W f S L) (hb : Below W.heap.size W W') : StR w W' f S L := ⟨H.st.next hb, H.row.below hb⟩
theorem StR.drew {w W : World} {f : Nat} {S : List Int} {L : List (Value × List Int)} (H : StR w W f S L) : StR w W.drew f S L := H.next ((Below.refl _ _).drew)
theorem StM.stored {w W W' : World} {S : List Int} {L : List (Value × List Int)} {z : Array Value} (H : StM w W L) (hst : Stored W.heap.size (bsv S) 24 (W.alloc (.cells z 24)) W') : StR w W' W.heap.size S L := ⟨H.next (hst.below (below_new W _) (Nat.le_refl _)), hst.row⟩
/-- What is read between the calls. -/
def RdMS (W : World) (f : Nat) (H : List Int) (k0 k1 t0 t1 : Value) (TK TT : ByteArray) : Prop := (Instr.loadAt 24 (.pointer (some ⟨f, 0, none⟩))).run Tryd.prog W = .ok (.agg (bsv H)) W ∧ (convert 22 9 k0).run Tryd.prog W = .ok (.string TK) W ∧ (convert 22 9 k1).run Tryd.prog W = .ok (.string TK) W ∧ (convert 22 9 t0).run Tryd.prog W = .ok (.string TT) W ∧ (convert 22 9 t1).run Tryd.prog W = .ok (.string TT) W
theorem StR.rd {w W : World} {f : Nat} {H key text code : List Int} {k0 k1 t0 t1 c0 c1 : Value} {TK TT : ByteArray} (S : StR w W f H [(c1, code), (t1, text), (k1, key), (k0, key), (t0, text), (c0, code)]) (hl : H.length = 32) (hk : strOfNums key = TK) (ht : strOfNums text = TT) : RdMS W f H k0 k1 t0 t1 TK TT :=
  ⟨load24 S.row hl, by rw [← hk]; exact (S.st.args (k0, key) (by simp)).conv, by rw [← hk]; exact (S.st.args (k1, key) (by simp)).conv, by rw [← ht]; exact (S.st.args (t0, text) (by simp)).conv, by rw [← ht]; exact (S.st.args (t1, text) (by simp)).conv⟩
set_option maxRecDepth 20000 in
set_option maxHeartbeats 4000000 in
theorem macsums_walk (pk pt pc : Option Addr) (Nk ck Nt ct Nc cc : Nat) (key text code : List Int) (w : World) (hK : KAt w) (hk : ArgAt w (.slice pk Nk ck) key) (ht : ArgAt w (.slice pt Nt ct) text) (hc : ArgAt w (.slice pc Nc cc) code)
    (lk : key.length = Nk) (lt : text.length = Nt) (lc : code.length = Nc) (bk : ∀ x ∈ key, 0 ≤ x ∧ x < 256) (bt : ∀ x ∈ text, 0 ≤ x ∧ x < 256) (bc : ∀ x ∈ code, 0 ≤ x ∧ x < 256) (zk : Nk + 200 ≤ 140737488355328) (zt : Nt + 200 ≤ 140737488355328) (zc : Nc + 200 ≤ 140737488355328) :
    Calls Tryd.prog 4 #[.slice pk Nk ck, .slice pt Nt ct, .slice pc Nc cc] w fun e w' => e = .returned (.bool true) ∧ Below w.heap.size w w' := by
  have HN : Hid (key.length = Nk ∧ text.length = Nt ∧ code.length = Nc ∧ Nk + 200 ≤ 140737488355328 ∧ Nt + 200 ≤ 140737488355328 ∧ Nc + 200 ≤ 140737488355328) := ⟨lk, lt, lc, zk, zt, zc⟩
  have HZ : Hid (key.length ≤ 140737488355328 ∧ text.length ≤ 140737488355328 ∧ code.length ≤ 140737488355328 ∧ key.length + 200 ≤ 140737488355328 ∧ text.length + 200 ≤ 140737488355328) := by refine ⟨?_, ?_, ?_, ?_, ?_⟩ <;> omega
  have HB : Hid ((∀ x ∈ key, 0 ≤ x ∧ x < 256) ∧ (∀ x ∈ text, 0 ≤ x ∧ x < 256) ∧ (∀ x ∈ code, 0 ≤ x ∧ x < 256)) := ⟨bk, bt, bc⟩
  have S0 : Hid (StM w w [(.slice pk Nk ck, key), (.slice pt Nt ct, text), (.slice pc Nc cc, code)]) := by
    refine ⟨Below.refl _ _, hK, fun q hq => ?_⟩
    simp only [List.mem_cons, List.not_mem_nil, or_false] at hq
    rcases hq with rfl | rfl | rfl
    · exact hk
    · exact ht
    · exact hc
  obtain ⟨H, HH⟩ : ∃ H, Hid (hmac key text = H) := ⟨_, hid rfl⟩
  have HL : Hid (H.length = 32) := by rw [← HH.out]; exact hmac_len _ _
  have HBH : Hid (∀ x ∈ H, 0 ≤ x ∧ x < 256) := by rw [← HH.out]; exact hmac_bd _ _
  obtain ⟨TK, HTK⟩ : ∃ T, Hid (strOfNums key = T) := ⟨_, hid rfl⟩
  obtain ⟨TT, HTT⟩ : ∃ T, Hid (strOfNums text = T) := ⟨_, hid rfl⟩
  obtain ⟨b, Hb⟩ : ∃ b, Hid (decide (hmac key text = code) = b) := ⟨_, hid rfl⟩
  obtain ⟨d, Hd⟩ : ∃ d, Hid (decide (text = code) = d) := ⟨_, hid rfl⟩
  have HT1 : Hid (decide (hmac key text = H) = true) := by show _ = _; rw [HH.out]; simp
  have HT2 : Hid (decide (text = text) = true) := by show _ = _; simp
  have E1 := eql_same H HL.out
  clear hK hk ht hc lk lt lc bk bt bc zk zt zc
  go_enter Tryd.func4, Tryd.ntmps4
  go_wp2_with (first
    | (go_at_call 17; (with_reducible refine (twin_any (S0.out.args (.slice pk Nk ck, key) (by simp)) HZ.out.1).mono ?_); rintro e w1 ⟨qk, dk, rfl, hm⟩; rw [HN.out.1]; have S1 := hid (S0.out.mine hm HN.out.1); clear hm S0)
    | (go_at_call 17; (with_reducible refine (twin_any (S1.out.args (.slice pt Nt ct, text) (by simp)) HZ.out.2.1).mono ?_); rintro e w2 ⟨qt, dt, rfl, hm⟩; rw [HN.out.2.1]; have S2 := hid (S1.out.mine hm HN.out.2.1); clear hm S1)
    | (go_at_call 17; (with_reducible refine (twin_any (S2.out.args (.slice pc Nc cc, code) (by simp)) HZ.out.2.2.1).mono ?_); rintro e w3 ⟨qc, dc, rfl, hm⟩; rw [HN.out.2.2.1]; have S3 := hid (S2.out.mine hm HN.out.2.2.1); clear hm S2)
    | (go_at_call 18; (with_reducible refine (macsum_any S3.out.k (S3.out.args (.slice qk Nk dk, key) (by simp)) (S3.out.args (.slice qt Nt dt, text) (by simp)) HZ.out.1 HZ.out.2.1).mono ?_); rintro e w4 ⟨rfl, hb4⟩; rw [HH.out]; have S4 := hid (S3.out.next hb4); clear hb4 S3)
    | (refine wpList_store_as rfl 24 _ _ rfl _ (bsv H) rfl rfl 24 _ (row_new _ _ _) (by rw [size24, bsv_size, HL.out]) (by rw [bsv_size, HL.out]; rfl) (bsv_one _) ?_; intro w5 hst; have S5 := hid (S4.out.stored hst); clear hst S4))
  obtain ⟨f, hf⟩ : ∃ f, w4.heap.size = f := ⟨_, rfl⟩
  rw [hf] at S5 ⊢
  clear hf
  refine wp_region_noPanic ?_
  refine any_begin 19 (by kernel_rfl) (by kernel_rfl) ?_
  refine late_begin (fun W => RdMS W f H (.slice pk Nk ck) (.slice qk Nk dk) (.slice pt Nt ct) (.slice qt Nt dt) TK TT) (fun _ => false) (S5.out.drew.rd HL.out HTK.out HTT.out) (fun hS => ?_)
  replace S5 := hid S5.out.drew
  refine late_take (i := 0) (some 20) rfl rfl (by kernel_rfl) (by kernel_rfl) (by kernel_rfl) (by kernel_rfl) (by kernel_rfl) (fun _ _ _ h => h) (by rfl) (v := .agg (bsv H)) ?hy0a hS ?rest0a
  case hy0a => intro w0 hSw; exact load_yields hSw.1 rfl rfl
  simp only [Act.put, List.setIfInBounds_toArray, List.set_cons_zero, List.set_cons_succ]
  refine late_take (i := 1) (some 21) rfl rfl (by kernel_rfl) (by kernel_rfl) (by kernel_rfl) (by kernel_rfl) (by kernel_rfl) (fun _ _ _ h => h) (by rfl) (v := ?v1a) ?hy1a hS ?rest1a
  case hy1a => intro w0 hSw; obtain ⟨z0, z1, z2, z3, z4⟩ := hSw; go_simp; try with_reducible rfl
  simp only [Act.put, List.setIfInBounds_toArray, List.set_cons_zero, List.set_cons_succ]
  refine late_take (i := 2) (some 22) rfl rfl (by kernel_rfl) (by kernel_rfl) (by kernel_rfl) (by kernel_rfl) (by kernel_rfl) (fun _ _ _ h => h) (by rfl) (v := ?v2a) ?hy2a hS ?rest2a
  case hy2a => intro w0 hSw; obtain ⟨z0, z1, z2, z3, z4⟩ := hSw; go_simp; try with_reducible rfl
  simp only [Act.put, List.setIfInBounds_toArray, List.set_cons_zero, List.set_cons_succ]
  refine wpAnyD_one (i := 3) (by kernel_rfl) rfl (fun K hK => ?_)
  go_simp
  go_at_call 19
  refine (refMac_any (S5.out.st.args (.slice pk Nk ck, key) (by simp)) (S5.out.st.args (.slice pt Nt ct, text) (by simp)) HB.out.1 HB.out.2.1 HZ.out.2.2.2.1 HZ.out.2.2.2.2).mono ?_
  rintro e w6 ⟨rfl, hb⟩
  rw [HH.out]
  have S6 := hid (S5.out.next hb)
  clear hb S5
  refine hK _ _ ⟨fun _ => S6.out.rd HL.out HTK.out HTT.out, ?_⟩
  clear hK K
  replace hS := S6.out.rd HL.out HTK.out HTT.out
  refine late_take (i := 4) (some 24) rfl rfl (by kernel_rfl) (by kernel_rfl) (by kernel_rfl) (by kernel_rfl) (by kernel_rfl) (fun _ _ _ h => h) (by rfl) (v := ?v4a) ?hy4a hS ?rest4a
  case hy4a => intro w0 hSw; obtain ⟨z0, z1, z2, z3, z4⟩ := hSw; go_simp; try with_reducible rfl
  simp only [Act.put, List.setIfInBounds_toArray, List.set_cons_zero, List.set_cons_succ]
  refine late_take (i := 5) (some 25) rfl rfl (by kernel_rfl) (by kernel_rfl) (by kernel_rfl) (by kernel_rfl) (by kernel_rfl) (fun _ _ _ h => h) (by rfl) (v := ?v5a) ?hy5a hS ?rest5a
  case hy5a => intro w0 hSw; obtain ⟨z0, z1, z2, z3, z4⟩ := hSw; go_simp; try with_reducible rfl
  simp only [Act.put, List.setIfInBounds_toArray, List.set_cons_zero, List.set_cons_succ]
  refine late_take (i := 6) (some 26) rfl rfl (by kernel_rfl) (by kernel_rfl) (by kernel_rfl) (by kernel_rfl) (by kernel_rfl) (fun _ _ _ h => h) (by rfl) (v := ?v6a) ?hy6a hS ?rest6a
  case hy6a => intro w0 hSw; obtain ⟨z0, z1, z2, z3, z4⟩ := hSw; go_simp; try with_reducible rfl
  simp only [Act.put, List.setIfInBounds_toArray, List.set_cons_zero, List.set_cons_succ]
  refine late_take (i := 7) (some 27) rfl rfl (by kernel_rfl) (by kernel_rfl) (by kernel_rfl) (by kernel_rfl) (by kernel_rfl) (fun _ _ _ h => h) (by rfl) (v := ?v7a) ?hy7a hS ?rest7a
  case hy7a => intro w0 hSw; obtain ⟨z0, z1, z2, z3, z4⟩ := hSw; go_simp; try with_reducible rfl
  simp only [Act.put, List.setIfInBounds_toArray, List.set_cons_zero, List.set_cons_succ]
  refine late_take (i := 8) (some 28) rfl rfl (by kernel_rfl) (by kernel_rfl) (by kernel_rfl) (by kernel_rfl) (by kernel_rfl) (fun _ _ _ h => h) (by rfl) (v := ?v8a) ?hy8a hS ?rest8a
  case hy8a => intro w0 hSw; obtain ⟨z0, z1, z2, z3, z4⟩ := hSw; go_simp; try with_reducible rfl
  simp only [Act.put, List.setIfInBounds_toArray, List.set_cons_zero, List.set_cons_succ]
  refine late_take (i := 9) (some 29) rfl rfl (by kernel_rfl) (by kernel_rfl) (by kernel_rfl) (by kernel_rfl) (by kernel_rfl) (fun _ _ _ h => h) (by rfl) (v := ?v9a) ?hy9a hS ?rest9a
  case hy9a => intro w0 hSw; obtain ⟨z0, z1, z2, z3, z4⟩ := hSw; go_simp; try with_reducible rfl
  simp only [Act.put, List.setIfInBounds_toArray, List.set_cons_zero, List.set_cons_succ]
  refine late_take (i := 10) (some 30) rfl rfl (by kernel_rfl) (by kernel_rfl) (by kernel_rfl) (by kernel_rfl) (by kernel_rfl) (fun _ _ _ h => h) (by rfl) (v := ?v10a) ?hy10a hS ?rest10a
  case hy10a => intro w0 hSw; obtain ⟨z0, z1, z2, z3, z4⟩ := hSw; go_simp; try with_reducible rfl
  simp only [Act.put, List.setIfInBounds_toArray, List.set_cons_zero, List.set_cons_succ]
  refine late_take (i := 11) (some 31) rfl rfl (by kernel_rfl) (by kernel_rfl) (by kernel_rfl) (by kernel_rfl) (by kernel_rfl) (fun _ _ _ h => h) (by rfl) (v := ?v11a) ?hy11a hS ?rest11a
  case hy11a => intro w0 hSw; obtain ⟨z0, z1, z2, z3, z4⟩ := hSw; go_simp; try with_reducible rfl
  simp only [Act.put, List.setIfInBounds_toArray, List.set_cons_zero, List.set_cons_succ]
  refine late_take (i := 12) (some 32) rfl rfl (by kernel_rfl) (by kernel_rfl) (by kernel_rfl) (by kernel_rfl) (by kernel_rfl) (fun _ _ _ h => h) (by rfl) (v := ?v12a) ?hy12a hS ?rest12a
  case hy12a => intro w0 hSw; obtain ⟨z0, z1, z2, z3, z4⟩ := hSw; go_simp; try with_reducible rfl
  simp only [Act.put, List.setIfInBounds_toArray, List.set_cons_zero, List.set_cons_succ]
  refine late_take (i := 13) (some 33) rfl rfl (by kernel_rfl) (by kernel_rfl) (by kernel_rfl) (by kernel_rfl) (by kernel_rfl) (fun _ _ _ h => h) (by rfl) (v := ?v13a) ?hy13a hS ?rest13a
  case hy13a => intro w0 hSw; obtain ⟨z0, z1, z2, z3, z4⟩ := hSw; go_simp; try with_reducible rfl
  simp only [Act.put, List.setIfInBounds_toArray, List.set_cons_zero, List.set_cons_succ]
  refine late_take (i := 14) (some 34) rfl rfl (by kernel_rfl) (by kernel_rfl) (by kernel_rfl) (by kernel_rfl) (by kernel_rfl) (fun _ _ _ h => h) (by rfl) (v := ?v14a) ?hy14a hS ?rest14a
  case hy14a => intro w0 hSw; obtain ⟨z0, z1, z2, z3, z4⟩ := hSw; go_simp; try with_reducible rfl
  simp only [Act.put, List.setIfInBounds_toArray, List.set_cons_zero, List.set_cons_succ]
  refine late_take (i := 15) (some 35) rfl rfl (by kernel_rfl) (by kernel_rfl) (by kernel_rfl) (by kernel_rfl) (by kernel_rfl) (fun _ _ _ h => h) (by rfl) (v := ?v15a) ?hy15a hS ?rest15a
  case hy15a => intro w0 hSw; obtain ⟨z0, z1, z2, z3, z4⟩ := hSw; go_simp; try with_reducible rfl
  simp only [Act.put, List.setIfInBounds_toArray, List.set_cons_zero, List.set_cons_succ]
  refine late_take (i := 16) (some 36) rfl rfl (by kernel_rfl) (by kernel_rfl) (by kernel_rfl) (by kernel_rfl) (by kernel_rfl) (fun _ _ _ h => h) (by rfl) (v := ?v16a) ?hy16a hS ?rest16a
  case hy16a => intro w0 hSw; obtain ⟨z0, z1, z2, z3, z4⟩ := hSw; go_simp; try with_reducible rfl
  simp only [Act.put, List.setIfInBounds_toArray, List.set_cons_zero, List.set_cons_succ]
  refine late_take (i := 17) (some 37) rfl rfl (by kernel_rfl) (by kernel_rfl) (by kernel_rfl) (by kernel_rfl) (by kernel_rfl) (fun _ _ _ h => h) (by rfl) (v := ?v17a) ?hy17a hS ?rest17a
  case hy17a => intro w0 hSw; obtain ⟨z0, z1, z2, z3, z4⟩ := hSw; go_simp; try with_reducible rfl
  simp only [Act.put, List.setIfInBounds_toArray, List.set_cons_zero, List.set_cons_succ]
  refine late_take (i := 18) (some 38) rfl rfl (by kernel_rfl) (by kernel_rfl) (by kernel_rfl) (by kernel_rfl) (by kernel_rfl) (fun _ _ _ h => h) (by rfl) (v := ?v18a) ?hy18a hS ?rest18a
  case hy18a => intro w0 hSw; obtain ⟨z0, z1, z2, z3, z4⟩ := hSw; go_simp; try with_reducible rfl
  simp only [Act.put, List.setIfInBounds_toArray, List.set_cons_zero, List.set_cons_succ]
  refine late_done (by kernel_rfl) ?_ _
  refine NoPanic.normal ?_
  clear hS
  go_wp2_with (first
    | (go_at_call 20; (with_reducible refine (mverify_any S6.out.st.k (S6.out.st.args (.slice qk Nk dk, key) (by simp)) (S6.out.st.args (.slice qt Nt dt, text) (by simp)) (S6.out.st.args (.slice qc Nc dc, code) (by simp)) HB.out.2.2 HZ.out.1 HZ.out.2.1 HZ.out.2.2.1).mono ?_); rintro e w7 ⟨rfl, hb⟩; rw [Hb.out]; have S7 := hid (S6.out.next hb); clear hb S6)
    | (go_at_call 21; (with_reducible refine (refVerify_any (S7.out.st.args (.slice pk Nk ck, key) (by simp)) (S7.out.st.args (.slice pt Nt ct, text) (by simp)) (S7.out.st.args (.slice pc Nc cc, code) (by simp)) HB.out.1 HB.out.2.1 HZ.out.2.2.2.1 HZ.out.2.2.2.2).mono ?_); rintro e w8 ⟨rfl, hb⟩; rw [Hb.out]; have S8 := hid (S7.out.next hb); clear hb S7)
    | (go_at_call 20; (with_reducible refine (mverify_any S8.out.st.k (S8.out.st.args (.slice qk Nk dk, key) (by simp)) (S8.out.st.args (.slice qt Nt dt, text) (by simp)) (row_argT (n := 32) S8.out.row HL.out (by unfold maxLen; omega)) HBH.out HZ.out.1 HZ.out.2.1 (by rw [HL.out]; omega)).mono ?_); rintro e w9 ⟨rfl, hb⟩; rw [HT1.out]; have S9 := hid (S8.out.next hb); clear hb S8)
    | (go_at_call 22; (with_reducible refine (same_any (S9.out.st.args (.slice qt Nt dt, text) (by simp)) (S9.out.st.args (.slice qc Nc dc, code) (by simp)) HB.out.2.1 HB.out.2.2 (And.intro HZ.out.2.1 HZ.out.2.2.1)).mono ?_); rintro e w' ⟨rfl, hw'⟩; have hw2 := hw'.symm; subst hw2; rw [Hd.out]; have SA := S9; clear S9)
    | (go_at_call 23; (with_reducible refine (refSame_any (SA.out.st.args (.slice pt Nt ct, text) (by simp)) (SA.out.st.args (.slice pc Nc cc, code) (by simp)) HB.out.2.1 HB.out.2.2).mono ?_); rintro e w' ⟨rfl, hw'⟩; have hw2 := hw'.symm; subst hw2; rw [Hd.out]; have SB := SA; clear SA)
    | (go_at_call 17; (with_reducible refine (twin_any (SB.out.st.args (.slice pt Nt ct, text) (by simp)) HZ.out.2.1).mono ?_); rintro e w10 ⟨qx, dx, rfl, hm⟩; rw [HN.out.2.1]; have SC := hid (SB.out.st.mine hm HN.out.2.1); clear hm SB)
    | (go_at_call 22; (with_reducible refine (same_any (SC.out.args (.slice qt Nt dt, text) (by simp)) (SC.out.args (.slice qx Nt dx, text) (by simp)) HB.out.2.1 HB.out.2.1 (And.intro HZ.out.2.1 HZ.out.2.1)).mono ?_); rintro e w' ⟨rfl, hw'⟩; have hw2 := hw'.symm; subst hw2; (try rw [HT2.out]); have SD := SC; clear SC)
    | (go_at_call 24; (with_reducible refine (works_any SD.out.k).mono ?_); rintro e w11 ⟨rfl, hb⟩; have SE := hid (SD.out.next hb); clear hb SD))
  go_ret
  exact ⟨by simp, SE.out.below⟩
end Go.Proofs.YtojcaoieodogdaaDoor
