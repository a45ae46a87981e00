/- The law MacPieces returns true for all keys, texts and rows of cuts. -/
import Derived.Test.YtojcaoieodogdaaDoorWorks
import Derived.Test.YtojcaoieodogdaaDoorMClone
import Derived.Test.YtojcaoieodogdaaDoorSlices
import Derived.Deep.CutBlock
import Derived.Deep.CutRange
namespace Go.Proofs.YtojcaoieodogdaaDoor
open Go.RowKit

/-- A code under way. -/
structure StC (w W : World) (g h : Nat) (kb m : List Int) : Prop where
  below : Below w.heap.size w W
  k : KAt W
  lo : w.heap.size ≤ g ∧ w.heap.size ≤ h
  mac : MacAt W g h kb m
section
variable {w W W' : World} {g h g2 h2 f : Nat} {kb m m' m2 S : List Int}
theorem StC.next (H : StC w W g h kb m) (hb : Below W.heap.size W W') : StC w W' g h kb m := ⟨H.below.trans (hb.mono H.below.size), H.k.below hb, H.lo, H.mac.below hb⟩
theorem StC.drew (H : StC w W g h kb m) : StC w W.drew g h kb m := H.next ((Below.refl _ _).drew)
theorem StC.write (H : StC w W g h kb m) (h0 : 0 < w.heap.size) (ht : Turn h W W') (hm : MacAt W' g h kb m') : StC w W' g h kb m' :=
  ⟨H.below.trans (ht.below H.below.size H.lo.2), H.k.turn ht (Nat.lt_of_lt_of_le h0 H.lo.2), H.lo, hm⟩
theorem StC.hlt (H : StC w W g h kb m) : h < W.heap.size := H.mac.hash.lt
theorem StC.glt (H : StC w W g h kb m) : g < W.heap.size := H.mac.row.lt
/-- Two of them. -/
structure StC2 (w W : World) (g h g2 h2 : Nat) (kb m m2 : List Int) : Prop where
  st : StC w W g h kb m
  mac2 : MacAt W g2 h2 kb m2
  ne : h ≠ g2 ∧ h ≠ h2 ∧ g ≠ h2
  lo2 : w.heap.size ≤ h2
theorem StC2.next (H : StC2 w W g h g2 h2 kb m m2) (hb : Below W.heap.size W W') : StC2 w W' g h g2 h2 kb m m2 := ⟨H.st.next hb, H.mac2.below hb, H.ne, H.lo2⟩
theorem StC.clone (H : StC w W g h kb m) (hg : W.heap.size ≤ g2) (hh : W.heap.size ≤ h2) (hm : MacAt W' g2 h2 kb m) (hb : Below W.heap.size W W') : StC2 w W' g h g2 h2 kb m m := by
  have h1 := H.hlt
  have h3 := H.glt
  have h4 := H.below.size
  exact ⟨H.next hb, hm, ⟨by omega, by omega, by omega⟩, by omega⟩
theorem StC2.write1 (H : StC2 w W g h g2 h2 kb m m2) (h0 : 0 < w.heap.size) (ht : Turn h W W') (hm : MacAt W' g h kb m') : StC2 w W' g h g2 h2 kb m' m2 :=
  ⟨H.st.write h0 ht hm, H.mac2.turn ht H.ne.1.symm H.ne.2.1.symm, H.ne, H.lo2⟩
theorem StC2.write2 (H : StC2 w W g h g2 h2 kb m m2) (h0 : 0 < w.heap.size) (ht : Turn h2 W W') : StC w W' g h kb m :=
  ⟨H.st.below.trans (ht.below H.st.below.size H.lo2), H.st.k.turn ht (Nat.lt_of_lt_of_le h0 H.lo2), H.st.lo, H.st.mac.turn ht H.ne.2.2 H.ne.2.1⟩
/-- One, and an answer beside it. -/
structure StF (w W : World) (g h f : Nat) (kb m S : List Int) : Prop where
  st : StC w W g h kb m
  row : RowAt W f (bsv S) 24
  ne : f ≠ g ∧ f ≠ h
theorem StF.next (H : StF w W g h f kb m S) (hb : Below W.heap.size W W') : StF w W' g h f kb m S := ⟨H.st.next hb, H.row.below hb, H.ne⟩
theorem StF.drew (H : StF w W g h f kb m S) : StF w W.drew g h f kb m S := H.next ((Below.refl _ _).drew)
theorem StC.stored {z : Array Value} (H : StC w W g h kb m) (hst : Stored W.heap.size (bsv S) 24 (W.alloc (.cells z 24)) W') : StF w W' g h W.heap.size kb m S :=
  ⟨H.next (hst.below (below_new W _) (Nat.le_refl _)), hst.row, Nat.ne_of_gt H.glt, Nat.ne_of_gt H.hlt⟩
theorem StF.reset (H : StF w W g h f kb m S) (h0 : 0 < w.heap.size) (hh : W.heap.size ≤ h2) (hr : MRow W' g kb (.pointer (some ⟨h2, 0, none⟩))) (hH : HoldsH W' h2 (xorB 54 kb)) (ht : Turn g W W') : StF w W' g h2 f kb [] S := by
  have h3 := H.st.glt
  have h4 := H.row.lt
  have h5 := H.st.below.size
  exact ⟨⟨H.st.below.trans (ht.below h5 H.st.lo.1), H.st.k.turn ht (Nat.lt_of_lt_of_le h0 H.st.lo.1), ⟨H.st.lo.1, by omega⟩, ⟨hr, by rw [List.append_nil]; exact hH, by omega⟩⟩, H.row.turn ht H.ne.1, H.ne.1, by omega⟩
theorem StF.write (H : StF w W g h f kb m S) (h0 : 0 < w.heap.size) (ht : Turn h W W') (hm : MacAt W' g h kb m') : StF w W' g h f kb m' S := ⟨H.st.write h0 ht hm, H.row.turn ht H.ne.2, H.ne⟩
end
/-- While the key that was handed in is written over. -/
structure KP (w W : World) (qk : Option Addr) (Nk g h : Nat) (kb : List Int) : Prop where
  st : StC w W g h kb []
  row : ∀ a, qk = some a → ∃ b cur, a = ⟨b, 0, none⟩ ∧ w.heap.size ≤ b ∧ b ≠ g ∧ b ≠ h ∧ RowAt W b cur 5 ∧ Nk ≤ cur.size
  nothing : qk = none → Nk = 0
theorem kp_start {w w1 w2 : World} {qk : Option Addr} {dk Nk g h : Nat} {key kb : List Int} (hm : Mine w w1 qk dk key) (hK : KAt w) (hN : key.length = Nk) (hg : w1.heap.size ≤ g) (hh : w1.heap.size ≤ h) (hM : MacAt w2 g h kb []) (hb : Below w1.heap.size w1 w2) : KP w w2 qk Nk g h kb := by
  have b1 : Below w.heap.size w w2 := hm.below.trans (hb.mono hm.below.size)
  have hz := hm.below.size
  refine ⟨⟨b1, hK.below b1, ⟨by omega, by omega⟩, hM⟩, fun a ha => ?_, fun hq => ?_⟩
  · obtain ⟨b, cur, h1, h2, h3, h4, _⟩ := hm.row a ha
    have h5 := lt_of_heap h3
    refine ⟨b, cur, h1, h2, by omega, by omega, (hb.block b h5).trans h3, ?_⟩
    have := hm.fits
    omega
  · obtain ⟨h1, _⟩ := hm.nothing hq
    rw [← hN, h1]
    rfl
theorem KP.set {w W : World} {Nk g h b : Nat} {kb : List Int} (H : KP w W (some ⟨b, 0, none⟩) Nk g h kb) (h0 : 0 < w.heap.size) (i : Nat) (x : Int) : KP w (W.setCell ⟨b, i, none⟩ (.int .u8 x)) (some ⟨b, 0, none⟩) Nk g h kb := by
  obtain ⟨b', cur, e, h1, h2, h3, h4, h5⟩ := H.row _ rfl
  cases e
  have ht : Turn b W (W.setCell ⟨b, i, none⟩ (.int .u8 x)) := (Turn.refl b W).setCell i _
  refine ⟨⟨H.st.below.trans (ht.below H.st.below.size h1), H.st.k.turn ht (by omega), H.st.lo, H.st.mac.turn ht h2.symm h3.symm⟩, fun a ha => ?_, fun hq => by cases hq⟩
  cases ha
  exact ⟨b, _, rfl, h1, h2, h3, h4.set i _, by simpa using h5⟩
def zero32 : List Int := List.replicate 32 0
theorem msum_zero (w : World) : Calls Tryd.prog 33 #[.pointer none] w fun e w' => e = .returned (.agg (bsv zero32)) ∧ Below w.heap.size w w' := msum_none w
theorem rem90 (x : Int) : -90 < x.tmod 90 ∧ x.tmod 90 < 90 := ⟨by have := Int.lt_tmod_of_pos x (b := 90) (by omega); omega, Int.tmod_lt_of_pos _ (by omega)⟩
theorem take_more2 (B : List Int) (p n : Nat) : B.take p ++ (B.drop p).take n = B.take (p + n) := by
  rw [List.take_add]
def wayT : List Int := [97, 110, 111, 116, 104, 101, 114, 32, 119, 97, 121]
set_option maxRecDepth 20000 in
set_option maxHeartbeats 8000000 in
theorem macpieces_walk (pk pt pc : Option Addr) (Nk ck Nt ct M cc : Nat) (key text : List Int) (w : World) (hK : KAt w) (hk : ArgAt w (.slice pk Nk ck) key) (ht : ArgAt w (.slice pt Nt ct) text)
    (lk : key.length = Nk) (lt : text.length = Nt) (zk : Nk + 200 ≤ 140737488355328) (zt : Nt + 200 ≤ 140737488355328) (hc : CutsAt w pc M) (hM : (M : Int) ≤ 9223372036854775807) :
    Calls Tryd.prog 6 #[.slice pk Nk ck, .slice pt Nt ct, .slice pc M cc] w fun e w' => e = .returned (.bool true) ∧ Below w.heap.size w w' := by
  have HN : Hid (key.length = Nk ∧ text.length = Nt ∧ Nk + 200 ≤ 140737488355328 ∧ Nt + 200 ≤ 140737488355328 ∧ (M : Int) ≤ 9223372036854775807) := ⟨lk, lt, zk, zt, hM⟩
  have HZ : Hid (key.length ≤ 140737488355328 ∧ text.length ≤ 140737488355328) := ⟨by omega, by omega⟩
  have HA : Hid (ArgAt w (.slice pk Nk ck) key ∧ ArgAt w (.slice pt Nt ct) text) := ⟨hk, ht⟩
  have HW := hid hK.lt
  have HK := hid hK
  have HC := hid hc
  have hz1 : (Nk : Int) ≤ 140737488355328 := by omega
  have hz2 : (Nt : Int) ≤ 140737488355328 := by omega
  obtain ⟨kb, HKB⟩ : ∃ kb, Hid (keyB key = kb) := ⟨_, hid rfl⟩
  obtain ⟨H, HH⟩ : ∃ H, Hid (hmac key text = H) := ⟨_, hid rfl⟩
  have HH2 : Hid (hmacK kb text = H) := by rw [← HKB.out]; exact HH
  have HL : Hid (H.length = 32) := by rw [← HH.out]; exact hmac_len _ _
  have E1 := eql_same H HL.out
  have E0 : ∀ w, (Op.equalIn 10000 24 (.agg (bsv zero32)) (.agg #[.int .u8 0, .int .u8 0, .int .u8 0, .int .u8 0, .int .u8 0, .int .u8 0, .int .u8 0, .int .u8 0, .int .u8 0, .int .u8 0, .int .u8 0, .int .u8 0, .int .u8 0, .int .u8 0, .int .u8 0, .int .u8 0, .int .u8 0, .int .u8 0, .int .u8 0, .int .u8 0, .int .u8 0, .int .u8 0, .int .u8 0, .int .u8 0, .int .u8 0, .int .u8 0, .int .u8 0, .int .u8 0, .int .u8 0, .int .u8 0, .int .u8 0, .int .u8 0])).run Tryd.prog w = .ok true w := eql_same zero32 rfl
  clear hK hk ht lk lt zk zt hc hM
  go_enter Tryd.func6, Tryd.ntmps6
  go_wp2_with (first
    | (go_at_call 17; (with_reducible refine (twin_any HA.out.1 HZ.out.1).mono ?_); rintro e w1 ⟨qk, dk, rfl, hm⟩; rw [HN.out.1]; have M1 := hid hm; clear hm)
    | (go_at_call 31; (with_reducible refine (mnew_any (key := key) (HK.out.below M1.out.below) (by have := M1.out.arg; rwa [HN.out.1] at this) HZ.out.1).mono ?_); rintro e w2 ⟨g, h, rfl, hg, hh, hM, hb⟩; rw [HKB.out] at hM; have K0 := hid (kp_start M1.out HK.out HN.out.1 hg hh hM hb); clear hg hh hM hb M1))
  go_loopw [9] (fun i W => ∃ k : Nat, k ≤ Nk ∧ i = .int .i64 k ∧ Hid (KP w W qk Nk g h kb)) (fun i _ => Nk - (intOf i).toNat)
  case atStart => exact ⟨0, Nat.zero_le _, rfl, K0⟩
  case round =>
    clear K0
    obtain ⟨k, hk, rfl, HP⟩ := hrel
    obtain ⟨V, hV⟩ : ∃ V, V = wr := ⟨_, rfl⟩
    rw [← hV] at HP ⊢
    clear hV
    by_cases hlt : k < Nk
    · have hlt' : (k : Int) < Nk := by omega
      cases qk with
      | none => have := HP.out.nothing rfl; omega
      | some a =>
        obtain ⟨b, cur, rfl, h1, h2, h3, h4, h5⟩ := HP.out.row _ rfl
        have hcu : k < cur.size := by omega
        have c0 : V.cell? ⟨b, k, none⟩ = some cur[k] := by rw [h4.cell k]; simp [hcu]
        have f0 := h4.fz k
        generalize cur[k] = y at c0
        clear h1 h2 h3 h4 h5
        go_wp2
        go_roundw
        case rel => exact ⟨k + 1, by omega, by go_num, HP.out.set HW.out k 33⟩
        case measure => simp [intOf]; omega
    · have hlt' : ¬ (k : Int) < Nk := by omega
      have S0 : Hid (StC w V g h kb []) := HP.out.st
      clear HP hlt hk
      go_upto_block 2 with fail
      go_cut [10] from 11 to 72 (fun fv W => ∃ f : Nat, fv = .int .i64 f ∧ f ≤ Nt ∧ StC w W g h kb (text.take f))
      case first =>
        go_wp2_with fail
        go_loopw [10, 11] (fun fv i W => ∃ (a k : Nat), a ≤ Nt ∧ k ≤ 100 ∧ fv = .int .i64 a ∧ i = .int .i64 k ∧ Hid (StC w W g h kb (text.take a))) (fun _ i _ => 100 - (intOf i).toNat)
        case atStart => exact ⟨0, 0, Nat.zero_le _, Nat.zero_le _, rfl, rfl, by rw [List.take_zero]; exact S0⟩
        case round =>
          clear S0
          obtain ⟨a, k, ha, hk, rfl, rfl, HP⟩ := hrel
          obtain ⟨U, hU⟩ : ∃ U, U = wr := ⟨_, rfl⟩
          rw [← hU] at HP ⊢
          clear hU
          have ha' : (a : Int) ≤ Nt := by omega
          by_cases hgo : k < M ∧ k < 100 ∧ a < Nt
          · obtain ⟨g1, g2, g3⟩ := hgo
            have i1 : (k : Int) < M := by omega
            have i2 : (k : Int) < 100 := by omega
            have i3 : (a : Int) < Nt := by omega
            obtain ⟨b, o, x, rfl, hb, hx⟩ := HC.out k g1
            have c0 : U.cell? ⟨b, o + k, none⟩ = some (.int .i64 x) := (HP.out.below.cell (p := ⟨b, o + k, none⟩) hb).trans hx
            obtain ⟨y, hy⟩ : ∃ y, x.tmod 90 = y := ⟨_, rfl⟩
            have hyb := rem90 x
            rw [hy] at hyb
            have hy1 := hyb.1
            have hy2 := hyb.2
            obtain ⟨d, hd, hd1⟩ : ∃ d : Nat, (y + 90).tmod 90 = d ∧ (d : Int) < 90 := by
              rw [Int.tmod_eq_emod_of_nonneg (by omega)]
              exact ⟨((y + 90) % 90).toNat, by omega, by omega⟩
            obtain ⟨e, he⟩ : ∃ e : Nat, (Nt : Int) - a = e := ⟨Nt - a, by omega⟩
            have HE := hid he
            have he1 : (e : Int) ≤ Nt := by omega
            clear hb hx hyb
            go_wp2_with (first
              | (refine wpList_min_as rfl _ _ rfl d e rfl rfl ?_; intro n hn1 hn2; have hn3 : (a : Int) + n ≤ Nt := (by have := HE.out; omega); obtain ⟨q, cq, hq1, hq2, hq3⟩ := slice_lh (HA.out.2.below HP.out.below) HN.out.2.1 a n (by omega); have HQ : Hid ((∀ W, (Instr.sliceAt 22 (.slice pt Nt ct) (some (.int .i64 a)) (some (.int .i64 ((a : Int) + n))) none).run Tryd.prog W = .ok (.slice q n cq) W) ∧ ArgAt U (.slice q n cq) ((text.drop a).take n)) := ⟨hq1, hq2⟩; have HLn : Hid (((text.drop a).take n).length = n) := (by show _ = _; rw [List.length_take, List.length_drop, HN.out.2.1]; omega); clear hq1 hq2 hq3)
              | (refine wpList_slice_lh rfl _ _ _ rfl (.slice pt Nt ct) (.int .i64 a) (.int .i64 ((a : Int) + n)) (.slice q n cq) rfl rfl rfl HQ.out.1 ?_)
              | (go_at_call 17; (with_reducible refine (twin_any (bs := (text.drop a).take n) HQ.out.2 (by have := HLn.out; omega)).mono ?_); rintro e' u1 ⟨qp, cp, rfl, hm⟩; rw [HLn.out]; have MP := hid hm; have P1 := hid (HP.out.next hm.below); clear hm)
              | (go_at_call 32; (with_reducible refine (mwrite_any (bs := (text.drop a).take n) P1.out.mac P1.out.k (Nat.lt_of_lt_of_le HW.out P1.out.lo.2) (by have := MP.out.arg; rwa [HLn.out] at this) (MP.out.off HP.out.hlt) (by rw [HLn.out, List.length_take, HN.out.2.1]; omega)).mono ?_); rintro e' u2 ⟨rfl, hm2, ht2⟩; rw [take_more2] at hm2; have P2 := hid (P1.out.write HW.out ht2 hm2); clear hm2 ht2 MP)
              | (go_at_call 33; (with_reducible refine (msum_any P2.out.mac P2.out.k (by rw [List.length_take, HN.out.2.1]; omega)).mono ?_); rintro e' u3 ⟨rfl, hb3⟩; have P3 := hid (P2.out.next hb3); clear hb3))
            go_roundw
            case rel => exact ⟨a + n, k + 1, by omega, by omega, by go_num, by go_num, P3⟩
            case measure => simp [intOf]; omega
          · rcases (by omega : M ≤ k ∨ (k < M ∧ 100 ≤ k) ∨ (k < M ∧ k < 100 ∧ Nt ≤ a)) with hx | ⟨hx, hy⟩ | ⟨hx, hy, hz⟩
            · have h1 : ¬ (k : Int) < M := by omega
              go_wp2_with (fail)
              go_meet
              case rel => exact ⟨a, rfl, ha, HP.out⟩
            · have h1 : (k : Int) < M := by omega
              have h2 : ¬ (k : Int) < 100 := by omega
              go_wp2_with (fail)
              go_meet
              case rel => exact ⟨a, rfl, ha, HP.out⟩
            · have h1 : (k : Int) < M := by omega
              have h2 : (k : Int) < 100 := by omega
              have h3 : ¬ (a : Int) < Nt := by omega
              go_wp2_with (fail)
              go_meet
              case rel => exact ⟨a, rfl, ha, HP.out⟩
      case rest =>
        obtain ⟨a, rfl, ha, hst⟩ := hcut
        have C0 := hid hst
        clear hst S0
        have ha' : (a : Int) ≤ Nt := by omega
        obtain ⟨r, hr⟩ : ∃ r, a + r = Nt := ⟨Nt - a, by omega⟩
        have HRR := hid hr
        have HLr : Hid ((text.drop a).length = r) := by show _ = _; rw [List.length_drop, HN.out.2.1]; omega
        have hcv := conv22
        clear hr
        go_wp2_with (first
          | (go_at_call 34; (with_reducible refine (mclone_any C0.out.mac).mono ?_); rintro e' v1 ⟨g2, h2, rfl, hg2, hh2, hm2, hb2⟩; have C1 := hid (C0.out.clone hg2 hh2 hm2 hb2); clear hg2 hh2 hm2 hb2 C0; obtain ⟨q, cq, hq1, hq2, hq3⟩ := slice_l (HA.out.2.below C1.out.st.below) HN.out.2.1 a r HRR.out; have HQ : Hid ((∀ W, (Instr.sliceAt 22 (.slice pt Nt ct) (some (.int .i64 a)) none none).run Tryd.prog W = .ok (.slice q r cq) W) ∧ ArgAt v1 (.slice q r cq) (text.drop a)) := ⟨hq1, hq2⟩; clear hq1 hq2 hq3)
          | (refine wpList_slice_l rfl _ _ rfl (.slice pt Nt ct) (.int .i64 a) (.slice q r cq) rfl rfl HQ.out.1 ?_)
          | (go_at_call 17; (with_reducible refine (twin_any (bs := text.drop a) HQ.out.2 (by have := HLr.out; have := HRR.out; have := HN.out; omega)).mono ?_); rintro e' v2 ⟨qp, cp, rfl, hm⟩; rw [HLr.out]; have MP := hid hm; have C2 := hid (C1.out.next hm.below); have HV := hid C1.out.st.hlt; clear hm C1 HQ)
          | (go_at_call 32; (with_reducible refine (mwrite_any (bs := text.drop a) C2.out.st.mac C2.out.st.k (Nat.lt_of_lt_of_le HW.out C2.out.st.lo.2) (by have := MP.out.arg; rwa [HLr.out] at this) (MP.out.off HV.out) (by rw [List.length_take, List.length_drop, HN.out.2.1]; have := HN.out; omega)).mono ?_); rintro e' v3 ⟨rfl, hm3, ht3⟩; rw [List.take_append_drop] at hm3; have C3 := hid (C2.out.write1 HW.out ht3 hm3); clear hm3 ht3 MP C2)
          | (go_at_call 32; (refine (mwrite_any (bs := wayT) (C3.out.mac2.below (below_new _ _)) (C3.out.st.k.below (below_new _ _)) (Nat.lt_of_lt_of_le HW.out C3.out.lo2) (const_arg _ wayT _ (by decide)) (off_ne (Nat.ne_of_gt C3.out.mac2.hash.lt)) (by rw [List.length_take, HN.out.2.1]; have := HN.out; show _ + 11 ≤ _; omega)).mono ?_); rintro e' v4 ⟨rfl, hm4, ht4⟩; have C4 := hid ((C3.out.next (below_new _ _)).write2 HW.out ht4); clear hm4 ht4 C3)
          | (go_at_call 18; (with_reducible refine (macsum_any C4.out.k (HA.out.1.below C4.out.below) (HA.out.2.below C4.out.below) HZ.out.1 HZ.out.2).mono ?_); rintro e' v5 ⟨rfl, hb5⟩; rw [HH.out]; have C5 := hid (C4.out.next hb5); clear hb5 C4)
          | (refine wpList_store_as rfl 24 _ _ rfl _ (bsv H) rfl rfl 24 _ (row_new _ _ _) (by rw [size24, bsv_size, HL.out]) (by rw [bsv_size, HL.out]; rfl) (bsv_one _) ?_; intro v6 hst; have C6 := hid (C5.out.stored hst); clear hst C5))
        clear hcv
        obtain ⟨f, hf⟩ : ∃ f, v5.heap.size = f := ⟨_, rfl⟩
        rw [hf] at C6 ⊢
        clear hf
        refine wp_region_noPanic ?_
        refine any_begin 10 (by kernel_rfl) (by kernel_rfl) ?_
        refine late_begin (fun W => (Instr.loadAt 24 (.pointer (some ⟨f, 0, none⟩))).run Tryd.prog W = .ok (.agg (bsv H)) W) (fun _ => false) (load24 C6.out.drew.row HL.out) (fun hS => ?_)
        replace C6 := hid C6.out.drew
        refine late_take (i := 0) (some 90) rfl rfl (by kernel_rfl) (by kernel_rfl) (by kernel_rfl) (by kernel_rfl) (by kernel_rfl) (fun _ _ _ h => h) (by rfl) (v := ?v0p) ?hy0p hS ?rest0p
        case hy0p => intro w0 hSw; (try dsimp only at hSw); go_simp; try with_reducible rfl
        simp only [Act.put, List.setIfInBounds_toArray, List.set_cons_zero, List.set_cons_succ]
        refine late_take (i := 2) (some 92) rfl rfl (by kernel_rfl) (by kernel_rfl) (by kernel_rfl) (by kernel_rfl) (by kernel_rfl) (fun _ _ _ h => h) (by rfl) (v := .agg (bsv H)) ?hy2p hS ?rest2p
        case hy2p => intro w0 hSw; exact load_yields hSw rfl rfl
        simp only [Act.put, List.setIfInBounds_toArray, List.set_cons_zero, List.set_cons_succ]
        refine wpAnyD_one (i := 1) (by kernel_rfl) rfl (fun K hK => ?_)
        go_simp
        go_at_call 33
        refine (msum_any C6.out.st.mac C6.out.st.k (by rw [HN.out.2.1]; have := HN.out; omega)).mono ?_
        rintro e' v7 ⟨rfl, hb⟩
        rw [HH2.out]
        replace C6 := hid (C6.out.next hb)
        clear hb
        refine hK _ _ ⟨fun _ => load24 C6.out.row HL.out, ?_⟩
        clear hK K
        replace hS := load24 C6.out.row HL.out
        refine late_take (i := 3) (some 93) rfl rfl (by kernel_rfl) (by kernel_rfl) (by kernel_rfl) (by kernel_rfl) (by kernel_rfl) (fun _ _ _ h => h) (by rfl) (v := ?v3p) ?hy3p hS ?rest3p
        case hy3p => intro w0 hSw; (try dsimp only at hSw); go_simp; try with_reducible rfl
        simp only [Act.put, List.setIfInBounds_toArray, List.set_cons_zero, List.set_cons_succ]
        refine late_take (i := 4) (some 94) rfl rfl (by kernel_rfl) (by kernel_rfl) (by kernel_rfl) (by kernel_rfl) (by kernel_rfl) (fun _ _ _ h => h) (by rfl) (v := ?v4p) ?hy4p hS ?rest4p
        case hy4p => intro w0 hSw; (try dsimp only at hSw); go_simp; try with_reducible rfl
        simp only [Act.put, List.setIfInBounds_toArray, List.set_cons_zero, List.set_cons_succ]
        refine late_take (i := 5) (some 95) rfl rfl (by kernel_rfl) (by kernel_rfl) (by kernel_rfl) (by kernel_rfl) (by kernel_rfl) (fun _ _ _ h => h) (by rfl) (v := ?v5p) ?hy5p hS ?rest5p
        case hy5p => intro w0 hSw; (try dsimp only at hSw); go_simp; try with_reducible rfl
        simp only [Act.put, List.setIfInBounds_toArray, List.set_cons_zero, List.set_cons_succ]
        refine late_take (i := 7) (some 97) rfl rfl (by kernel_rfl) (by kernel_rfl) (by kernel_rfl) (by kernel_rfl) (by kernel_rfl) (fun _ _ _ h => h) (by rfl) (v := .agg (bsv H)) ?hy7p hS ?rest7p
        case hy7p => intro w0 hSw; exact load_yields hSw rfl rfl
        simp only [Act.put, List.setIfInBounds_toArray, List.set_cons_zero, List.set_cons_succ]
        refine wpAnyD_one (i := 6) (by kernel_rfl) rfl (fun K hK => ?_)
        go_simp
        go_at_call 33
        refine (msum_any C6.out.st.mac C6.out.st.k (by rw [HN.out.2.1]; have := HN.out; omega)).mono ?_
        rintro e' v8 ⟨rfl, hb⟩
        rw [HH2.out]
        replace C6 := hid (C6.out.next hb)
        clear hb
        refine hK _ _ ⟨fun _ => load24 C6.out.row HL.out, ?_⟩
        clear hK K
        replace hS := load24 C6.out.row HL.out
        refine late_take (i := 8) (some 98) rfl rfl (by kernel_rfl) (by kernel_rfl) (by kernel_rfl) (by kernel_rfl) (by kernel_rfl) (fun _ _ _ h => h) (by rfl) (v := ?v8p) ?hy8p hS ?rest8p
        case hy8p => intro w0 hSw; (try dsimp only at hSw); go_simp; try with_reducible rfl
        simp only [Act.put, List.setIfInBounds_toArray, List.set_cons_zero, List.set_cons_succ]
        refine late_take (i := 9) (some 99) rfl rfl (by kernel_rfl) (by kernel_rfl) (by kernel_rfl) (by kernel_rfl) (by kernel_rfl) (fun _ _ _ h => h) (by rfl) (v := ?v9p) ?hy9p hS ?rest9p
        case hy9p => intro w0 hSw; (try dsimp only at hSw); go_simp; try with_reducible rfl
        simp only [Act.put, List.setIfInBounds_toArray, List.set_cons_zero, List.set_cons_succ]
        refine late_done (by kernel_rfl) ?_ _
        refine NoPanic.normal ?_
        clear hS
        go_wp2_with (first
          | (go_at_call 35; (with_reducible refine (reset_any C6.out.st.mac.row C6.out.st.k (Nat.lt_of_lt_of_le HW.out C6.out.st.lo.1)).mono ?_); rintro e' v9 ⟨h3, rfl, hh3, hr3, hH3, ht3⟩; have C7 := hid (C6.out.reset HW.out hh3 hr3 hH3 ht3); clear hh3 hr3 hH3 ht3 C6)
          | (go_at_call 17; (with_reducible refine (twin_any (HA.out.2.below C7.out.st.below) HZ.out.2).mono ?_); rintro e' v10 ⟨qp2, cp2, rfl, hm⟩; rw [HN.out.2.1]; have MP2 := hid hm; have HV2 := hid C7.out.st.hlt; have C8 := hid (C7.out.next hm.below); clear hm C7)
          | (go_at_call 32; (with_reducible refine (mwrite_any (bs := text) C8.out.st.mac C8.out.st.k (Nat.lt_of_lt_of_le HW.out C8.out.st.lo.2) (by have := MP2.out.arg; rwa [HN.out.2.1] at this) (MP2.out.off HV2.out) (by rw [List.length_nil, HN.out.2.1]; have := HN.out; omega)).mono ?_); rintro e' v11 ⟨rfl, hm3, ht3⟩; rw [List.nil_append] at hm3; have C9 := hid (C8.out.write HW.out ht3 hm3); clear hm3 ht3 MP2 C8)
          | (go_at_call 32; (with_reducible refine (mwrite_none _ _).mono ?_); rintro e' w' ⟨rfl, hw'⟩; have hw2 := hw'.symm; subst hw2)
          | (go_at_call 35; (with_reducible refine (mreset_none _).mono ?_); rintro e' w' ⟨rfl, hw'⟩; have hw2 := hw'.symm; subst hw2))
        refine wp_region_noPanic ?_
        refine any_begin 19 (by kernel_rfl) (by kernel_rfl) ?_
        refine late_begin (fun W => (Instr.loadAt 24 (.pointer (some ⟨f, 0, none⟩))).run Tryd.prog W = .ok (.agg (bsv H)) W) (fun _ => false) (load24 C9.out.drew.row HL.out) (fun hS => ?_)
        replace C9 := hid C9.out.drew
        refine late_take (i := 0) (some 111) rfl rfl (by kernel_rfl) (by kernel_rfl) (by kernel_rfl) (by kernel_rfl) (by kernel_rfl) (fun _ _ _ h => h) (by rfl) (v := ?v0q) ?hy0q hS ?rest0q
        case hy0q => intro w0 hSw; (try dsimp only at hSw); go_simp; try with_reducible rfl
        simp only [Act.put, List.setIfInBounds_toArray, List.set_cons_zero, List.set_cons_succ]
        refine late_take (i := 2) (some 113) rfl rfl (by kernel_rfl) (by kernel_rfl) (by kernel_rfl) (by kernel_rfl) (by kernel_rfl) (fun _ _ _ h => h) (by rfl) (v := .agg (bsv H)) ?hy2q hS ?rest2q
        case hy2q => intro w0 hSw; exact load_yields hSw rfl rfl
        simp only [Act.put, List.setIfInBounds_toArray, List.set_cons_zero, List.set_cons_succ]
        refine wpAnyD_one (i := 1) (by kernel_rfl) rfl (fun K hK => ?_)
        go_simp
        go_at_call 33
        refine (msum_any C9.out.st.mac C9.out.st.k (by rw [HN.out.2.1]; have := HN.out; omega)).mono ?_
        rintro e' v12 ⟨rfl, hb⟩
        rw [HH2.out]
        replace C9 := hid (C9.out.next hb)
        clear hb
        refine hK _ _ ⟨fun _ => load24 C9.out.row HL.out, ?_⟩
        clear hK K
        replace hS := load24 C9.out.row HL.out
        refine late_take (i := 3) (some 114) rfl rfl (by kernel_rfl) (by kernel_rfl) (by kernel_rfl) (by kernel_rfl) (by kernel_rfl) (fun _ _ _ h => h) (by rfl) (v := ?v3q) ?hy3q hS ?rest3q
        case hy3q => intro w0 hSw; (try dsimp only at hSw); go_simp; try with_reducible rfl
        simp only [Act.put, List.setIfInBounds_toArray, List.set_cons_zero, List.set_cons_succ]
        refine late_take (i := 4) (some 115) rfl rfl (by kernel_rfl) (by kernel_rfl) (by kernel_rfl) (by kernel_rfl) (by kernel_rfl) (fun _ _ _ h => h) (by rfl) (v := ?v4q) ?hy4q hS ?rest4q
        case hy4q => intro w0 hSw; (try dsimp only at hSw); go_simp; try with_reducible rfl
        simp only [Act.put, List.setIfInBounds_toArray, List.set_cons_zero, List.set_cons_succ]
        refine late_take (i := 5) (some 116) rfl rfl (by kernel_rfl) (by kernel_rfl) (by kernel_rfl) (by kernel_rfl) (by kernel_rfl) (fun _ _ _ h => h) (by rfl) (v := ?v5q) ?hy5q hS ?rest5q
        case hy5q => intro w0 hSw; (try dsimp only at hSw); go_simp; try with_reducible rfl
        simp only [Act.put, List.setIfInBounds_toArray, List.set_cons_zero, List.set_cons_succ]
        refine late_take (i := 7) (some 118) rfl rfl (by kernel_rfl) (by kernel_rfl) (by kernel_rfl) (by kernel_rfl) (by kernel_rfl) (fun _ _ _ h => h) (by rfl) (v := ?v7q) ?hy7q hS ?rest7q
        case hy7q => intro w0 hSw; (try dsimp only at hSw); go_simp; try with_reducible rfl
        simp only [Act.put, List.setIfInBounds_toArray, List.set_cons_zero, List.set_cons_succ]
        refine wpAnyD_one (i := 6) (by kernel_rfl) rfl (fun K hK => ?_)
        go_simp
        go_at_call 33
        refine (msum_zero _).mono ?_
        rintro e' v13 ⟨rfl, hb⟩
        replace C9 := hid (C9.out.next hb)
        clear hb
        refine hK _ _ ⟨fun _ => load24 C9.out.row HL.out, ?_⟩
        clear hK K
        replace hS := load24 C9.out.row HL.out
        refine late_take (i := 8) (some 119) rfl rfl (by kernel_rfl) (by kernel_rfl) (by kernel_rfl) (by kernel_rfl) (by kernel_rfl) (fun _ _ _ h => h) (by rfl) (v := ?v8q) ?hy8q hS ?rest8q
        case hy8q => intro w0 hSw; (try dsimp only at hSw); go_simp; try with_reducible rfl
        simp only [Act.put, List.setIfInBounds_toArray, List.set_cons_zero, List.set_cons_succ]
        refine late_take (i := 9) (some 120) rfl rfl (by kernel_rfl) (by kernel_rfl) (by kernel_rfl) (by kernel_rfl) (by kernel_rfl) (fun _ _ _ h => h) (by rfl) (v := ?v9q) ?hy9q hS ?rest9q
        case hy9q => intro w0 hSw; (try dsimp only at hSw); go_simp; try with_reducible rfl
        simp only [Act.put, List.setIfInBounds_toArray, List.set_cons_zero, List.set_cons_succ]
        refine late_take (i := 10) (some 121) rfl rfl (by kernel_rfl) (by kernel_rfl) (by kernel_rfl) (by kernel_rfl) (by kernel_rfl) (fun _ _ _ h => h) (by rfl) (v := ?v10q) ?hy10q hS ?rest10q
        case hy10q => intro w0 hSw; (try dsimp only at hSw); go_simp; try with_reducible rfl
        simp only [Act.put, List.setIfInBounds_toArray, List.set_cons_zero, List.set_cons_succ]
        refine late_take (i := 11) (some 122) rfl rfl (by kernel_rfl) (by kernel_rfl) (by kernel_rfl) (by kernel_rfl) (by kernel_rfl) (fun _ _ _ h => h) (by rfl) (v := ?v11q) ?hy11q hS ?rest11q
        case hy11q => intro w0 hSw; (try dsimp only at hSw); go_simp; try with_reducible rfl
        simp only [Act.put, List.setIfInBounds_toArray, List.set_cons_zero, List.set_cons_succ]
        refine wpAnyD_one (i := 12) (by kernel_rfl) rfl (fun K hK => ?_)
        go_simp
        go_at_call 34
        refine (mclone_none _).mono ?_
        rintro e' w' ⟨rfl, rfl⟩
        refine hK _ _ ⟨fun _ => hS, ?_⟩
        clear hK K
        refine late_take (i := 13) (some 124) rfl rfl (by kernel_rfl) (by kernel_rfl) (by kernel_rfl) (by kernel_rfl) (by kernel_rfl) (fun _ _ _ h => h) (by rfl) (v := ?v13q) ?hy13q hS ?rest13q
        case hy13q => intro w0 hSw; (try dsimp only at hSw); go_simp; try with_reducible rfl
        simp only [Act.put, List.setIfInBounds_toArray, List.set_cons_zero, List.set_cons_succ]
        refine late_take (i := 14) (some 125) rfl rfl (by kernel_rfl) (by kernel_rfl) (by kernel_rfl) (by kernel_rfl) (by kernel_rfl) (fun _ _ _ h => h) (by rfl) (v := ?v14q) ?hy14q hS ?rest14q
        case hy14q => intro w0 hSw; (try dsimp only at hSw); go_simp; try with_reducible rfl
        simp only [Act.put, List.setIfInBounds_toArray, List.set_cons_zero, List.set_cons_succ]
        refine late_take (i := 15) (some 126) rfl rfl (by kernel_rfl) (by kernel_rfl) (by kernel_rfl) (by kernel_rfl) (by kernel_rfl) (fun _ _ _ h => h) (by rfl) (v := ?v15q) ?hy15q hS ?rest15q
        case hy15q => intro w0 hSw; (try dsimp only at hSw); go_simp; try with_reducible rfl
        simp only [Act.put, List.setIfInBounds_toArray, List.set_cons_zero, List.set_cons_succ]
        refine wpAnyD_one (i := 16) (by kernel_rfl) rfl (fun K hK => ?_)
        go_simp
        go_at_call 24
        refine (works_any C9.out.st.k).mono ?_
        rintro e' v14 ⟨rfl, hb⟩
        replace C9 := hid (C9.out.next hb)
        clear hb
        refine hK _ _ ⟨fun _ => load24 C9.out.row HL.out, ?_⟩
        clear hK K
        replace hS := load24 C9.out.row HL.out
        refine late_take (i := 17) (some 128) rfl rfl (by kernel_rfl) (by kernel_rfl) (by kernel_rfl) (by kernel_rfl) (by kernel_rfl) (fun _ _ _ h => h) (by rfl) (v := ?v17q) ?hy17q hS ?rest17q
        case hy17q => intro w0 hSw; (try dsimp only at hSw); go_simp; try with_reducible rfl
        simp only [Act.put, List.setIfInBounds_toArray, List.set_cons_zero, List.set_cons_succ]
        refine late_take (i := 18) (some 6) rfl rfl (by kernel_rfl) (by kernel_rfl) (by kernel_rfl) (by kernel_rfl) (by kernel_rfl) (fun _ _ _ h => h) (by rfl) (v := ?v18q) ?hy18q hS ?rest18q
        case hy18q => intro w0 hSw; (try dsimp only at hSw); go_simp; try with_reducible rfl
        simp only [Act.put, List.setIfInBounds_toArray, List.set_cons_zero, List.set_cons_succ]
        refine late_done (by kernel_rfl) ?_ _
        refine NoPanic.normal ?_
        clear hS
        go_wp2
        go_ret
        exact ⟨rfl, C9.out.st.below⟩
end Go.Proofs.YtojcaoieodogdaaDoor
