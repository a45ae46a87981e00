/- JsonBlanks: blanks around a text's parts change nothing. -/
import Derived.Test.YtkoeihliaandeabDoorLay
import Derived.Test.YtkoeihliaandeabDoorMany
namespace Go.Proofs.YtkoeihliaandeabDoor
open Go.RowKit

/-- The whole numbers at a place. -/
def IntsOn (w : World) (zs : List Int) (p : Option Addr) : Prop := ∀ j z, zs[j]? = some z → ∃ g o, p = some ⟨g, o, none⟩ ∧ w.cell? ⟨g, o + j, none⟩ = some (.int .i64 z)
theorem IntsOn.below {w w' : World} {zs : List Int} {p : Option Addr} (h : IntsOn w zs p) (hb : Below w.heap.size w w') : IntsOn w' zs p := fun j z hj => by
  obtain ⟨g, o, h1, h2⟩ := h j z hj
  refine ⟨g, o, h1, ?_⟩
  rw [World.cell?_of_block (w := w) (by exact hb.block g (lt_of_cell h2))]
  exact h2
abbrev blankC : ByteArray := ⟨#[32, 9, 10, 13]⟩
/-- Which of the four blanks a number stands for. -/
def blankJ (z : Int) : Nat := ((z.tmod 4 + 4) % 4).toNat
def blankU (j : Nat) : UInt8 := ([32, 9, 10, 13] : List UInt8).getD j 32
def blankG (zs : List Int) (k : Nat) : UInt8 := blankU (blankJ (zs.getD (k % zs.length) 0))
theorem tmod4 (z : Int) : -3 ≤ z.tmod 4 ∧ z.tmod 4 ≤ 3 := by
  cases z with
  | ofNat n =>
    have : (Int.ofNat n).tmod 4 = ((n % 4 : Nat) : Int) := rfl
    omega
  | negSucc n =>
    have : (Int.negSucc n).tmod 4 = -(((n + 1) % 4 : Nat) : Int) := rfl
    omega
theorem blankJ_lt (z : Int) : blankJ z < 4 := by
  unfold blankJ
  omega
theorem blankU_blank : ∀ j, j < 4 → blanksL.contains (blankU j) = true := by decide
theorem blankG_blank (zs : List Int) (k : Nat) : blanksL.contains (blankG zs k) = true := blankU_blank _ (blankJ_lt _)
theorem blankC_at (i : Nat) (hi : i < 4) : ∀ (j : Nat) (h : j < blankC.size), j = i → (blankC[j]'h).toNat = (blankU i).toNat := by
  intro j h e
  subst e
  obtain rfl | rfl | rfl | rfl : j = 0 ∨ j = 1 ∨ j = 2 ∨ j = 3 := by omega
  all_goals rfl
theorem own_keep {w w' : World} {base : Nat} {v : Value} {acc : B} (h : Own w base v acc) (hb : Below w.heap.size w w') : Own w' base v acc :=
  World.ownsRow.kept h (row := none) ⟨hb.os, hb.tape, hb.output, hb.size, fun k hk _ => hb.block k hk⟩ (by
    rcases v.ownBlock with _ | g
    · exact .inl rfl
    · exact .inr (by simp))
theorem lay_cons {g : Nat → UInt8} {k : Nat} {t e : Bool} {c : UInt8} {s : B} (h : (!t && signB c) = true) : lay g k t e (c :: s) = g k :: c :: 32 :: lay g (k + 1) (tnext t e c).1 (tnext t e c).2 s := by
  simp only [lay]
  rw [if_pos h]
theorem lay_step {g : Nat → UInt8} {k : Nat} {t e : Bool} {c : UInt8} {s : B} (h : (!t && signB c) = false) : lay g k t e (c :: s) = c :: lay g k (tnext t e c).1 (tnext t e c).2 s := by
  simp only [lay]
  rw [if_neg (by rw [h]; decide)]
set_option maxRecDepth 20000 in
set_option maxHeartbeats 8000000 in
theorem jblanks_any (t : JV) (w : World) (cs : List Value) (zs : List Int) (pb : Option Addr) (cb : Nat) (hE : Env w) (hf : Fits t) (hv : ValOn w t cs) (hlen : validN t = 0 → (printV t).length ≤ 4611686018427387904) (hz : IntsOn w zs pb) (hzl : zs.length ≤ 140737488355328) :
    Calls Tryd.prog 3 #[.agg cs.toArray, .slice pb zs.length cb] w fun e w' => e = .returned (.bool true) ∧ Below w.heap.size w w' := by
  obtain ⟨k1, k2, k3, k4, k5, k6, k7, k8, k9, k10, k11, rfl⟩ := hv.form
  have HE := hid hE
  have HF := hid hf
  have HV := hid hv
  have HI := hid hz
  have HB0 := hid (below_new w (C7 k1 k2 k3 k4 k5 k6 k7 k8 k9 k10 k11))
  obtain ⟨P, K, hP⟩ : ∃ P K, printS t = (P, K) := ⟨_, _, rfl⟩
  have HPr := hid (fun W ds (h1 : Env W) (h2 : ValOn W t ds) => print_any t W ds h1 hf h2 hlen)
  simp only [hP, ToldPr] at HPr
  have HSm := hid (sameV_refl t)
  obtain ⟨nb, hnb⟩ : ∃ nb, zs.length = nb := ⟨_, rfl⟩
  have HNb := hid hnb
  rw [hnb]
  rw [hnb] at hzl
  clear hE hf hv hlen hz hnb
  obtain ⟨Q, hQ⟩ : ∃ Q, str P = Q := ⟨_, rfl⟩
  simp only [hQ] at HPr
  by_cases hK : K = 0
  case neg =>
    have HEk := hid (show errOf K = .iface 44 (.int .i64 (K : Int)) from errOf_pos hK)
    clear hP hQ hK
    go_enter Tryd.func3, Tryd.ntmps3
    go_wp2_with (first
      | (go_at_call 4; have hcall := small_any t _ _ HF.out (HV.out.below HB0.out); (with_reducible refine hcall.mono ?_); clear hcall; rintro e w1 ⟨bb, rfl, hb⟩; have HB1 := hid (below_out HB0.out hb); have HX1 := hid (keep7 (heap_alloc_new w (C7 k1 k2 k3 k4 k5 k6 k7 k8 k9 k10 k11)) hb); obtain ⟨x0, x1, x2, x3, x4, x5, x6, _⟩ := seven HX1.out; clear hb; cases bb)
      | (go_at_call 6; have hcall := HPr.out _ _ (HE.out.below HB1.out) (HV.out.below HB1.out); (with_reducible refine hcall.mono ?_); clear hcall; rintro e w2 ⟨rfl, hb⟩; simp only [HEk.out]; have HB2 := hid (below_out HB1.out hb); have HX2 := hid (keep7 HX1.out hb); clear hb)
      | (go_at_call 5; have hcall := works_any _ (HE.out.below HB2.out); (with_reducible refine hcall.mono ?_); clear hcall; rintro e wk ⟨rfl, hb⟩; have HBk := hid (below_out HB2.out hb); clear hb)
      | (go_at_call 5; have hcall := works_any _ (HE.out.below HB1.out); (with_reducible refine hcall.mono ?_); clear hcall; rintro e wk ⟨rfl, hb⟩; have HBk := hid (below_out HB1.out hb); clear hb))
    all_goals
      go_ret
      exact ⟨rfl, HBk.out⟩
  subst hK
  have hv0 : validN t = 0 := by
    have := hP
    unfold printS at this
    split at this
    · rename_i hne
      simp only [Prod.mk.injEq] at this
      exact absurd this.2 hne
    · rename_i hne
      simpa using hne
  have hP2 : P = printV t ∧ (printV t).length ≤ 1048576 := by
    have := hP
    unfold printS at this
    rw [if_neg (by rw [hv0]; simp)] at this
    split at this
    · simp at this
    · simp only [Prod.mk.injEq] at this
      exact ⟨this.1.symm, by omega⟩
  obtain ⟨n, hn⟩ : ∃ n, Q.size = n := ⟨_, rfl⟩
  have hPl : P.length = n := by rw [← hn, ← hQ, str_size]
  have hn20 : n ≤ 1048576 := by rw [← hPl, hP2.1]; exact hP2.2
  have HD := hid (show Q.data.toList = P from by rw [← hQ])
  by_cases hbig : 100000 < n
  · have c1 : (100000 : Int) < (n : Int) := by omega
    clear hP hQ hv0 hP2 hPl
    go_enter Tryd.func3, Tryd.ntmps3
    go_wp2_with (first
      | (go_at_call 4; have hcall := small_any t _ _ HF.out (HV.out.below HB0.out); (with_reducible refine hcall.mono ?_); clear hcall; rintro e w1 ⟨bb, rfl, hb⟩; have HB1 := hid (below_out HB0.out hb); have HX1 := hid (keep7 (heap_alloc_new w (C7 k1 k2 k3 k4 k5 k6 k7 k8 k9 k10 k11)) hb); obtain ⟨x0, x1, x2, x3, x4, x5, x6, _⟩ := seven HX1.out; clear hb; cases bb)
      | (go_at_call 6; have hcall := HPr.out _ _ (HE.out.below HB1.out) (HV.out.below HB1.out); (with_reducible refine hcall.mono ?_); clear hcall; rintro e w2 ⟨rfl, hb⟩; simp only [show errOf 0 = Value.nilIface from rfl]; have HB2 := hid (below_out HB1.out hb); have HX2 := hid (keep7 HX1.out hb); clear hb)
      | (go_at_call 5; have hcall := works_any _ (HE.out.below HB2.out); (with_reducible refine hcall.mono ?_); clear hcall; rintro e wk ⟨rfl, hb⟩; have HBk := hid (below_out HB2.out hb); clear hb)
      | (go_at_call 5; have hcall := works_any _ (HE.out.below HB1.out); (with_reducible refine hcall.mono ?_); clear hcall; rintro e wk ⟨rfl, hb⟩; have HBk := hid (below_out HB1.out hb); clear hb))
    all_goals
      go_ret
      exact ⟨rfl, HBk.out⟩
  have c1 : ¬ (100000 : Int) < (n : Int) := by omega
  by_cases hnb0 : nb = 0
  · subst hnb0
    clear hP hQ hv0 hP2 hPl
    go_enter Tryd.func3, Tryd.ntmps3
    go_wp2_with (first
      | (go_at_call 4; have hcall := small_any t _ _ HF.out (HV.out.below HB0.out); (with_reducible refine hcall.mono ?_); clear hcall; rintro e w1 ⟨bb, rfl, hb⟩; have HB1 := hid (below_out HB0.out hb); have HX1 := hid (keep7 (heap_alloc_new w (C7 k1 k2 k3 k4 k5 k6 k7 k8 k9 k10 k11)) hb); obtain ⟨x0, x1, x2, x3, x4, x5, x6, _⟩ := seven HX1.out; clear hb; cases bb)
      | (go_at_call 6; have hcall := HPr.out _ _ (HE.out.below HB1.out) (HV.out.below HB1.out); (with_reducible refine hcall.mono ?_); clear hcall; rintro e w2 ⟨rfl, hb⟩; simp only [show errOf 0 = Value.nilIface from rfl]; have HB2 := hid (below_out HB1.out hb); have HX2 := hid (keep7 HX1.out hb); clear hb)
      | (go_at_call 5; have hcall := works_any _ (HE.out.below HB2.out); (with_reducible refine hcall.mono ?_); clear hcall; rintro e wk ⟨rfl, hb⟩; have HBk := hid (below_out HB2.out hb); clear hb)
      | (go_at_call 5; have hcall := works_any _ (HE.out.below HB1.out); (with_reducible refine hcall.mono ?_); clear hcall; rintro e wk ⟨rfl, hb⟩; have HBk := hid (below_out HB1.out hb); clear hb))
    all_goals
      go_ret
      exact ⟨rfl, HBk.out⟩
  have c2 : ((nb : Int) == 0) = false := by simp only [beq_eq_false_iff_ne, ne_eq]; omega
  obtain ⟨nn, hpl⟩ := parse_lay (g := blankG zs) (blankG_blank zs) hv0 (by rw [← hP2.1, hPl]; omega)
  rw [← hP2.1] at hpl
  obtain ⟨R, hR⟩ : ∃ R, lay (blankG zs) 0 false false P = R := ⟨_, rfl⟩
  have HR := hid hR
  have HRl := hid (show R.length ≤ 3 * n from by rw [← hR, ← hPl]; exact lay_len _ _ _ _ _)
  have HPp := hid (show parse R = (t, nn, 0) from by rw [← hR]; exact hpl)
  have HPl := hid hPl
  obtain ⟨i0, hi0, hz0, hz1, hz2⟩ := info_parts infoB
  clear hP hQ hv0 hP2 hPl hpl hR hbig
  go_enter Tryd.func3, Tryd.ntmps3
  go_wp2_with (first
    | (go_at_call 4; have hcall := small_any t _ _ HF.out (HV.out.below HB0.out); (with_reducible refine hcall.mono ?_); clear hcall; rintro e w1 ⟨bb, rfl, hb⟩; have HB1 := hid (below_out HB0.out hb); have HX1 := hid (keep7 (heap_alloc_new w (C7 k1 k2 k3 k4 k5 k6 k7 k8 k9 k10 k11)) hb); obtain ⟨x0, x1, x2, x3, x4, x5, x6, _⟩ := seven HX1.out; clear hb; cases bb)
    | (go_at_call 6; have hcall := HPr.out _ _ (HE.out.below HB1.out) (HV.out.below HB1.out); (with_reducible refine hcall.mono ?_); clear hcall; rintro e w2 ⟨rfl, hb⟩; simp only [show errOf 0 = Value.nilIface from rfl]; have HB2 := hid (below_out HB1.out hb); have HX2 := hid (keep7 HX1.out hb); clear hb)
    | (go_at_call 5; have hcall := works_any _ (HE.out.below HB1.out); (with_reducible refine hcall.mono ?_); clear hcall; rintro e wk ⟨rfl, hb⟩; have HBk := hid (below_out HB1.out hb); clear hb))
  · go_ret
    exact ⟨rfl, HBk.out⟩
  go_loopg [7, 8, 9, 10, 11] (n + 1) (fun gk s7 s8 s9 s10 s11 wr => ∃ (i k : Nat) (te ee : Bool) (acc : B), i ≤ n ∧ gk = n - i + 1 ∧ k ≤ i ∧ (te = false → ee = false) ∧ s8 = .bool te ∧ s9 = .bool ee ∧ s10 = .int .i64 (k : Int) ∧ s11 = .int .i64 (i : Int) ∧ acc ++ lay (blankG zs) k te ee (P.drop i) = R ∧ Own wr w2.heap.size s7 acc ∧ Below w2.heap.size w2 wr)
  case atStart => exact ⟨0, 0, false, false, [], by omega, rfl, by omega, fun _ => rfl, rfl, rfl, rfl, rfl, HR.out, ⟨rfl, .inl ⟨rfl, rfl⟩⟩, Below.refl _ _⟩
  case round =>
    obtain ⟨i, k, te, ee, acc, hi, rfl, hki, hte, rfl, rfl, rfl, rfl, hacc, ho, hb⟩ := hrel
    have HA := hid hacc
    have HB := hid hb
    have HZ := hid hb.size
    obtain ⟨p, c0, rfl⟩ := own_slice ho
    obtain ⟨ln, hln⟩ : ∃ ln, acc.length = ln := ⟨_, rfl⟩
    have HLe := hid hln
    have HO := hid ho
    have hlen : ln ≤ 3 * n := by
      rw [← hln]
      have e := congrArg List.length hacc
      rw [List.length_append] at e
      have := HRl.out
      omega
    rw [hln] at HO ⊢
    clear hacc ho hb hln
    by_cases hin : i < n
    case neg =>
      have b1 : ¬ (i : Int) < (n : Int) := by omega
      have HAcc := hid (show acc = R from by
        have e := HA.out
        rw [List.drop_of_length_le (show P.length ≤ i by rw [HPl.out]; omega)] at e
        simpa [lay] using e)
      have hcv := conv_own (World.ownsRowF_of HO.out)
      obtain ⟨S, hS⟩ : ∃ S : ByteArray, (⟨acc.toArray⟩ : ByteArray) = S := ⟨_, rfl⟩
      rw [hS] at hcv
      have HSp := hid (show parse S.data.toList = (t, nn, 0) from by
        have e : S.data.toList = R := by rw [← hS, HAcc.out]
        rw [e]
        exact HPp.out)
      have HSs := hid (show S.size ≤ 9223372036854775807 from by
        have e : S.size = acc.length := by rw [← hS]; show acc.toArray.size = _; simp
        rw [e, HLe.out]
        omega)
      have HB3 := hid (below_out HB2.out HB.out)
      have HX3 := hid (keep7 HX2.out HB.out)
      clear hS
      go_wp2_with (first
        | (go_at_call 7; have hcall := parse_any (w := wr) S HSs.out (HE.out.below HB3.out); rw [HSp.out] at hcall; (with_reducible refine hcall.mono ?_); clear hcall; rintro e w4 ⟨cs, rfl, z1, z2⟩; obtain ⟨b1, b2, b3, b4, b5, b6, b7, b8, b9, b10, b11, rfl⟩ := z1.form; have ZW := hid ((ValOn.of z1).below (below_new _ (C7 b1 b2 b3 b4 b5 b6 b7 b8 b9 b10 b11))); have HB4 := hid (HB3.out.trans ((z2.mono HB3.out.size).trans ((below_new w4 (C7 b1 b2 b3 b4 b5 b6 b7 b8 b9 b10 b11)).mono (Nat.le_trans HB3.out.size z2.size)))); have HX4 := hid (keep7 (keep7 HX3.out z2) (below_new w4 (C7 b1 b2 b3 b4 b5 b6 b7 b8 b9 b10 b11))); obtain ⟨s0, s1, s2, s3, s4, s5, s6, _⟩ := seven HX4.out; simp only [show errOf 0 = Value.nilIface from rfl]; clear z1 z2)
        | (go_at_call 8; have hcall := same_any t t _ _ _ HF.out HF.out (HV.out.below HB4.out) ZW.out; rw [HSm.out] at hcall; (with_reducible refine hcall.mono ?_); clear hcall; rintro e w6 ⟨rfl, hb⟩; have HB6 := hid (below_out HB4.out hb); clear hb)
        | (go_at_call 5; have hcall := works_any _ (HE.out.below HB6.out); (with_reducible refine hcall.mono ?_); clear hcall; rintro e wk ⟨rfl, hb⟩; have HBk := hid (below_out HB6.out hb); clear hb))
      go_ret
      exact ⟨rfl, HBk.out⟩
    have b1 : (i : Int) < (n : Int) := by omega
    have hi1 : i < P.length := by rw [HPl.out]; exact hin
    obtain ⟨c, hc⟩ : ∃ c, P[i] = c := ⟨_, rfl⟩
    have HDr := hid (show P.drop i = c :: P.drop (i + 1) from by rw [drop_get hi1, hc])
    obtain ⟨X, hX⟩ : ∃ X : Nat, c.toNat = X := ⟨_, rfl⟩
    have hby : ∀ h : i < Q.size, (Q[i]'h).toNat = X := fun h => by
      have e : Q.data.toList[i]? = some c := by rw [HD.out, List.getElem?_eq_getElem hi1, hc]
      have e2 : Q.data[i]? = some (Q.data[i]'h) := Array.getElem?_eq_getElem h
      have e3 : Q.data.toList[i]? = Q.data[i]? := by simp
      have e4 : Q.data[i]'h = c := Option.some.inj (e2.symm.trans (e3.symm.trans e))
      rw [← hX, ← e4]
      rfl
    have HCc := hid (show Lib.byteCells [c] = [.int .u8 (X : Int)] from by simp [Lib.byteCells, hX])
    clear hc hi1
    cases te with
    | true =>
      cases ee with
      | true =>
        have HSt := hid (show lay (blankG zs) k true true (c :: P.drop (i + 1)) = c :: lay (blankG zs) k true false (P.drop (i + 1)) from rfl)
        clear hX hte
        go_wp2_with (at_builtin; refine wpList_append_own_at _ rfl (.tmp 91) (.tmp 93) 33 rfl w2.heap.size 5 i0 _ 1 1 Tryd.underlying33 hi0 hz0 hz1 hz2 rfl (by decide) (.slice p ln c0) (ln) (Lib.byteCells acc) (by go_simp) (by have h8 := HO.out.alloc (.cells #[.int .u8 (X : Int)] 5 (0, 0)); unfold Own at h8; rw [HLe.out] at h8; exact h8) ⟨wr.heap.size, 0, none⟩ 1 1 [.int .u8 (X : Int)] (by go_simp) rfl (cells_new wr _ _) (by simp [Value.oneCell']) (by unfold maxLen; omega) (by omega) (Nat.le_trans HB.out.size (below_new _ _).size) ?_; intro v' wa hown hgr _ _; obtain ⟨p7, L7, c7, rfl⟩ := own_slice3 hown; have HBa := hid (HB.out.trans (((below_new wr (.cells #[.int .u8 (X : Int)] 5 (0, 0))).mono HB.out.size).trans (Own.below (HO.out.alloc (.cells #[.int .u8 (X : Int)] 5 (0, 0))) (Nat.le_trans HB.out.size (below_new _ _).size) hgr))); have HOa := hid (Own.put (acc := acc) (bs := [c]) (by rw [HLe.out]; exact hown) HCc.out rfl); clear hown hgr)
        go_roundg (n - (i + 1) + 1)
        case measure => omega
        case rel => exact ⟨i + 1, k, true, false, acc ++ [c], by omega, rfl, by omega, by simp, rfl, rfl, rfl, by push_cast; rfl, by rw [← HA.out, HDr.out, HSt.out, List.append_assoc]; rfl, HOa.out, HBa.out⟩
      | false =>
        by_cases h92 : X = 92
        · obtain rfl : c = 92 := UInt8.toNat_inj.1 (hX.trans h92)
          subst h92
          have HSt := hid (show lay (blankG zs) k true false (92 :: P.drop (i + 1)) = 92 :: lay (blankG zs) k true true (P.drop (i + 1)) from rfl)
          clear hX hte
          go_wp2_with (at_builtin; refine wpList_append_own_at _ rfl (.tmp 91) (.tmp 93) 33 rfl w2.heap.size 5 i0 _ 1 1 Tryd.underlying33 hi0 hz0 hz1 hz2 rfl (by decide) (.slice p ln c0) (ln) (Lib.byteCells acc) (by go_simp) (by have h8 := HO.out.alloc (.cells #[.int .u8 92] 5 (0, 0)); unfold Own at h8; rw [HLe.out] at h8; exact h8) ⟨wr.heap.size, 0, none⟩ 1 1 [.int .u8 92] (by go_simp) rfl (cells_new wr _ _) (by simp [Value.oneCell']) (by unfold maxLen; omega) (by omega) (Nat.le_trans HB.out.size (below_new _ _).size) ?_; intro v' wa hown hgr _ _; obtain ⟨p7, L7, c7, rfl⟩ := own_slice3 hown; have HBa := hid (HB.out.trans (((below_new wr (.cells #[.int .u8 92] 5 (0, 0))).mono HB.out.size).trans (Own.below (HO.out.alloc (.cells #[.int .u8 92] 5 (0, 0))) (Nat.le_trans HB.out.size (below_new _ _).size) hgr))); have HOa := hid (Own.put (acc := acc) (bs := [92]) (by rw [HLe.out]; exact hown) HCc.out rfl); clear hown hgr)
          go_roundg (n - (i + 1) + 1)
          case measure => omega
          case rel => exact ⟨i + 1, k, true, true, acc ++ [92], by omega, rfl, by omega, by simp, rfl, rfl, rfl, by push_cast; rfl, by rw [← HA.out, HDr.out, HSt.out, List.append_assoc]; rfl, HOa.out, HBa.out⟩
        by_cases h34 : X = 34
        · obtain rfl : c = 34 := UInt8.toNat_inj.1 (hX.trans h34)
          subst h34
          have HSt := hid (show lay (blankG zs) k true false (34 :: P.drop (i + 1)) = 34 :: lay (blankG zs) k false false (P.drop (i + 1)) from rfl)
          clear hX hte
          go_wp2_with (at_builtin; refine wpList_append_own_at _ rfl (.tmp 91) (.tmp 93) 33 rfl w2.heap.size 5 i0 _ 1 1 Tryd.underlying33 hi0 hz0 hz1 hz2 rfl (by decide) (.slice p ln c0) (ln) (Lib.byteCells acc) (by go_simp) (by have h8 := HO.out.alloc (.cells #[.int .u8 34] 5 (0, 0)); unfold Own at h8; rw [HLe.out] at h8; exact h8) ⟨wr.heap.size, 0, none⟩ 1 1 [.int .u8 34] (by go_simp) rfl (cells_new wr _ _) (by simp [Value.oneCell']) (by unfold maxLen; omega) (by omega) (Nat.le_trans HB.out.size (below_new _ _).size) ?_; intro v' wa hown hgr _ _; obtain ⟨p7, L7, c7, rfl⟩ := own_slice3 hown; have HBa := hid (HB.out.trans (((below_new wr (.cells #[.int .u8 34] 5 (0, 0))).mono HB.out.size).trans (Own.below (HO.out.alloc (.cells #[.int .u8 34] 5 (0, 0))) (Nat.le_trans HB.out.size (below_new _ _).size) hgr))); have HOa := hid (Own.put (acc := acc) (bs := [34]) (by rw [HLe.out]; exact hown) HCc.out rfl); clear hown hgr)
          go_roundg (n - (i + 1) + 1)
          case measure => omega
          case rel => exact ⟨i + 1, k, false, false, acc ++ [34], by omega, rfl, by omega, by simp, rfl, rfl, rfl, by push_cast; rfl, by rw [← HA.out, HDr.out, HSt.out, List.append_assoc]; rfl, HOa.out, HBa.out⟩
        have HSt := hid (show lay (blankG zs) k true false (c :: P.drop (i + 1)) = c :: lay (blankG zs) k true false (P.drop (i + 1)) from lay_in _ (fun e => h34 (by rw [← hX, e]; rfl)) (fun e => h92 (by rw [← hX, e]; rfl)) _ _)
        have n92 : ((X : Int) == 92) = false := by simp only [beq_eq_false_iff_ne, ne_eq]; omega
        have n34 : ((X : Int) == 34) = false := by simp only [beq_eq_false_iff_ne, ne_eq]; omega
        clear hX hte h92 h34
        go_wp2_with (at_builtin; refine wpList_append_own_at _ rfl (.tmp 91) (.tmp 93) 33 rfl w2.heap.size 5 i0 _ 1 1 Tryd.underlying33 hi0 hz0 hz1 hz2 rfl (by decide) (.slice p ln c0) (ln) (Lib.byteCells acc) (by go_simp) (by have h8 := HO.out.alloc (.cells #[.int .u8 (X : Int)] 5 (0, 0)); unfold Own at h8; rw [HLe.out] at h8; exact h8) ⟨wr.heap.size, 0, none⟩ 1 1 [.int .u8 (X : Int)] (by go_simp) rfl (cells_new wr _ _) (by simp [Value.oneCell']) (by unfold maxLen; omega) (by omega) (Nat.le_trans HB.out.size (below_new _ _).size) ?_; intro v' wa hown hgr _ _; obtain ⟨p7, L7, c7, rfl⟩ := own_slice3 hown; have HBa := hid (HB.out.trans (((below_new wr (.cells #[.int .u8 (X : Int)] 5 (0, 0))).mono HB.out.size).trans (Own.below (HO.out.alloc (.cells #[.int .u8 (X : Int)] 5 (0, 0))) (Nat.le_trans HB.out.size (below_new _ _).size) hgr))); have HOa := hid (Own.put (acc := acc) (bs := [c]) (by rw [HLe.out]; exact hown) HCc.out rfl); clear hown hgr)
        go_roundg (n - (i + 1) + 1)
        case measure => omega
        case rel => exact ⟨i + 1, k, true, false, acc ++ [c], by omega, rfl, by omega, by simp, rfl, rfl, rfl, by push_cast; rfl, by rw [← HA.out, HDr.out, HSt.out, List.append_assoc]; rfl, HOa.out, HBa.out⟩
    | false =>
      obtain rfl := hte rfl
      cases hsg : signB c with
      | false =>
        have hns : X ≠ 91 ∧ X ≠ 93 ∧ X ≠ 123 ∧ X ≠ 125 ∧ X ≠ 44 ∧ X ≠ 58 := by
          have key : ∀ m, m < 256 → signB (UInt8.ofNat m) = false → m ≠ 91 ∧ m ≠ 93 ∧ m ≠ 123 ∧ m ≠ 125 ∧ m ≠ 44 ∧ m ≠ 58 := by decide +kernel
          have := key c.toNat c.toNat_lt (by rw [UInt8.ofNat_toNat]; exact hsg)
          rwa [hX] at this
        obtain ⟨s1, s2, s3, s4, s5, s6⟩ := hns
        by_cases h34 : X = 34
        · obtain rfl : c = 34 := UInt8.toNat_inj.1 (hX.trans h34)
          subst h34
          have HSt := hid (show lay (blankG zs) k false false (34 :: P.drop (i + 1)) = 34 :: lay (blankG zs) k true false (P.drop (i + 1)) from rfl)
          clear hX hte s1 s2 s3 s4 s5 s6 hsg
          go_wp2_with (at_builtin; refine wpList_append_own_at _ rfl (.tmp 91) (.tmp 93) 33 rfl w2.heap.size 5 i0 _ 1 1 Tryd.underlying33 hi0 hz0 hz1 hz2 rfl (by decide) (.slice p ln c0) (ln) (Lib.byteCells acc) (by go_simp) (by have h8 := HO.out.alloc (.cells #[.int .u8 34] 5 (0, 0)); unfold Own at h8; rw [HLe.out] at h8; exact h8) ⟨wr.heap.size, 0, none⟩ 1 1 [.int .u8 34] (by go_simp) rfl (cells_new wr _ _) (by simp [Value.oneCell']) (by unfold maxLen; omega) (by omega) (Nat.le_trans HB.out.size (below_new _ _).size) ?_; intro v' wa hown hgr _ _; obtain ⟨p7, L7, c7, rfl⟩ := own_slice3 hown; have HBa := hid (HB.out.trans (((below_new wr (.cells #[.int .u8 34] 5 (0, 0))).mono HB.out.size).trans (Own.below (HO.out.alloc (.cells #[.int .u8 34] 5 (0, 0))) (Nat.le_trans HB.out.size (below_new _ _).size) hgr))); have HOa := hid (Own.put (acc := acc) (bs := [34]) (by rw [HLe.out]; exact hown) HCc.out rfl); clear hown hgr)
          go_roundg (n - (i + 1) + 1)
          case measure => omega
          case rel => exact ⟨i + 1, k, true, false, acc ++ [34], by omega, rfl, by omega, by simp, rfl, rfl, rfl, by push_cast; rfl, by rw [← HA.out, HDr.out, HSt.out, List.append_assoc]; rfl, HOa.out, HBa.out⟩
        have HSt := hid (show lay (blankG zs) k false false (c :: P.drop (i + 1)) = c :: lay (blankG zs) k false false (P.drop (i + 1)) from lay_plain _ hsg (fun e => h34 (by rw [← hX, e]; rfl)) _ _)
        have n91 : ((X : Int) == 91) = false := by simp only [beq_eq_false_iff_ne, ne_eq]; omega
        have n93 : ((X : Int) == 93) = false := by simp only [beq_eq_false_iff_ne, ne_eq]; omega
        have n123 : ((X : Int) == 123) = false := by simp only [beq_eq_false_iff_ne, ne_eq]; omega
        have n125 : ((X : Int) == 125) = false := by simp only [beq_eq_false_iff_ne, ne_eq]; omega
        have n44 : ((X : Int) == 44) = false := by simp only [beq_eq_false_iff_ne, ne_eq]; omega
        have n58 : ((X : Int) == 58) = false := by simp only [beq_eq_false_iff_ne, ne_eq]; omega
        have n34 : ((X : Int) == 34) = false := by simp only [beq_eq_false_iff_ne, ne_eq]; omega
        clear hX hte s1 s2 s3 s4 s5 s6 hsg h34
        go_wp2_with (at_builtin; refine wpList_append_own_at _ rfl (.tmp 91) (.tmp 93) 33 rfl w2.heap.size 5 i0 _ 1 1 Tryd.underlying33 hi0 hz0 hz1 hz2 rfl (by decide) (.slice p ln c0) (ln) (Lib.byteCells acc) (by go_simp) (by have h8 := HO.out.alloc (.cells #[.int .u8 (X : Int)] 5 (0, 0)); unfold Own at h8; rw [HLe.out] at h8; exact h8) ⟨wr.heap.size, 0, none⟩ 1 1 [.int .u8 (X : Int)] (by go_simp) rfl (cells_new wr _ _) (by simp [Value.oneCell']) (by unfold maxLen; omega) (by omega) (Nat.le_trans HB.out.size (below_new _ _).size) ?_; intro v' wa hown hgr _ _; obtain ⟨p7, L7, c7, rfl⟩ := own_slice3 hown; have HBa := hid (HB.out.trans (((below_new wr (.cells #[.int .u8 (X : Int)] 5 (0, 0))).mono HB.out.size).trans (Own.below (HO.out.alloc (.cells #[.int .u8 (X : Int)] 5 (0, 0))) (Nat.le_trans HB.out.size (below_new _ _).size) hgr))); have HOa := hid (Own.put (acc := acc) (bs := [c]) (by rw [HLe.out]; exact hown) HCc.out rfl); clear hown hgr)
        go_roundg (n - (i + 1) + 1)
        case measure => omega
        case rel => exact ⟨i + 1, k, false, false, acc ++ [c], by omega, rfl, by omega, by simp, rfl, rfl, rfl, by push_cast; rfl, by rw [← HA.out, HDr.out, HSt.out, List.append_assoc]; rfl, HOa.out, HBa.out⟩
      | true =>
        have hkn : k % nb < zs.length := by rw [HNb.out]; exact Nat.mod_lt _ (by omega)
        obtain ⟨z, hz⟩ : ∃ z, zs[k % nb] = z := ⟨_, rfl⟩
        obtain ⟨g, o, rfl, hcz⟩ := HI.out.below (below_out HB2.out HB.out) (k % nb) z (by rw [List.getElem?_eq_getElem hkn, hz])
        have HGk := hid (show blankG zs k = blankU (blankJ z) from by
          unfold blankG
          rw [HNb.out, List.getD_eq_getElem?_getD, List.getElem?_eq_getElem hkn, hz]
          rfl)
        have hJ4 := blankJ_lt z
        obtain ⟨y, hy⟩ : ∃ y, z.tmod 4 = y := ⟨_, rfl⟩
        have hy3 := tmod4 z
        rw [hy] at hy3
        obtain ⟨J, hJ⟩ : ∃ J, blankJ z = J := ⟨_, rfl⟩
        have hJy : (y + 4).tmod 4 = (J : Int) := by
          rw [Int.tmod_eq_emod_of_nonneg (by omega), ← hJ]
          unfold blankJ
          rw [hy]
          omega
        have hwy : wrap64 (y + 4) = y + 4 := by unfold wrap64; omega
        rw [hJ] at hJ4 HGk
        have HBc := hid (blankC_at J hJ4)
        obtain ⟨G, hG⟩ : ∃ G, (blankU J).toNat = G := ⟨_, rfl⟩
        rw [hG] at HBc
        have HGc := hid (show Lib.byteCells [blankU J] = [.int .u8 (G : Int)] from by simp [Lib.byteCells, hG])
        have hbyG : ∀ h : J < (⟨#[32, 9, 10, 13]⟩ : ByteArray).size, ((⟨#[32, 9, 10, 13]⟩ : ByteArray)[J]'h).toNat = G := fun h => HBc.out J h rfl
        have hrem : (k : Int).tmod (nb : Int) = ((k % nb : Nat) : Int) := by
          rw [Int.tmod_eq_emod_of_nonneg (by omega)]
          omega
        obtain ⟨kr, hkr⟩ : ∃ kr, k % nb = kr := ⟨_, rfl⟩
        have hkr2 : kr < nb := by rw [← hkr]; exact Nat.mod_lt _ (by omega)
        rw [hkr] at hrem hcz
        have HSt := hid (show lay (blankG zs) k false false (c :: P.drop (i + 1)) = blankU J :: c :: 32 :: lay (blankG zs) (k + 1) false false (P.drop (i + 1)) from by rw [lay_sign _ hsg, HGk.out])
        have HL1 := hid (show (acc ++ [blankU J]).length = ln + 1 from by rw [List.length_append, HLe.out]; rfl)
        have HL2 := hid (show (acc ++ [blankU J] ++ [c]).length = ln + 2 from by rw [List.length_append, HL1.out]; rfl)
        have H32 := hid (show Lib.byteCells [32] = [.int .u8 32] from rfl)
        have h6 : X = 91 ∨ X = 93 ∨ X = 123 ∨ X = 125 ∨ X = 44 ∨ X = 58 := by
          rcases sign_cases hsg with e | e | e | e | e | e <;> (rw [e] at hX; rw [← hX]; decide)
        clear hX hte hsg hz hkn hkr hJ hG
        rcases h6 with rfl | rfl | rfl | rfl | rfl | rfl
        · go_wp2_with (first
            | (at_builtin; refine wpList_append_own_at _ rfl (.tmp 75) (.tmp 87) 33 rfl w2.heap.size 5 i0 _ 1 1 Tryd.underlying33 hi0 hz0 hz1 hz2 rfl (by decide) (.slice p ln c0) (ln) (Lib.byteCells acc) (by go_simp) (by have h8 := HO.out.alloc (.cells #[.int .u8 (G : Int)] 5 (0, 0)); unfold Own at h8; rw [HLe.out] at h8; exact h8) ⟨wr.heap.size, 0, none⟩ 1 1 [.int .u8 (G : Int)] (by go_simp) rfl (cells_new wr _ _) (by simp [Value.oneCell']) (by unfold maxLen; omega) (by omega) (Nat.le_trans HB.out.size (below_new _ _).size) ?_; intro v' wa hown hgr _ _; obtain ⟨p7, L7, c7, rfl⟩ := own_slice3 hown; have HBa := hid (HB.out.trans (((below_new wr (.cells #[.int .u8 (G : Int)] 5 (0, 0))).mono HB.out.size).trans (Own.below (HO.out.alloc (.cells #[.int .u8 (G : Int)] 5 (0, 0))) (Nat.le_trans HB.out.size (below_new _ _).size) hgr))); have HOa := hid (Own.put (acc := acc) (bs := [blankU J]) (by rw [HLe.out]; exact hown) HGc.out rfl); clear hown hgr)
            | (at_builtin; refine wpList_append_own_at _ rfl (.tmp 91) (.tmp 93) 33 rfl w2.heap.size 5 i0 _ 1 1 Tryd.underlying33 hi0 hz0 hz1 hz2 rfl (by decide) (.slice p7 L7 c7) (ln + 1) (Lib.byteCells (acc ++ [blankU J])) (by go_simp) (by have h8 := HOa.out.alloc (.cells #[.int .u8 91] 5 (0, 0)); unfold Own at h8; rw [HL1.out] at h8; exact h8) ⟨wa.heap.size, 0, none⟩ 1 1 [.int .u8 91] (by go_simp) rfl (cells_new wa _ _) (by simp [Value.oneCell']) (by unfold maxLen; omega) (by omega) (Nat.le_trans HBa.out.size (below_new _ _).size) ?_; intro v' wb hown hgr _ _; obtain ⟨p8, L8, c8, rfl⟩ := own_slice3 hown; have HBb := hid (HBa.out.trans (((below_new wa (.cells #[.int .u8 91] 5 (0, 0))).mono HBa.out.size).trans (Own.below (HOa.out.alloc (.cells #[.int .u8 91] 5 (0, 0))) (Nat.le_trans HBa.out.size (below_new _ _).size) hgr))); have HOb := hid (Own.put (acc := (acc ++ [blankU J])) (bs := [c]) (by rw [HL1.out]; exact hown) HCc.out rfl); clear hown hgr)
            | (at_builtin; refine wpList_append_own_at _ rfl (.tmp 96) (.tmp 97) 33 rfl w2.heap.size 5 i0 _ 1 1 Tryd.underlying33 hi0 hz0 hz1 hz2 rfl (by decide) (.slice p8 L8 c8) (ln + 2) (Lib.byteCells (acc ++ [blankU J] ++ [c])) (by go_simp) (by have h8 := HOb.out.alloc (.cells #[.int .u8 32] 5 (0, 0)); unfold Own at h8; rw [HL2.out] at h8; exact h8) ⟨wb.heap.size, 0, none⟩ 1 1 [.int .u8 32] (by go_simp) rfl (cells_new wb _ _) (by simp [Value.oneCell']) (by unfold maxLen; omega) (by omega) (Nat.le_trans HBb.out.size (below_new _ _).size) ?_; intro v' wc hown hgr _ _; obtain ⟨p9, L9, c9, rfl⟩ := own_slice3 hown; have HBc2 := hid (HBb.out.trans (((below_new wb (.cells #[.int .u8 32] 5 (0, 0))).mono HBb.out.size).trans (Own.below (HOb.out.alloc (.cells #[.int .u8 32] 5 (0, 0))) (Nat.le_trans HBb.out.size (below_new _ _).size) hgr))); have HOc := hid (Own.put (acc := (acc ++ [blankU J] ++ [c])) (bs := [32]) (by rw [HL2.out]; exact hown) H32.out rfl); clear hown hgr))
          go_roundg (n - (i + 1) + 1)
          case measure => omega
          case rel => exact ⟨i + 1, k + 1, false, false, acc ++ [blankU J] ++ [c] ++ [32], by omega, rfl, by omega, fun _ => rfl, rfl, rfl, by push_cast; rfl, by push_cast; rfl, by rw [← HA.out, HDr.out, HSt.out]; simp, HOc.out, HBc2.out⟩
        · go_wp2_with (first
            | (at_builtin; refine wpList_append_own_at _ rfl (.tmp 75) (.tmp 87) 33 rfl w2.heap.size 5 i0 _ 1 1 Tryd.underlying33 hi0 hz0 hz1 hz2 rfl (by decide) (.slice p ln c0) (ln) (Lib.byteCells acc) (by go_simp) (by have h8 := HO.out.alloc (.cells #[.int .u8 (G : Int)] 5 (0, 0)); unfold Own at h8; rw [HLe.out] at h8; exact h8) ⟨wr.heap.size, 0, none⟩ 1 1 [.int .u8 (G : Int)] (by go_simp) rfl (cells_new wr _ _) (by simp [Value.oneCell']) (by unfold maxLen; omega) (by omega) (Nat.le_trans HB.out.size (below_new _ _).size) ?_; intro v' wa hown hgr _ _; obtain ⟨p7, L7, c7, rfl⟩ := own_slice3 hown; have HBa := hid (HB.out.trans (((below_new wr (.cells #[.int .u8 (G : Int)] 5 (0, 0))).mono HB.out.size).trans (Own.below (HO.out.alloc (.cells #[.int .u8 (G : Int)] 5 (0, 0))) (Nat.le_trans HB.out.size (below_new _ _).size) hgr))); have HOa := hid (Own.put (acc := acc) (bs := [blankU J]) (by rw [HLe.out]; exact hown) HGc.out rfl); clear hown hgr)
            | (at_builtin; refine wpList_append_own_at _ rfl (.tmp 91) (.tmp 93) 33 rfl w2.heap.size 5 i0 _ 1 1 Tryd.underlying33 hi0 hz0 hz1 hz2 rfl (by decide) (.slice p7 L7 c7) (ln + 1) (Lib.byteCells (acc ++ [blankU J])) (by go_simp) (by have h8 := HOa.out.alloc (.cells #[.int .u8 93] 5 (0, 0)); unfold Own at h8; rw [HL1.out] at h8; exact h8) ⟨wa.heap.size, 0, none⟩ 1 1 [.int .u8 93] (by go_simp) rfl (cells_new wa _ _) (by simp [Value.oneCell']) (by unfold maxLen; omega) (by omega) (Nat.le_trans HBa.out.size (below_new _ _).size) ?_; intro v' wb hown hgr _ _; obtain ⟨p8, L8, c8, rfl⟩ := own_slice3 hown; have HBb := hid (HBa.out.trans (((below_new wa (.cells #[.int .u8 93] 5 (0, 0))).mono HBa.out.size).trans (Own.below (HOa.out.alloc (.cells #[.int .u8 93] 5 (0, 0))) (Nat.le_trans HBa.out.size (below_new _ _).size) hgr))); have HOb := hid (Own.put (acc := (acc ++ [blankU J])) (bs := [c]) (by rw [HL1.out]; exact hown) HCc.out rfl); clear hown hgr)
            | (at_builtin; refine wpList_append_own_at _ rfl (.tmp 96) (.tmp 97) 33 rfl w2.heap.size 5 i0 _ 1 1 Tryd.underlying33 hi0 hz0 hz1 hz2 rfl (by decide) (.slice p8 L8 c8) (ln + 2) (Lib.byteCells (acc ++ [blankU J] ++ [c])) (by go_simp) (by have h8 := HOb.out.alloc (.cells #[.int .u8 32] 5 (0, 0)); unfold Own at h8; rw [HL2.out] at h8; exact h8) ⟨wb.heap.size, 0, none⟩ 1 1 [.int .u8 32] (by go_simp) rfl (cells_new wb _ _) (by simp [Value.oneCell']) (by unfold maxLen; omega) (by omega) (Nat.le_trans HBb.out.size (below_new _ _).size) ?_; intro v' wc hown hgr _ _; obtain ⟨p9, L9, c9, rfl⟩ := own_slice3 hown; have HBc2 := hid (HBb.out.trans (((below_new wb (.cells #[.int .u8 32] 5 (0, 0))).mono HBb.out.size).trans (Own.below (HOb.out.alloc (.cells #[.int .u8 32] 5 (0, 0))) (Nat.le_trans HBb.out.size (below_new _ _).size) hgr))); have HOc := hid (Own.put (acc := (acc ++ [blankU J] ++ [c])) (bs := [32]) (by rw [HL2.out]; exact hown) H32.out rfl); clear hown hgr))
          go_roundg (n - (i + 1) + 1)
          case measure => omega
          case rel => exact ⟨i + 1, k + 1, false, false, acc ++ [blankU J] ++ [c] ++ [32], by omega, rfl, by omega, fun _ => rfl, rfl, rfl, by push_cast; rfl, by push_cast; rfl, by rw [← HA.out, HDr.out, HSt.out]; simp, HOc.out, HBc2.out⟩
        · go_wp2_with (first
            | (at_builtin; refine wpList_append_own_at _ rfl (.tmp 75) (.tmp 87) 33 rfl w2.heap.size 5 i0 _ 1 1 Tryd.underlying33 hi0 hz0 hz1 hz2 rfl (by decide) (.slice p ln c0) (ln) (Lib.byteCells acc) (by go_simp) (by have h8 := HO.out.alloc (.cells #[.int .u8 (G : Int)] 5 (0, 0)); unfold Own at h8; rw [HLe.out] at h8; exact h8) ⟨wr.heap.size, 0, none⟩ 1 1 [.int .u8 (G : Int)] (by go_simp) rfl (cells_new wr _ _) (by simp [Value.oneCell']) (by unfold maxLen; omega) (by omega) (Nat.le_trans HB.out.size (below_new _ _).size) ?_; intro v' wa hown hgr _ _; obtain ⟨p7, L7, c7, rfl⟩ := own_slice3 hown; have HBa := hid (HB.out.trans (((below_new wr (.cells #[.int .u8 (G : Int)] 5 (0, 0))).mono HB.out.size).trans (Own.below (HO.out.alloc (.cells #[.int .u8 (G : Int)] 5 (0, 0))) (Nat.le_trans HB.out.size (below_new _ _).size) hgr))); have HOa := hid (Own.put (acc := acc) (bs := [blankU J]) (by rw [HLe.out]; exact hown) HGc.out rfl); clear hown hgr)
            | (at_builtin; refine wpList_append_own_at _ rfl (.tmp 91) (.tmp 93) 33 rfl w2.heap.size 5 i0 _ 1 1 Tryd.underlying33 hi0 hz0 hz1 hz2 rfl (by decide) (.slice p7 L7 c7) (ln + 1) (Lib.byteCells (acc ++ [blankU J])) (by go_simp) (by have h8 := HOa.out.alloc (.cells #[.int .u8 123] 5 (0, 0)); unfold Own at h8; rw [HL1.out] at h8; exact h8) ⟨wa.heap.size, 0, none⟩ 1 1 [.int .u8 123] (by go_simp) rfl (cells_new wa _ _) (by simp [Value.oneCell']) (by unfold maxLen; omega) (by omega) (Nat.le_trans HBa.out.size (below_new _ _).size) ?_; intro v' wb hown hgr _ _; obtain ⟨p8, L8, c8, rfl⟩ := own_slice3 hown; have HBb := hid (HBa.out.trans (((below_new wa (.cells #[.int .u8 123] 5 (0, 0))).mono HBa.out.size).trans (Own.below (HOa.out.alloc (.cells #[.int .u8 123] 5 (0, 0))) (Nat.le_trans HBa.out.size (below_new _ _).size) hgr))); have HOb := hid (Own.put (acc := (acc ++ [blankU J])) (bs := [c]) (by rw [HL1.out]; exact hown) HCc.out rfl); clear hown hgr)
            | (at_builtin; refine wpList_append_own_at _ rfl (.tmp 96) (.tmp 97) 33 rfl w2.heap.size 5 i0 _ 1 1 Tryd.underlying33 hi0 hz0 hz1 hz2 rfl (by decide) (.slice p8 L8 c8) (ln + 2) (Lib.byteCells (acc ++ [blankU J] ++ [c])) (by go_simp) (by have h8 := HOb.out.alloc (.cells #[.int .u8 32] 5 (0, 0)); unfold Own at h8; rw [HL2.out] at h8; exact h8) ⟨wb.heap.size, 0, none⟩ 1 1 [.int .u8 32] (by go_simp) rfl (cells_new wb _ _) (by simp [Value.oneCell']) (by unfold maxLen; omega) (by omega) (Nat.le_trans HBb.out.size (below_new _ _).size) ?_; intro v' wc hown hgr _ _; obtain ⟨p9, L9, c9, rfl⟩ := own_slice3 hown; have HBc2 := hid (HBb.out.trans (((below_new wb (.cells #[.int .u8 32] 5 (0, 0))).mono HBb.out.size).trans (Own.below (HOb.out.alloc (.cells #[.int .u8 32] 5 (0, 0))) (Nat.le_trans HBb.out.size (below_new _ _).size) hgr))); have HOc := hid (Own.put (acc := (acc ++ [blankU J] ++ [c])) (bs := [32]) (by rw [HL2.out]; exact hown) H32.out rfl); clear hown hgr))
          go_roundg (n - (i + 1) + 1)
          case measure => omega
          case rel => exact ⟨i + 1, k + 1, false, false, acc ++ [blankU J] ++ [c] ++ [32], by omega, rfl, by omega, fun _ => rfl, rfl, rfl, by push_cast; rfl, by push_cast; rfl, by rw [← HA.out, HDr.out, HSt.out]; simp, HOc.out, HBc2.out⟩
        · go_wp2_with (first
            | (at_builtin; refine wpList_append_own_at _ rfl (.tmp 75) (.tmp 87) 33 rfl w2.heap.size 5 i0 _ 1 1 Tryd.underlying33 hi0 hz0 hz1 hz2 rfl (by decide) (.slice p ln c0) (ln) (Lib.byteCells acc) (by go_simp) (by have h8 := HO.out.alloc (.cells #[.int .u8 (G : Int)] 5 (0, 0)); unfold Own at h8; rw [HLe.out] at h8; exact h8) ⟨wr.heap.size, 0, none⟩ 1 1 [.int .u8 (G : Int)] (by go_simp) rfl (cells_new wr _ _) (by simp [Value.oneCell']) (by unfold maxLen; omega) (by omega) (Nat.le_trans HB.out.size (below_new _ _).size) ?_; intro v' wa hown hgr _ _; obtain ⟨p7, L7, c7, rfl⟩ := own_slice3 hown; have HBa := hid (HB.out.trans (((below_new wr (.cells #[.int .u8 (G : Int)] 5 (0, 0))).mono HB.out.size).trans (Own.below (HO.out.alloc (.cells #[.int .u8 (G : Int)] 5 (0, 0))) (Nat.le_trans HB.out.size (below_new _ _).size) hgr))); have HOa := hid (Own.put (acc := acc) (bs := [blankU J]) (by rw [HLe.out]; exact hown) HGc.out rfl); clear hown hgr)
            | (at_builtin; refine wpList_append_own_at _ rfl (.tmp 91) (.tmp 93) 33 rfl w2.heap.size 5 i0 _ 1 1 Tryd.underlying33 hi0 hz0 hz1 hz2 rfl (by decide) (.slice p7 L7 c7) (ln + 1) (Lib.byteCells (acc ++ [blankU J])) (by go_simp) (by have h8 := HOa.out.alloc (.cells #[.int .u8 125] 5 (0, 0)); unfold Own at h8; rw [HL1.out] at h8; exact h8) ⟨wa.heap.size, 0, none⟩ 1 1 [.int .u8 125] (by go_simp) rfl (cells_new wa _ _) (by simp [Value.oneCell']) (by unfold maxLen; omega) (by omega) (Nat.le_trans HBa.out.size (below_new _ _).size) ?_; intro v' wb hown hgr _ _; obtain ⟨p8, L8, c8, rfl⟩ := own_slice3 hown; have HBb := hid (HBa.out.trans (((below_new wa (.cells #[.int .u8 125] 5 (0, 0))).mono HBa.out.size).trans (Own.below (HOa.out.alloc (.cells #[.int .u8 125] 5 (0, 0))) (Nat.le_trans HBa.out.size (below_new _ _).size) hgr))); have HOb := hid (Own.put (acc := (acc ++ [blankU J])) (bs := [c]) (by rw [HL1.out]; exact hown) HCc.out rfl); clear hown hgr)
            | (at_builtin; refine wpList_append_own_at _ rfl (.tmp 96) (.tmp 97) 33 rfl w2.heap.size 5 i0 _ 1 1 Tryd.underlying33 hi0 hz0 hz1 hz2 rfl (by decide) (.slice p8 L8 c8) (ln + 2) (Lib.byteCells (acc ++ [blankU J] ++ [c])) (by go_simp) (by have h8 := HOb.out.alloc (.cells #[.int .u8 32] 5 (0, 0)); unfold Own at h8; rw [HL2.out] at h8; exact h8) ⟨wb.heap.size, 0, none⟩ 1 1 [.int .u8 32] (by go_simp) rfl (cells_new wb _ _) (by simp [Value.oneCell']) (by unfold maxLen; omega) (by omega) (Nat.le_trans HBb.out.size (below_new _ _).size) ?_; intro v' wc hown hgr _ _; obtain ⟨p9, L9, c9, rfl⟩ := own_slice3 hown; have HBc2 := hid (HBb.out.trans (((below_new wb (.cells #[.int .u8 32] 5 (0, 0))).mono HBb.out.size).trans (Own.below (HOb.out.alloc (.cells #[.int .u8 32] 5 (0, 0))) (Nat.le_trans HBb.out.size (below_new _ _).size) hgr))); have HOc := hid (Own.put (acc := (acc ++ [blankU J] ++ [c])) (bs := [32]) (by rw [HL2.out]; exact hown) H32.out rfl); clear hown hgr))
          go_roundg (n - (i + 1) + 1)
          case measure => omega
          case rel => exact ⟨i + 1, k + 1, false, false, acc ++ [blankU J] ++ [c] ++ [32], by omega, rfl, by omega, fun _ => rfl, rfl, rfl, by push_cast; rfl, by push_cast; rfl, by rw [← HA.out, HDr.out, HSt.out]; simp, HOc.out, HBc2.out⟩
        · go_wp2_with (first
            | (at_builtin; refine wpList_append_own_at _ rfl (.tmp 75) (.tmp 87) 33 rfl w2.heap.size 5 i0 _ 1 1 Tryd.underlying33 hi0 hz0 hz1 hz2 rfl (by decide) (.slice p ln c0) (ln) (Lib.byteCells acc) (by go_simp) (by have h8 := HO.out.alloc (.cells #[.int .u8 (G : Int)] 5 (0, 0)); unfold Own at h8; rw [HLe.out] at h8; exact h8) ⟨wr.heap.size, 0, none⟩ 1 1 [.int .u8 (G : Int)] (by go_simp) rfl (cells_new wr _ _) (by simp [Value.oneCell']) (by unfold maxLen; omega) (by omega) (Nat.le_trans HB.out.size (below_new _ _).size) ?_; intro v' wa hown hgr _ _; obtain ⟨p7, L7, c7, rfl⟩ := own_slice3 hown; have HBa := hid (HB.out.trans (((below_new wr (.cells #[.int .u8 (G : Int)] 5 (0, 0))).mono HB.out.size).trans (Own.below (HO.out.alloc (.cells #[.int .u8 (G : Int)] 5 (0, 0))) (Nat.le_trans HB.out.size (below_new _ _).size) hgr))); have HOa := hid (Own.put (acc := acc) (bs := [blankU J]) (by rw [HLe.out]; exact hown) HGc.out rfl); clear hown hgr)
            | (at_builtin; refine wpList_append_own_at _ rfl (.tmp 91) (.tmp 93) 33 rfl w2.heap.size 5 i0 _ 1 1 Tryd.underlying33 hi0 hz0 hz1 hz2 rfl (by decide) (.slice p7 L7 c7) (ln + 1) (Lib.byteCells (acc ++ [blankU J])) (by go_simp) (by have h8 := HOa.out.alloc (.cells #[.int .u8 44] 5 (0, 0)); unfold Own at h8; rw [HL1.out] at h8; exact h8) ⟨wa.heap.size, 0, none⟩ 1 1 [.int .u8 44] (by go_simp) rfl (cells_new wa _ _) (by simp [Value.oneCell']) (by unfold maxLen; omega) (by omega) (Nat.le_trans HBa.out.size (below_new _ _).size) ?_; intro v' wb hown hgr _ _; obtain ⟨p8, L8, c8, rfl⟩ := own_slice3 hown; have HBb := hid (HBa.out.trans (((below_new wa (.cells #[.int .u8 44] 5 (0, 0))).mono HBa.out.size).trans (Own.below (HOa.out.alloc (.cells #[.int .u8 44] 5 (0, 0))) (Nat.le_trans HBa.out.size (below_new _ _).size) hgr))); have HOb := hid (Own.put (acc := (acc ++ [blankU J])) (bs := [c]) (by rw [HL1.out]; exact hown) HCc.out rfl); clear hown hgr)
            | (at_builtin; refine wpList_append_own_at _ rfl (.tmp 96) (.tmp 97) 33 rfl w2.heap.size 5 i0 _ 1 1 Tryd.underlying33 hi0 hz0 hz1 hz2 rfl (by decide) (.slice p8 L8 c8) (ln + 2) (Lib.byteCells (acc ++ [blankU J] ++ [c])) (by go_simp) (by have h8 := HOb.out.alloc (.cells #[.int .u8 32] 5 (0, 0)); unfold Own at h8; rw [HL2.out] at h8; exact h8) ⟨wb.heap.size, 0, none⟩ 1 1 [.int .u8 32] (by go_simp) rfl (cells_new wb _ _) (by simp [Value.oneCell']) (by unfold maxLen; omega) (by omega) (Nat.le_trans HBb.out.size (below_new _ _).size) ?_; intro v' wc hown hgr _ _; obtain ⟨p9, L9, c9, rfl⟩ := own_slice3 hown; have HBc2 := hid (HBb.out.trans (((below_new wb (.cells #[.int .u8 32] 5 (0, 0))).mono HBb.out.size).trans (Own.below (HOb.out.alloc (.cells #[.int .u8 32] 5 (0, 0))) (Nat.le_trans HBb.out.size (below_new _ _).size) hgr))); have HOc := hid (Own.put (acc := (acc ++ [blankU J] ++ [c])) (bs := [32]) (by rw [HL2.out]; exact hown) H32.out rfl); clear hown hgr))
          go_roundg (n - (i + 1) + 1)
          case measure => omega
          case rel => exact ⟨i + 1, k + 1, false, false, acc ++ [blankU J] ++ [c] ++ [32], by omega, rfl, by omega, fun _ => rfl, rfl, rfl, by push_cast; rfl, by push_cast; rfl, by rw [← HA.out, HDr.out, HSt.out]; simp, HOc.out, HBc2.out⟩
        · go_wp2_with (first
            | (at_builtin; refine wpList_append_own_at _ rfl (.tmp 75) (.tmp 87) 33 rfl w2.heap.size 5 i0 _ 1 1 Tryd.underlying33 hi0 hz0 hz1 hz2 rfl (by decide) (.slice p ln c0) (ln) (Lib.byteCells acc) (by go_simp) (by have h8 := HO.out.alloc (.cells #[.int .u8 (G : Int)] 5 (0, 0)); unfold Own at h8; rw [HLe.out] at h8; exact h8) ⟨wr.heap.size, 0, none⟩ 1 1 [.int .u8 (G : Int)] (by go_simp) rfl (cells_new wr _ _) (by simp [Value.oneCell']) (by unfold maxLen; omega) (by omega) (Nat.le_trans HB.out.size (below_new _ _).size) ?_; intro v' wa hown hgr _ _; obtain ⟨p7, L7, c7, rfl⟩ := own_slice3 hown; have HBa := hid (HB.out.trans (((below_new wr (.cells #[.int .u8 (G : Int)] 5 (0, 0))).mono HB.out.size).trans (Own.below (HO.out.alloc (.cells #[.int .u8 (G : Int)] 5 (0, 0))) (Nat.le_trans HB.out.size (below_new _ _).size) hgr))); have HOa := hid (Own.put (acc := acc) (bs := [blankU J]) (by rw [HLe.out]; exact hown) HGc.out rfl); clear hown hgr)
            | (at_builtin; refine wpList_append_own_at _ rfl (.tmp 91) (.tmp 93) 33 rfl w2.heap.size 5 i0 _ 1 1 Tryd.underlying33 hi0 hz0 hz1 hz2 rfl (by decide) (.slice p7 L7 c7) (ln + 1) (Lib.byteCells (acc ++ [blankU J])) (by go_simp) (by have h8 := HOa.out.alloc (.cells #[.int .u8 58] 5 (0, 0)); unfold Own at h8; rw [HL1.out] at h8; exact h8) ⟨wa.heap.size, 0, none⟩ 1 1 [.int .u8 58] (by go_simp) rfl (cells_new wa _ _) (by simp [Value.oneCell']) (by unfold maxLen; omega) (by omega) (Nat.le_trans HBa.out.size (below_new _ _).size) ?_; intro v' wb hown hgr _ _; obtain ⟨p8, L8, c8, rfl⟩ := own_slice3 hown; have HBb := hid (HBa.out.trans (((below_new wa (.cells #[.int .u8 58] 5 (0, 0))).mono HBa.out.size).trans (Own.below (HOa.out.alloc (.cells #[.int .u8 58] 5 (0, 0))) (Nat.le_trans HBa.out.size (below_new _ _).size) hgr))); have HOb := hid (Own.put (acc := (acc ++ [blankU J])) (bs := [c]) (by rw [HL1.out]; exact hown) HCc.out rfl); clear hown hgr)
            | (at_builtin; refine wpList_append_own_at _ rfl (.tmp 96) (.tmp 97) 33 rfl w2.heap.size 5 i0 _ 1 1 Tryd.underlying33 hi0 hz0 hz1 hz2 rfl (by decide) (.slice p8 L8 c8) (ln + 2) (Lib.byteCells (acc ++ [blankU J] ++ [c])) (by go_simp) (by have h8 := HOb.out.alloc (.cells #[.int .u8 32] 5 (0, 0)); unfold Own at h8; rw [HL2.out] at h8; exact h8) ⟨wb.heap.size, 0, none⟩ 1 1 [.int .u8 32] (by go_simp) rfl (cells_new wb _ _) (by simp [Value.oneCell']) (by unfold maxLen; omega) (by omega) (Nat.le_trans HBb.out.size (below_new _ _).size) ?_; intro v' wc hown hgr _ _; obtain ⟨p9, L9, c9, rfl⟩ := own_slice3 hown; have HBc2 := hid (HBb.out.trans (((below_new wb (.cells #[.int .u8 32] 5 (0, 0))).mono HBb.out.size).trans (Own.below (HOb.out.alloc (.cells #[.int .u8 32] 5 (0, 0))) (Nat.le_trans HBb.out.size (below_new _ _).size) hgr))); have HOc := hid (Own.put (acc := (acc ++ [blankU J] ++ [c])) (bs := [32]) (by rw [HL2.out]; exact hown) H32.out rfl); clear hown hgr))
          go_roundg (n - (i + 1) + 1)
          case measure => omega
          case rel => exact ⟨i + 1, k + 1, false, false, acc ++ [blankU J] ++ [c] ++ [32], by omega, rfl, by omega, fun _ => rfl, rfl, rfl, by push_cast; rfl, by push_cast; rfl, by rw [← HA.out, HDr.out, HSt.out]; simp, HOc.out, HBc2.out⟩
end Go.Proofs.YtkoeihliaandeabDoor
