/- The names and values of a query, of the program and of the document; the law's comparison of fields. -/
import Derived.Test.YtbdbmlklijmefaaDoorPFld
import Derived.Test.YtbdbmlklijmefaaDoorRDec
namespace Go.Proofs.YtbdbmlklijmefaaDoor
open Go.RowKit

theorem pairs_none {s : B} (h : isQuery s = false) : pairsT s = ([], 23) := by unfold pairsT; rw [if_neg (by rw [h]; simp)]
theorem pairs_some {s : B} (h : isQuery s = true) : pairsT s = (match pairsL (comeQ s true) [] with | some l => (l, 0) | none => ([], 2)) := by unfold pairsT; rw [if_pos h]; rfl
theorem pairs_skip {r : List B} {out : List (B × B)} : pairsL ([] :: r) out = pairsL r out := by rw [pairsL, if_pos rfl]
theorem pairs_full {p : B} {r : List B} {out : List (B × B)} (hp : p ≠ []) (h : out.length = 64) : pairsL (p :: r) out = none := by rw [pairsL, if_neg hp, if_pos h]
theorem pairs_put {p : B} {r : List B} {out : List (B × B)} (hp : p ≠ []) (h : out.length ≠ 64) : pairsL (p :: r) out = pairsL r (out ++ [pairB p]) := by rw [pairsL, if_neg hp, if_neg h]
theorem pairsT_len (s : B) : (pairsT s).1.length ≤ 64 := by
  have key : ∀ (L : List B) (out l : List (B × B)), out.length ≤ 64 → pairsL L out = some l → l.length ≤ 64 := by
    intro L
    induction L with
    | nil => intro out l h e; simp only [pairsL, Option.some.injEq] at e; rw [← e]; exact h
    | cons p r ih =>
      intro out l h e
      rw [pairsL] at e
      split at e
      · exact ih out l h e
      · split at e
        · cases e
        · exact ih _ l (by rw [List.length_append]; simp; omega) e
  unfold pairsT
  split
  · split
    · rename_i l hl
      exact key _ [] l (by simp) hl
    · simp
  · simp
set_option maxRecDepth 20000 in
set_option maxHeartbeats 8000000 in
theorem ppairs_any (s : B) (hs : s.length ≤ 4194304) (w : World) (hE : Env w) : Calls Tryd.prog 22 #[.string (str s)] w fun e w' => ∃ p c, e = .returned (.tuple #[.slice p (pairsT s).1.length c, errOf (pairsT s).2]) ∧ OwnF w' w.heap.size (.slice p (pairsT s).1.length c) (pairsT s).1 ∧ Below w.heap.size w w' := by
  obtain ⟨j0, hj0, hy0, hy1, hy2⟩ := info_parts infoF
  have HE := hid hE
  have HQu := hid (pquery_any s (by omega))
  obtain ⟨S, hS⟩ : ∃ S, str s = S := ⟨_, rfl⟩
  have HS := hid hS
  rw [hS] at HQu ⊢
  cases hq : isQuery s with
  | false =>
    have HV := hid (pairs_none hq)
    rw [hq] at HQu
    rw [HV.out]
    clear hS hE hs hq
    go_enter Tryd.func22, Tryd.ntmps22
    go_wp2_with (go_at_call 47; (with_reducible refine (HQu.out _).mono ?_); rintro e w1 ⟨rfl, hw1⟩; subst w1)
    go_ret2
    exact ⟨none, 0, rfl, OwnF.nil _ _, Below.refl _ _⟩
  | true =>
    have HV := hid (pairs_some hq)
    have HMd := hid (query_any hq)
    rw [hq] at HQu
    obtain ⟨P, hP⟩ : ∃ P, pairsL (comeQ s true) [] = P := ⟨_, rfl⟩
    rw [hP] at HV
    have HP := hid hP
    obtain ⟨n, hn⟩ : ∃ n, s.length = n := ⟨_, rfl⟩
    have HN := hid hn
    rw [hn] at hs
    obtain ⟨R1, R2, hR⟩ : ∃ R1 R2, pairsT s = (R1, R2) := ⟨_, _, rfl⟩
    rw [hR] at HV ⊢
    dsimp only
    clear hS hE hq hP hn hR
    go_enter Tryd.func22, Tryd.ntmps22
    go_wp2_with (go_at_call 47; (with_reducible refine (HQu.out _).mono ?_); rintro e w1 ⟨rfl, hw1⟩; subst w1)
    go_loopg [4, 5] (n + 1) (fun gk s4 s5 wr => ∃ (rest : B) (out : List (B × B)), s5 = .string (str rest) ∧ gk = rest.length + 1 ∧ OwnF wr w.heap.size s4 out ∧ out.length ≤ 64 ∧ pairsL (comeQ rest true) out = P ∧ madeA rest = true ∧ rest.length ≤ n ∧ Below w.heap.size w wr)
    case atStart => exact ⟨s, [], by rw [HS.out], by rw [HN.out], OwnF.nil _ _, by simp, HP.out, HMd.out, by rw [HN.out]; exact Nat.le_refl _, Below.refl _ _⟩
    case round =>
      obtain ⟨rest, out, rfl, rfl, ho, hol, hpl, hmd, hrl, hb⟩ := hrel
      obtain ⟨ln, hln⟩ : ∃ ln, out.length = ln := ⟨_, rfl⟩
      have HLe := hid hln
      obtain ⟨p, c0, rfl⟩ := own_slice ho
      have HOr := hid ho
      rw [hln] at HOr hol ⊢
      have HBr := hid hb
      have HPl := hid hpl
      have HMr := hid hmd
      clear ho hb hpl hmd hln
      by_cases hr0 : rest = []
      · subst hr0
        have HVe := hid (show (R1, R2) = (out, 0) from by
          have h9 := HPl.out
          rw [(pairs_end out).1] at h9
          rw [HV.out, ← h9])
        simp only [Prod.mk.injEq] at HVe
        obtain ⟨rfl, rfl⟩ := HVe.out
        go_wp2
        go_ret2
        refine ⟨p, c0, ?_, ?_, HBr.out⟩
        · rw [HLe.out]; rfl
        · rw [HLe.out]; exact HOr.out
      · have hne := ne_empty (str_ne (b := []) hr0)
        have hne2 : ((str rest).toList == (⟨#[]⟩ : ByteArray).toList) = false := ne_list (str_ne (b := []) hr0)
        have hne3 : (rest == []) = false := by simpa using hr0
        have hne4 : rest.isEmpty = false := by cases rest <;> simp_all
        obtain ⟨t, rest', more', hcut⟩ : ∃ t rest' more', cutF 38 rest = (t, rest', more') := ⟨_, _, _, rfl⟩
        have HCt := hid (pcut_any 38 rest (by omega))
        have hl2 := cutF_lens 38 rest
        obtain ⟨hm1, hm2⟩ := cut_made (x := 38) (by decide) (by decide) HMr.out
        have HSt := hid (show pairsL (t :: comeQ rest' true) out = P from by
          have h8 := come_true rest
          have h9 := HPl.out
          rw [comeQ_cut] at h9
          rw [hcut] at h8 h9
          dsimp only at h8 h9
          by_cases ht : t = []
          · rw [ht, pairs_skip] at h9 ⊢
            rw [← h8]; exact h9
          · by_cases h64 : out.length = 64
            · rw [pairs_full ht h64] at h9 ⊢; exact h9
            · rw [pairs_put ht h64] at h9 ⊢
              rw [← h8]; exact h9)
        have hlt : rest'.length < rest.length := by
          have h9 := (cutF_spec 38 rest).2.1
          have h7 := (cutF_spec 38 rest).2.2
          rw [hcut] at h9 h7
          dsimp only at h9 h7
          cases more' with
          | true => have := congrArg List.length h9; rw [List.length_append] at this; simp at this; omega
          | false =>
            rw [h7 rfl]
            rcases Nat.eq_zero_or_pos rest.length with h | h
            · exact absurd (List.eq_nil_of_length_eq_zero h) hr0
            · exact h
        rw [hcut] at HCt hl2 hm1 hm2
        dsimp only at HCt hl2 hm1 hm2
        have HMd1 := hid hm1
        have HMd2 := hid hm2
        have HLt := hid hlt
        clear hcut hm1 hm2 hlt
        obtain ⟨T5, hT5⟩ : ∃ T5, str rest = T5 := ⟨_, rfl⟩
        rw [hT5] at HCt hne hne2 ⊢
        have HEr := hid (HE.out.below HBr.out)
        have hq4 : ¬ T5 = ⟨#[]⟩ := by rw [← hT5]; exact str_ne (b := []) hr0
        clear hT5 hr0 hne3 hne4
        by_cases ht : t = []
        · subst ht
          have HNx := hid (show pairsL (comeQ rest' true) out = P from by rw [← HSt.out, pairs_skip])
          have HCt2 := hid (show ∀ w, Env w → Calls Tryd.prog 48 #[.string T5, .string ⟨#[38]⟩] w fun e w' => e = .returned (.tuple #[.string ⟨#[]⟩, .string (str rest'), .bool more']) ∧ Below w.heap.size w w' from HCt.out)
          clear HCt
          go_wp2_with (go_at_call 48; (with_reducible refine (HCt2.out _ HEr.out).mono ?_); rintro e w1 ⟨rfl, hb1⟩; have HO1 := hid (HOr.out.keep hb1); have HB1 := hid (HBr.out.trans (hb1.mono HBr.out.size)); clear hb1)
          go_roundg (rest'.length + 1)
          case measure => have := HLt.out; omega
          case rel => exact ⟨rest', out, rfl, rfl, by have h8 := HO1.out; exact h8, by rw [HLe.out]; exact hol, HNx.out, HMd2.out, by have := HLt.out; omega, HB1.out⟩
        · have q0 := ne_empty (str_ne (b := []) ht)
          have q1 : ((str t).toList == (⟨#[]⟩ : ByteArray).toList) = false := ne_list (str_ne (b := []) ht)
          have q2 : ¬ str t = ⟨#[]⟩ := str_ne (b := []) ht
          have HPr := hid (ppair_any t (by omega))
          have HPf := hid (pair_form HMd1.out)
          rw [HPf.out] at HPr
          have HPf1 := HSt.out
          by_cases h64 : ln = 64
          · have HVe := hid (show (R1, R2) = (([] : List (B × B)), 2) from by
              rw [pairs_full ht (by rw [HLe.out]; exact h64)] at HPf1
              rw [HV.out, ← HPf1])
            simp only [Prod.mk.injEq] at HVe
            obtain ⟨rfl, rfl⟩ := HVe.out
            subst h64
            obtain ⟨St, hSt⟩ : ∃ St, str t = St := ⟨_, rfl⟩
            rw [hSt] at HCt q0 q1 q2
            clear hSt HPr HPf HPf1 ht
            go_wp2_with (go_at_call 48; (with_reducible refine (HCt.out _ HEr.out).mono ?_); rintro e w1 ⟨rfl, hb1⟩; have HB1 := hid (HBr.out.trans (hb1.mono HBr.out.size)); clear hb1)
            go_ret2
            exact ⟨none, 0, rfl, OwnF.nil _ _, HB1.out⟩
          · have HNx := hid (show pairsL (comeQ rest' true) (out ++ [pairB t]) = P from by rw [← HPf1, pairs_put ht (by rw [HLe.out]; exact h64)])
            have h64i : ¬ (ln : Int) = 64 := by omega
            have h64b : ((ln : Int) == 64) = false := by simpa using h64i
            obtain ⟨f, hf⟩ : ∃ f, pairB t = f := ⟨_, rfl⟩
            rw [hf] at HPr HNx
            obtain ⟨fa, hfa⟩ : ∃ fa, str f.1 = fa := ⟨_, rfl⟩
            obtain ⟨fb, hfb⟩ : ∃ fb, str f.2 = fb := ⟨_, rfl⟩
            rw [hfa, hfb] at HPr
            have HPa1 := hid hfa
            have HPa2 := hid hfb
            obtain ⟨St, hSt⟩ : ∃ St, str t = St := ⟨_, rfl⟩
            rw [hSt] at HCt q0 q1 q2 HPr
            clear hSt HPf HPf1 hf hfa hfb ht
            go_wp2_with (first | (go_at_call 48; (with_reducible refine (HCt.out _ HEr.out).mono ?_); rintro e w1 ⟨rfl, hb1⟩; have HO1 := hid (HOr.out.keep hb1); have HB1 := hid (HBr.out.trans (hb1.mono HBr.out.size)); have HE1 := hid (HE.out.below HB1.out); clear hb1) | (go_at_call 49; (with_reducible refine (HPr.out _ HE1.out).mono ?_); rintro e w2 ⟨rfl, hb2⟩; have HO2 := hid (HO1.out.keep hb2); have HBb := hid (HB1.out.trans (hb2.mono HB1.out.size)); clear hb2) | (at_builtin; refine wpList_append_own_at _ rfl (.tmp 26) (.tmp 29) 47 rfl w.heap.size 71 j0 _ 2 32 Tryd.underlying47 hj0 hy0 hy1 hy2 rfl (by decide) (.slice p ln c0) ln (fldC out) (by go_simp) (by have h8 := HO2.out.alloc (.cells #[.string fa, .string fb] 71 (0, 0)); unfold OwnF at h8; rw [HLe.out] at h8; exact h8) ⟨w2.heap.size, 0, none⟩ 1 1 [.string fa, .string fb] (by go_simp) rfl (cells_new w2 _ _) (by simp [Value.oneCell']) (by unfold maxLen; omega) (by omega) (Nat.le_trans HBb.out.size (below_new _ _).size) ?_; intro v' w' hown hgr _ _; obtain ⟨p7, L7, c7, rfl⟩ := own_slice3 hown; have HB2 := hid (HBb.out.trans (((below_new w2 (.cells #[.string fa, .string fb] 71 (0, 0))).mono HBb.out.size).trans (OwnF.below (HO2.out.alloc (.cells #[.string fa, .string fb] 71 (0, 0))) (Nat.le_trans HBb.out.size (below_new _ _).size) hgr))); have HW := hid (OwnF.put (acc := out) (f := f) (by rw [HLe.out, HPa1.out, HPa2.out]; exact hown)); clear hown hgr))
            go_roundg (rest'.length + 1)
            case measure => have := HLt.out; omega
            case rel => exact ⟨rest', out ++ [f], rfl, rfl, HW.out, by rw [List.length_append, HLe.out]; simp; omega, HNx.out, HMd2.out, by have := HLt.out; omega, HB2.out⟩
theorem meas_q {rest t rest' : B} {more' : Bool} (h : cutF 38 rest = (t, rest', more')) : meas rest' more' < meas rest true ∧ t.length ≤ rest.length ∧ rest'.length ≤ rest.length := by
  have h1 := (cutF_spec 38 rest).2.1
  have h2 := (cutF_spec 38 rest).2.2
  have h3 := cutF_lens 38 rest
  rw [h] at h1 h2 h3
  dsimp only at h1 h2 h3
  refine ⟨?_, by omega, by omega⟩
  unfold meas
  cases more' with
  | true => have := congrArg List.length h1; rw [List.length_append] at this; simp at this ⊢; omega
  | false => simp
set_option maxRecDepth 20000 in
set_option maxHeartbeats 8000000 in
theorem rpairs_any (s : B) (hs : s.length ≤ 4194304) (w : World) : Calls Tryd.prog 23 #[.string (str s)] w fun e w' => ∃ p c, e = .returned (.tuple #[.slice p (pairsT s).1.length c, .int .i64 ((pairsT s).2 : Int)]) ∧ OwnF w' w.heap.size (.slice p (pairsT s).1.length c) (pairsT s).1 ∧ Below w.heap.size w w' := by
  obtain ⟨j0, hj0, hy0, hy1, hy2⟩ := info_parts infoF
  have HQu := hid (rquery_any s (by omega))
  obtain ⟨S, hS⟩ : ∃ S, str s = S := ⟨_, rfl⟩
  have HS := hid hS
  rw [hS] at HQu ⊢
  cases hq : isQuery s with
  | false =>
    have HV := hid (pairs_none hq)
    rw [hq] at HQu
    rw [HV.out]
    clear hS hs hq
    go_enter Tryd.func23, Tryd.ntmps23
    go_wp2_with (go_at_call 50; (with_reducible refine (HQu.out _).mono ?_); rintro e w1 ⟨rfl, hb⟩; have HB1 := hid hb; clear hb)
    go_ret2
    exact ⟨none, 0, rfl, OwnF.nil _ _, HB1.out⟩
  | true =>
    have HV := hid (pairs_some hq)
    rw [hq] at HQu
    obtain ⟨P, hP⟩ : ∃ P, pairsL (comeQ s true) [] = P := ⟨_, rfl⟩
    rw [hP] at HV
    have HP := hid hP
    obtain ⟨n, hn⟩ : ∃ n, s.length = n := ⟨_, rfl⟩
    have HN := hid hn
    rw [hn] at hs
    obtain ⟨R1, R2, hR⟩ : ∃ R1 R2, pairsT s = (R1, R2) := ⟨_, _, rfl⟩
    rw [hR] at HV ⊢
    dsimp only
    clear hS hq hP hn hR
    go_enter Tryd.func23, Tryd.ntmps23
    go_wp2_with (go_at_call 50; (with_reducible refine (HQu.out _).mono ?_); rintro e w1 ⟨rfl, hb⟩; have HB1 := hid hb; clear hb)
    go_loopg [4, 5, 6] (meas s true) (fun gk s4 s5 s6 wr => ∃ (rest : B) (more : Bool) (out : List (B × B)), s5 = .string (str rest) ∧ s6 = .bool more ∧ gk = meas rest more ∧ OwnF wr w.heap.size s4 out ∧ out.length ≤ 64 ∧ pairsL (comeQ rest more) out = P ∧ rest.length ≤ n ∧ Below w.heap.size w wr)
    case atStart => exact ⟨s, true, [], by rw [HS.out], rfl, rfl, OwnF.nil _ _, by simp, HP.out, by rw [HN.out]; exact Nat.le_refl _, HB1.out⟩
    case round =>
      obtain ⟨rest, more, out, rfl, rfl, rfl, ho, hol, hpl, hrl, hb⟩ := hrel
      obtain ⟨ln, hln⟩ : ∃ ln, out.length = ln := ⟨_, rfl⟩
      have HLe := hid hln
      obtain ⟨p, c0, rfl⟩ := own_slice ho
      have HOr := hid ho
      rw [hln] at HOr hol ⊢
      have HBr := hid hb
      have HPl := hid hpl
      clear ho hb hpl hln
      cases more with
      | false =>
        have HVe := hid (show (R1, R2) = (out, 0) from by
          have h9 := HPl.out
          rw [show pairsL (comeQ rest false) out = some out from rfl] at h9
          rw [HV.out, ← h9])
        simp only [Prod.mk.injEq] at HVe
        obtain ⟨rfl, rfl⟩ := HVe.out
        go_wp2
        go_ret2
        refine ⟨p, c0, ?_, ?_, HBr.out⟩
        · rw [HLe.out]; rfl
        · rw [HLe.out]; exact HOr.out
      | true =>
        obtain ⟨t, rest', more', hcut⟩ : ∃ t rest' more', cutF 38 rest = (t, rest', more') := ⟨_, _, _, rfl⟩
        have HCt := hid (rcut_any rest 38 (by omega))
        rw [show byteV 38 = .int .u8 38 from rfl] at HCt
        have HSt := hid (show pairsL (t :: comeQ rest' more') out = P from by rw [← HPl.out, comeQ_cut, hcut])
        obtain ⟨hm1, hm2, hm3⟩ := meas_q hcut
        rw [hcut] at HCt
        dsimp only at HCt
        have HLt := hid hm1
        clear hcut hm1
        obtain ⟨T5, hT5⟩ : ∃ T5, str rest = T5 := ⟨_, rfl⟩
        rw [hT5] at HCt ⊢
        clear hT5
        by_cases ht : t = []
        · subst ht
          have HNx := hid (show pairsL (comeQ rest' more') out = P from by rw [← HSt.out, pairs_skip])
          have HCt2 := hid (show ∀ w, Calls Tryd.prog 51 #[.string T5, .int .u8 38] w fun e w' => e = .returned (.tuple #[.string ⟨#[]⟩, .string (str rest'), .bool more']) ∧ Below w.heap.size w w' from HCt.out)
          clear HCt
          go_wp2_with (go_at_call 51; (with_reducible refine (HCt2.out _).mono ?_); rintro e w2 ⟨rfl, hb1⟩; have HO1 := hid (HOr.out.keep hb1); have HBa := hid (HBr.out.trans (hb1.mono HBr.out.size)); clear hb1)
          go_roundg (meas rest' more')
          case measure => exact HLt.out
          case rel => exact ⟨rest', more', out, rfl, rfl, rfl, by have h8 := HO1.out; exact h8, by rw [HLe.out]; exact hol, HNx.out, by omega, HBa.out⟩
        · have q0 := ne_empty (str_ne (b := []) ht)
          have q1 : ((str t).toList == (⟨#[]⟩ : ByteArray).toList) = false := ne_list (str_ne (b := []) ht)
          have q2 : ¬ str t = ⟨#[]⟩ := str_ne (b := []) ht
          have HPf1 := HSt.out
          by_cases h64 : ln = 64
          · have HVe := hid (show (R1, R2) = (([] : List (B × B)), 2) from by
              rw [pairs_full ht (by rw [HLe.out]; exact h64)] at HPf1
              rw [HV.out, ← HPf1])
            simp only [Prod.mk.injEq] at HVe
            obtain ⟨rfl, rfl⟩ := HVe.out
            subst h64
            obtain ⟨St, hSt⟩ : ∃ St, str t = St := ⟨_, rfl⟩
            rw [hSt] at HCt q0 q1 q2
            clear hSt HPf1 ht
            go_wp2_with (go_at_call 51; (with_reducible refine (HCt.out _).mono ?_); rintro e w2 ⟨rfl, hb1⟩; have HBa := hid (HBr.out.trans (hb1.mono HBr.out.size)); clear hb1)
            go_ret2
            exact ⟨none, 0, rfl, OwnF.nil _ _, HBa.out⟩
          · have HNx := hid (show pairsL (comeQ rest' more') (out ++ [pairB t]) = P from by rw [← HPf1, pairs_put ht (by rw [HLe.out]; exact h64)])
            have h64i : ¬ (ln : Int) = 64 := by omega
            have h64b : ((ln : Int) == 64) = false := by simpa using h64i
            obtain ⟨A, Q, K, hc2⟩ : ∃ A Q K, cutF 61 t = (A, Q, K) := ⟨_, _, _, rfl⟩
            have HC2 := hid (rcut_any t 61 (by omega))
            rw [show byteV 61 = .int .u8 61 from rfl] at HC2
            have hl3 := cutF_len 61 t
            have hf0 : pairB t = (formB A, formB Q) := by unfold pairB; rw [hc2]
            rw [hc2] at HC2 hl3
            dsimp only at HC2 hl3
            have HF1 := hid (rform_any A (by omega))
            have HF2 := hid (rform_any Q (by omega))
            obtain ⟨f, hf⟩ : ∃ f, pairB t = f := ⟨_, rfl⟩
            rw [hf] at hf0 HNx
            obtain ⟨fa, hfa⟩ : ∃ fa, str f.1 = fa := ⟨_, rfl⟩
            obtain ⟨fb, hfb⟩ : ∃ fb, str f.2 = fb := ⟨_, rfl⟩
            rw [show str (formB A) = fa from by rw [← hfa, hf0]] at HF1
            rw [show str (formB Q) = fb from by rw [← hfb, hf0]] at HF2
            have HPa1 := hid hfa
            have HPa2 := hid hfb
            obtain ⟨St, hSt⟩ : ∃ St, str t = St := ⟨_, rfl⟩
            obtain ⟨SA, hSA⟩ : ∃ SA, str A = SA := ⟨_, rfl⟩
            obtain ⟨SQ, hSQ⟩ : ∃ SQ, str Q = SQ := ⟨_, rfl⟩
            rw [hSt] at HCt q0 q1 q2 HC2
            rw [hSA] at HC2 HF1
            rw [hSQ] at HC2 HF2
            clear hSt hSA hSQ HPf1 hf hf0 hfa hfb ht hc2 hl3
            go_wp2_with (first | (go_at_call 51; (with_reducible refine (HCt.out _).mono ?_); rintro e w2 ⟨rfl, hb1⟩; have HO1 := hid (HOr.out.keep hb1); have HBa := hid (HBr.out.trans (hb1.mono HBr.out.size)); clear hb1) | (go_at_call 51; (with_reducible refine (HC2.out _).mono ?_); rintro e w3 ⟨rfl, hb1⟩; have HO2 := hid (HO1.out.keep hb1); have HBb := hid (HBa.out.trans (hb1.mono HBa.out.size)); clear hb1) | (go_at_call 52; (with_reducible refine (HF1.out _).mono ?_); rintro e w4 ⟨rfl, hb1⟩; have HO3 := hid (HO2.out.keep hb1); have HBc := hid (HBb.out.trans (hb1.mono HBb.out.size)); clear hb1) | (go_at_call 52; (with_reducible refine (HF2.out _).mono ?_); rintro e w5 ⟨rfl, hb1⟩; have HO4 := hid (HO3.out.keep hb1); have HBd := hid (HBc.out.trans (hb1.mono HBc.out.size)); clear hb1) | (at_builtin; refine wpList_append_own_at _ rfl (.tmp 33) (.tmp 39) 47 rfl w.heap.size 71 j0 _ 2 32 Tryd.underlying47 hj0 hy0 hy1 hy2 rfl (by decide) (.slice p ln c0) ln (fldC out) (by go_simp) (by have h8 := HO4.out.alloc (.cells #[.string fa, .string fb] 71 (0, 0)); unfold OwnF at h8; rw [HLe.out] at h8; exact h8) ⟨w5.heap.size, 0, none⟩ 1 1 [.string fa, .string fb] (by go_simp) rfl (cells_new w5 _ _) (by simp [Value.oneCell']) (by unfold maxLen; omega) (by omega) (Nat.le_trans HBd.out.size (below_new _ _).size) ?_; intro v' w' hown hgr _ _; obtain ⟨p7, L7, c7, rfl⟩ := own_slice3 hown; have HB2 := hid (HBd.out.trans (((below_new w5 (.cells #[.string fa, .string fb] 71 (0, 0))).mono HBd.out.size).trans (OwnF.below (HO4.out.alloc (.cells #[.string fa, .string fb] 71 (0, 0))) (Nat.le_trans HBd.out.size (below_new _ _).size) hgr))); have HW := hid (OwnF.put (acc := out) (f := f) (by rw [HLe.out, HPa1.out, HPa2.out]; exact hown)); clear hown hgr))
            go_roundg (meas rest' more')
            case measure => exact HLt.out
            case rel => exact ⟨rest', more', out ++ [f], rfl, rfl, rfl, HW.out, by rw [List.length_append, HLe.out]; simp; omega, HNx.out, by omega, HB2.out⟩
set_option maxRecDepth 20000 in
set_option maxHeartbeats 8000000 in
theorem same_flds (fs : List (B × B)) (n : Nat) (hn : fs.length = n) (hl : n ≤ 4294967290) (b1 b2 c1 c2 : Nat) (p1 p2 : Option Addr) (w : World) (h1 : OwnF w b1 (.slice p1 n c1) fs) (h2 : OwnF w b2 (.slice p2 n c2) fs) : Calls Tryd.prog 26 #[.slice p1 n c1, .slice p2 n c2] w fun e w' => e = .returned (.bool true) ∧ Below w.heap.size w w' := by
  have H1 := hid h1
  have H2 := hid h2
  have HN := hid hn
  clear h1 h2 hn
  go_enter Tryd.func26, Tryd.ntmps26
  go_wp2
  go_loopg [5] (n + 1) (fun gk s5 wr => ∃ i : Nat, i ≤ n ∧ gk = n - i + 1 ∧ s5 = .int .i64 (i : Int) ∧ ∃ q, wr = w.drewN q)
  case atStart => exact ⟨0, by omega, rfl, rfl, 0, rfl⟩
  case round =>
    obtain ⟨i, hi, rfl, rfl, q, hq⟩ := hrel
    have HQ := hid hq
    by_cases hin : i < n
    · have hi1 : i < fs.length := by rw [HN.out]; exact hin
      obtain ⟨f, hf⟩ : ∃ f, fs[i]? = some f := ⟨_, List.getElem?_eq_getElem hi1⟩
      have hb : Below w.heap.size w wr := by rw [hq]; exact below_drew (Below.refl _ _) q
      obtain ⟨g1, o1, rfl, hc1, he1⟩ := (H1.out.keep hb).at hf
      obtain ⟨g2, o2, rfl, hc2, he2⟩ := (H2.out.keep hb).at hf
      rw [Nat.mul_comm 2 i] at hc1 he1 hc2 he2
      clear hi1 hf hb hq
      obtain ⟨T, hT⟩ : ∃ T, str f.1 = T := ⟨_, rfl⟩
      obtain ⟨U, hU⟩ : ∃ U, str f.2 = U := ⟨_, rfl⟩
      rw [hT] at hc1 hc2
      rw [hU] at he1 he2
      clear hT hU
      have mixed : Tryd.prog.follows .mixedOrders = true := by kernel_rfl
      go_wp2
      go_region_o
      go_wp2
      go_roundg (n - (i + 1) + 1)
      case measure => omega
      case rel => exact ⟨i + 1, by omega, rfl, by push_cast; go_num, q + 1, by rw [HQ.out]; rfl⟩
    · obtain rfl : n = i := by omega
      clear hq
      go_wp2
      go_ret
      exact ⟨rfl, by rw [HQ.out]; exact below_drew (Below.refl _ _) q⟩
end Go.Proofs.YtbdbmlklijmefaaDoor
