/- The law of whole heads. -/
import Derived.Test.YtfmkkkkdfkjdlaaDoorHPG
namespace Go.Proofs.YtfmkkkkdfkjdlaaDoor
open Go.RowKit

/-- Blocks that are kept. -/
structure Kept (w W : World) (L : List (Nat × Obj)) : Prop where
  low : Below w.heap.size w W
  at' : ∀ x ∈ L, W.heap[x.1]? = some x.2
theorem Kept.next {w W W' : World} {L : List (Nat × Obj)} (h : Kept w W L) (hb : Below W.heap.size W W') : Kept w W' L := ⟨h.low.trans (hb.mono h.low.size), fun x hx => (hb.block _ (lt_of_heap (h.at' x hx))).trans (h.at' x hx)⟩
theorem Kept.new {w W : World} {L : List (Nat × Obj)} (h : Kept w W L) (o : Obj) : Kept w (W.alloc o) ((W.heap.size, o) :: L) := ⟨h.low.trans ((below_new W o).mono h.low.size), fun x hx => by
  rcases List.mem_cons.1 hx with rfl | hx
  · exact heap_alloc_new W o
  · exact ((below_new W o).block _ (lt_of_heap (h.at' x hx))).trans (h.at' x hx)⟩
theorem byte_one9 (l : B) : ∀ u ∈ Lib.byteCells l, u.oneCell' = true := by
  intro u hu
  unfold Lib.byteCells at hu
  obtain ⟨c, _, rfl⟩ := List.mem_map.1 hu
  rfl
theorem ArgAt.news {w : World} {ad : Addr} {l : B} (h : ArgAt w (some ad) l) : ∀ j u, (Lib.byteCells l)[j]? = some u → w.cell? (ad.add j) = some u := by
  intro j u hj
  have hlt : j < l.length := by have := (List.getElem?_eq_some_iff.1 hj).1; simpa [Lib.byteCells] using this
  obtain ⟨g, o, e, hc⟩ := h j _ (List.getElem?_eq_getElem hlt)
  cases e
  have hadd : ∀ j, (⟨g, o, none⟩ : Addr).add j = ⟨g, o + j, none⟩ := fun j => by unfold Addr.add; split <;> simp_all
  rw [hadd, hc]
  simp [Lib.byteCells, hlt] at hj
  rw [← hj]
set_option maxRecDepth 20000 in
set_option maxHeartbeats 8000000 in
theorem parses_some (l : B) (ad : Addr) (n c : Nat) (m : Int) (w : World) (hn : l.length = n) (ha : ArgAt w (some ad) l) (hl : n ≤ 140737488355328) (hE : EnvE w) : Calls Tryd.prog 3 #[.slice (some ad) n c, .int .i64 m] w fun e w' => e = .returned (.bool true) ∧ Below w.heap.size w w' := by
  obtain ⟨i0, hi0, hz0, hz1, hz2⟩ := info_parts infoB
  have HNw := hid (show ∀ W : World, Below w.heap.size w W → _ from fun W hb => (ha.next hb).news)
  have HP1 := hid (show ∀ (W : World) (p : Option Addr) (c : Nat), ArgAt W p l → _ from fun W p c h => preq_gen l p n c m W hn h hl)
  have HP2 := hid (show ∀ (W : World) (p : Option Addr) (c : Nat), ArgAt W p l → _ from fun W p c h => presp_gen l p n c m W hn h hl)
  have HD1 := hid (show ∀ W : World, Below w.heap.size w W → _ from fun W hb => dparse_gen false l (some ad) n c m W hn (ha.next hb) hl)
  have HD2 := hid (show ∀ W : World, Below w.heap.size w W → _ from fun W hb => dparse_gen true l (some ad) n c m W hn (ha.next hb) hl)
  rw [tk_req] at HD1
  rw [tk_resp] at HD2
  have HR1 := hid (show ∀ (H : HS) (q : Option Addr) (x d : Nat) (b : Nat) (W : World), HeadOf false l m H → OwnS W b (.slice q x d) H.lines → _ from fun H q x d b W h1 h2 => dreq_gen l m H (.slice q x d) b W h1 h2)
  have HR2 := hid (show ∀ (H : HS) (q : Option Addr) (x d : Nat) (b : Nat) (W : World), HeadOf true l m H → OwnS W b (.slice q x d) H.lines → _ from fun H q x d b W h1 h2 => dresp_gen l m H (.slice q x d) b W h1 h2)
  have HN1 := hid (show ∀ W : World, Below w.heap.size w W → _ from fun W hb => num_any (parseE false l m) W (hE.next hb))
  have HN2 := hid (show ∀ W : World, Below w.heap.size w W → _ from fun W hb => num_any (parseE true l m) W (hE.next hb))
  have HSu := hid (show ∀ W : World, _ from fun W => sure_any W)
  have hfq : (reqOf l m).fs.length ≤ 140737488355328 := by
    unfold reqOf
    split
    · rename_i h0
      obtain ⟨x, ls, h1, _, _, _, h5, _, _, h8⟩ := whole_both h0
      show (feedP (newP false m) l).fields.length ≤ _
      rw [h5, List.length_map]
      rw [h1, List.length_cons] at h8
      omega
    · exact Nat.zero_le _
  have hfp : (respOf l m).fs.length ≤ 140737488355328 := by
    unfold respOf
    split
    · rename_i h0
      obtain ⟨x, ls, h1, _, _, _, h5, _, _, h8⟩ := whole_both h0
      show (feedP (newP true m) l).fields.length ≤ _
      rw [h5, List.length_map]
      rw [h1, List.length_cons] at h8
      omega
    · exact Nat.zero_le _
  obtain ⟨E1, hE1⟩ : ∃ E, parseE false l m = E := ⟨_, rfl⟩
  obtain ⟨E2, hE2⟩ : ∃ E, parseE true l m = E := ⟨_, rfl⟩
  rw [hE1] at HP1 HD1 HN1
  rw [hE2] at HP2 HD2 HN2
  obtain ⟨V1, hV1⟩ : ∃ V, errOf E1 = V := ⟨_, rfl⟩
  obtain ⟨V2, hV2⟩ : ∃ V, errOf E2 = V := ⟨_, rfl⟩
  rw [hV1] at HP1 HN1
  rw [hV2] at HP2 HN2
  obtain ⟨Q, hQ⟩ : ∃ Q, reqOf l m = Q := ⟨_, rfl⟩
  obtain ⟨P, hP⟩ : ∃ P, respOf l m = P := ⟨_, rfl⟩
  rw [hQ] at HP1 HD1 HR1 hfq
  rw [hP] at HP2 HD2 HR2 hfp
  obtain ⟨QM, QT, Qk, Qf, Qt⟩ := Q
  obtain ⟨Ps, PT, Pk, Pf, Pt⟩ := P
  dsimp only at HP1 HD1 HR1 hfq HP2 HD2 HR2 hfp
  have HSq := hid (show ∀ (W : World) (p p' : Option Addr) (c c' : Nat), FAt W p Qf → FAt W p' Qf → _ from fun W p p' c c' h h' => requests_same (str QM) (str QT) Qk Qf p p' Qf.length c c' rfl W h h' hfq)
  have HSp := hid (show ∀ (W : World) (p p' : Option Addr) (c c' : Nat), FAt W p Pf → FAt W p' Pf → _ from fun W p p' c c' h h' => responses_same Ps (str PT) Pk Pf p p' Pf.length c c' rfl W h h' hfp)
  obtain ⟨M, hM⟩ : ∃ M, str QM = M := ⟨_, rfl⟩
  obtain ⟨T, hT⟩ : ∃ T, str QT = T := ⟨_, rfl⟩
  obtain ⟨S, hS⟩ : ∃ S, str PT = S := ⟨_, rfl⟩
  rw [hM, hT] at HP1 HR1 HSq
  rw [hS] at HP2 HR2 HSp
  obtain ⟨nq, hnq⟩ : ∃ nq, Qf.length = nq := ⟨_, rfl⟩
  obtain ⟨np, hnp⟩ : ∃ np, Pf.length = np := ⟨_, rfl⟩
  rw [hnq] at HP1 HR1 HSq
  rw [hnp] at HP2 HR2 HSp
  unfold headV at HD1 HD2 HR1 HR2
  have HLn := hid hn
  have HA := hid ha
  clear hE1 hE2 hV1 hV2 hQ hP hM hT hS hnq hnp hE hfq hfp ha hn
  go_enter Tryd.func3, Tryd.ntmps3
  go_wp2_with (first | (at_builtin; refine wpList_append_own_at _ rfl (.tmp 24) (.tmp 25) 22 rfl w.heap.size 5 i0 _ 1 1 Tryd.underlying22 hi0 hz0 hz1 hz2 rfl (by decide) (.slice none 0 0) 0 [] (by go_simp) (⟨rfl, .inl ⟨rfl, rfl⟩⟩) ad n c (Lib.byteCells l) (by go_simp) (by simp [Lib.byteCells, HLn.out]) (HNw.out w (Below.refl _ _)) (byte_one9 l) (by unfold maxLen; omega) (by omega) (Nat.le_refl _) ?_; intro v' w1 hown hgr _ _; rw [Nat.zero_add, List.nil_append] at hown; obtain ⟨q1, c1, rfl⟩ := own_slice hown; have HO := hid (show Own w1 w.heap.size (.slice q1 n c1) l from by unfold Own; rw [HLn.out]; exact hown); have hbg := below_grown hgr; have K1 := hid (show Kept w w1 [] from ⟨hbg, fun x hx => by simp at hx⟩); have HA1 := hid (Own.arg HO.out); clear HO; clear hown hgr hbg) | (go_at_call 6; (with_reducible refine (HP1.out w1 q1 c1 HA1.out).mono ?_); rintro e w2 ⟨qa, da, rfl, hfa, hb⟩; have K2 := hid ((K1.out.next hb).new (.cells #[.string M, .string T, .int .i64 Qk, .slice qa nq da] 25 (0, 0))); have hb2 := below_new w2 (.cells #[.string M, .string T, .int .i64 Qk, .slice qa nq da] 25 (0, 0)); have HF2 := hid (hfa.next hb2); clear hb hfa hb2 HP1) | (go_at_call 7; (with_reducible refine (HD1.out _ K2.out.low).mono ?_); rintro e w3 ⟨H, v3, rfl, ho3, hH, hb⟩; obtain ⟨q3, c3, rfl⟩ := own_slice ho3; obtain ⟨x3, hx3⟩ : ∃ x3, H.lines.length = x3 := ⟨_, rfl⟩; rw [hx3] at ho3 ⊢; obtain ⟨LH, hLH⟩ : ∃ LH, str H.line = LH := ⟨_, rfl⟩; have HC3 := hid (HR1.out H q3 x3 c3 _ (w3.alloc (.cells #[.bool H.resp, .int .i64 H.most, .slice q3 x3 c3, .string (str H.line), .int .i64 (H.len : Int), .bool H.done, .int .i64 (H.err : Int)] 32 (0, 0))) hH (ho3.keep (below_new w3 (.cells #[.bool H.resp, .int .i64 H.most, .slice q3 x3 c3, .string (str H.line), .int .i64 (H.len : Int), .bool H.done, .int .i64 (H.err : Int)] 32 (0, 0))))); rw [hLH] at HC3 ⊢; have K3 := hid ((K2.out.next hb).new (.cells #[.bool H.resp, .int .i64 H.most, .slice q3 x3 c3, .string LH, .int .i64 (H.len : Int), .bool H.done, .int .i64 (H.err : Int)] 32 (0, 0))); have HF3 := hid ((HF2.out.next hb).next (below_new w3 (.cells #[.bool H.resp, .int .i64 H.most, .slice q3 x3 c3, .string LH, .int .i64 (H.len : Int), .bool H.done, .int .i64 (H.err : Int)] 32 (0, 0)))); clear ho3 hH hb hx3 hLH HD1 HR1 HF2) | (go_at_call 8; (with_reducible refine HC3.out.mono ?_); rintro e w4 ⟨q4, d4, x4, rfl, hf4, hb⟩; have K4 := hid ((K3.out.next hb).new (.cells #[.string M, .string T, .int .i64 Qk, .slice q4 nq d4] 25 (0, 0))); have hb4 := below_new w4 (.cells #[.string M, .string T, .int .i64 Qk, .slice q4 nq d4] 25 (0, 0)); have HF4 := hid (And.intro ((HF3.out.next hb).next hb4) (hf4.next hb4)); clear hf4 hb hb4 HC3 HF3) | (at_builtin; refine wpList_append_own_at _ rfl (.tmp 45) (.tmp 46) 22 rfl (w4.alloc (.cells #[.string M, .string T, .int .i64 Qk, .slice q4 nq d4] 25 (0, 0))).heap.size 5 i0 _ 1 1 Tryd.underlying22 hi0 hz0 hz1 hz2 rfl (by decide) (.slice none 0 0) 0 [] (by go_simp) (⟨rfl, .inl ⟨rfl, rfl⟩⟩) ad n c (Lib.byteCells l) (by go_simp) (by simp [Lib.byteCells, HLn.out]) (HNw.out _ K4.out.low) (byte_one9 l) (by unfold maxLen; omega) (by omega) (Nat.le_refl _) ?_; intro v' w5 hown hgr _ _; rw [Nat.zero_add, List.nil_append] at hown; obtain ⟨q5, c5, rfl⟩ := own_slice hown; have HO := hid (show Own w5 (w4.alloc (.cells #[.string M, .string T, .int .i64 Qk, .slice q4 nq d4] 25 (0, 0))).heap.size (.slice q5 n c5) l from by unfold Own; rw [HLn.out]; exact hown); have hbg := below_grown hgr; have K5 := hid (K4.out.next hbg); have HF5 := hid (And.intro (HF4.out.1.next hbg) (HF4.out.2.next hbg)); have HA5 := hid (Own.arg HO.out); clear hown hgr hbg HO HF4) | (go_at_call 9; (with_reducible refine (HP2.out w5 q5 c5 HA5.out).mono ?_); rintro e w6 ⟨qe, de, rfl, hfe, hb⟩; have hb6 := below_new w6 (.cells #[.int .i64 Ps, .string S, .int .i64 Pk, .slice qe np de] 38 (0, 0)); have K6 := hid ((K5.out.next hb).new (.cells #[.int .i64 Ps, .string S, .int .i64 Pk, .slice qe np de] 38 (0, 0))); have HF6 := hid (And.intro ((HF5.out.1.next hb).next hb6) ((HF5.out.2.next hb).next hb6)); have HFe := hid (hfe.next hb6); clear hb hfe hb6 HP2 HF5) | (go_at_call 7; (with_reducible refine (HD2.out _ K6.out.low).mono ?_); rintro e w7 ⟨J, v7, rfl, ho7, hJ, hb⟩; obtain ⟨q7, c7, rfl⟩ := own_slice ho7; obtain ⟨x7, hx7⟩ : ∃ x7, J.lines.length = x7 := ⟨_, rfl⟩; rw [hx7] at ho7 ⊢; obtain ⟨LJ, hLJ⟩ : ∃ LJ, str J.line = LJ := ⟨_, rfl⟩; have HC7 := hid (HR2.out J q7 x7 c7 _ (w7.alloc (.cells #[.bool J.resp, .int .i64 J.most, .slice q7 x7 c7, .string (str J.line), .int .i64 (J.len : Int), .bool J.done, .int .i64 (J.err : Int)] 32 (0, 0))) hJ (ho7.keep (below_new w7 (.cells #[.bool J.resp, .int .i64 J.most, .slice q7 x7 c7, .string (str J.line), .int .i64 (J.len : Int), .bool J.done, .int .i64 (J.err : Int)] 32 (0, 0))))); rw [hLJ] at HC7 ⊢; have K7 := hid ((K6.out.next hb).new (.cells #[.bool J.resp, .int .i64 J.most, .slice q7 x7 c7, .string LJ, .int .i64 (J.len : Int), .bool J.done, .int .i64 (J.err : Int)] 32 (0, 0))); have hb7 := below_new w7 (.cells #[.bool J.resp, .int .i64 J.most, .slice q7 x7 c7, .string LJ, .int .i64 (J.len : Int), .bool J.done, .int .i64 (J.err : Int)] 32 (0, 0)); have HF7 := hid (And.intro ((HF6.out.1.next hb).next hb7) ((HF6.out.2.next hb).next hb7)); have HFe7 := hid ((HFe.out.next hb).next hb7); clear ho7 hJ hb hx7 hLJ hb7 HD2 HR2 HF6 HFe) | (go_at_call 10; (with_reducible refine HC7.out.mono ?_); rintro e w8 ⟨q8, d8, x8, rfl, hf8, hb⟩; have K8 := hid ((K7.out.next hb).new (.cells #[.int .i64 Ps, .string S, .int .i64 Pk, .slice q8 np d8] 38 (0, 0))); have hb8 := below_new w8 (.cells #[.int .i64 Ps, .string S, .int .i64 Pk, .slice q8 np d8] 38 (0, 0)); have HF8 := hid (And.intro ((HF7.out.1.next hb).next hb8) ((HF7.out.2.next hb).next hb8)); have HFe8 := hid (And.intro ((HFe7.out.next hb).next hb8) (hf8.next hb8)); obtain ⟨y0, y1, y2, y3, _⟩ := cells4 (K8.out.at' (w2.heap.size, (.cells #[.string M, .string T, .int .i64 Qk, .slice qa nq da] 25 (0, 0))) (by simp)); obtain ⟨z0, z1, z2, z3, _⟩ := cells4 (K8.out.at' (w4.heap.size, (.cells #[.string M, .string T, .int .i64 Qk, .slice q4 nq d4] 25 (0, 0))) (by simp)); have HC8 := hid (HSq.out _ qa q4 da d4 HF8.out.1 HF8.out.2); clear hf8 hb hb8 HC7 HF7 HFe7) | (go_at_call 11; (with_reducible refine HC8.out.mono ?_); rintro e w9 ⟨rfl, hb⟩; have K9 := hid (K8.out.next hb); have HF9 := hid (And.intro (HFe8.out.1.next hb) (HFe8.out.2.next hb)); clear hb HC8 HFe8 y0 y1 y2 y3 z0 z1 z2 z3) | (go_at_call 12; (with_reducible refine (HN1.out _ K9.out.low).mono ?_); rintro e w10 ⟨rfl, hb⟩; have K10 := hid (K9.out.next hb); have HC10 := hid (HSp.out _ qe q8 de d8 (HF9.out.1.next hb) (HF9.out.2.next hb)); obtain ⟨y0, y1, y2, y3, _⟩ := cells4 (K10.out.at' (w6.heap.size, (.cells #[.int .i64 Ps, .string S, .int .i64 Pk, .slice qe np de] 38 (0, 0))) (by simp)); obtain ⟨z0, z1, z2, z3, _⟩ := cells4 (K10.out.at' (w8.heap.size, (.cells #[.int .i64 Ps, .string S, .int .i64 Pk, .slice q8 np d8] 38 (0, 0))) (by simp)); clear hb HF9 HN1) | (go_at_call 13; (with_reducible refine HC10.out.mono ?_); rintro e w11 ⟨rfl, hb⟩; have K11 := hid (K10.out.next hb); clear hb HC10 y0 y1 y2 y3 z0 z1 z2 z3) | (go_at_call 12; (with_reducible refine (HN2.out _ K11.out.low).mono ?_); rintro e w12 ⟨rfl, hb⟩; have K12 := hid (K11.out.next hb); clear hb HN2) | (go_at_call 14; (with_reducible refine (HSu.out _).mono ?_); rintro e w13 ⟨rfl, hb⟩; have K13 := hid (K12.out.next hb); clear hb))
  go_ret
  exact ⟨rfl, K13.out.low⟩
set_option maxRecDepth 20000 in
set_option maxHeartbeats 8000000 in
theorem parses_none (l : B) (n c : Nat) (m : Int) (w : World) (hn : l.length = n) (ha : ArgAt w none l) (hl : n ≤ 140737488355328) (hE : EnvE w) : Calls Tryd.prog 3 #[.slice none n c, .int .i64 m] w fun e w' => e = .returned (.bool true) ∧ Below w.heap.size w w' := by
  have hl0 : l = [] := by
    cases l with
    | nil => rfl
    | cons y r => obtain ⟨g, o, e, _⟩ := ha 0 y rfl; cases e
  have hn0 : n = 0 := by rw [← hn, hl0]; rfl
  subst hn0
  have HP1 := hid (show ∀ (W : World) (p : Option Addr) (c : Nat), ArgAt W p l → _ from fun W p c h => preq_gen l p 0 c m W hn h hl)
  have HP2 := hid (show ∀ (W : World) (p : Option Addr) (c : Nat), ArgAt W p l → _ from fun W p c h => presp_gen l p 0 c m W hn h hl)
  have HD1 := hid (show ∀ W : World, Below w.heap.size w W → _ from fun W hb => dparse_gen false l none 0 c m W hn (ha.next hb) hl)
  have HD2 := hid (show ∀ W : World, Below w.heap.size w W → _ from fun W hb => dparse_gen true l none 0 c m W hn (ha.next hb) hl)
  rw [tk_req] at HD1
  rw [tk_resp] at HD2
  have HR1 := hid (show ∀ (H : HS) (q : Option Addr) (x d : Nat) (b : Nat) (W : World), HeadOf false l m H → OwnS W b (.slice q x d) H.lines → _ from fun H q x d b W h1 h2 => dreq_gen l m H (.slice q x d) b W h1 h2)
  have HR2 := hid (show ∀ (H : HS) (q : Option Addr) (x d : Nat) (b : Nat) (W : World), HeadOf true l m H → OwnS W b (.slice q x d) H.lines → _ from fun H q x d b W h1 h2 => dresp_gen l m H (.slice q x d) b W h1 h2)
  have HN1 := hid (show ∀ W : World, Below w.heap.size w W → _ from fun W hb => num_any (parseE false l m) W (hE.next hb))
  have HN2 := hid (show ∀ W : World, Below w.heap.size w W → _ from fun W hb => num_any (parseE true l m) W (hE.next hb))
  have HSu := hid (show ∀ W : World, _ from fun W => sure_any W)
  have hfq : (reqOf l m).fs.length ≤ 140737488355328 := by
    unfold reqOf
    split
    · rename_i h0
      obtain ⟨x, ls, h1, _, _, _, h5, _, _, h8⟩ := whole_both h0
      show (feedP (newP false m) l).fields.length ≤ _
      rw [h5, List.length_map]
      rw [h1, List.length_cons] at h8
      omega
    · exact Nat.zero_le _
  have hfp : (respOf l m).fs.length ≤ 140737488355328 := by
    unfold respOf
    split
    · rename_i h0
      obtain ⟨x, ls, h1, _, _, _, h5, _, _, h8⟩ := whole_both h0
      show (feedP (newP true m) l).fields.length ≤ _
      rw [h5, List.length_map]
      rw [h1, List.length_cons] at h8
      omega
    · exact Nat.zero_le _
  obtain ⟨E1, hE1⟩ : ∃ E, parseE false l m = E := ⟨_, rfl⟩
  obtain ⟨E2, hE2⟩ : ∃ E, parseE true l m = E := ⟨_, rfl⟩
  rw [hE1] at HP1 HD1 HN1
  rw [hE2] at HP2 HD2 HN2
  obtain ⟨V1, hV1⟩ : ∃ V, errOf E1 = V := ⟨_, rfl⟩
  obtain ⟨V2, hV2⟩ : ∃ V, errOf E2 = V := ⟨_, rfl⟩
  rw [hV1] at HP1 HN1
  rw [hV2] at HP2 HN2
  obtain ⟨Q, hQ⟩ : ∃ Q, reqOf l m = Q := ⟨_, rfl⟩
  obtain ⟨P, hP⟩ : ∃ P, respOf l m = P := ⟨_, rfl⟩
  rw [hQ] at HP1 HD1 HR1 hfq
  rw [hP] at HP2 HD2 HR2 hfp
  obtain ⟨QM, QT, Qk, Qf, Qt⟩ := Q
  obtain ⟨Ps, PT, Pk, Pf, Pt⟩ := P
  dsimp only at HP1 HD1 HR1 hfq HP2 HD2 HR2 hfp
  have HSq := hid (show ∀ (W : World) (p p' : Option Addr) (c c' : Nat), FAt W p Qf → FAt W p' Qf → _ from fun W p p' c c' h h' => requests_same (str QM) (str QT) Qk Qf p p' Qf.length c c' rfl W h h' hfq)
  have HSp := hid (show ∀ (W : World) (p p' : Option Addr) (c c' : Nat), FAt W p Pf → FAt W p' Pf → _ from fun W p p' c c' h h' => responses_same Ps (str PT) Pk Pf p p' Pf.length c c' rfl W h h' hfp)
  obtain ⟨M, hM⟩ : ∃ M, str QM = M := ⟨_, rfl⟩
  obtain ⟨T, hT⟩ : ∃ T, str QT = T := ⟨_, rfl⟩
  obtain ⟨S, hS⟩ : ∃ S, str PT = S := ⟨_, rfl⟩
  rw [hM, hT] at HP1 HR1 HSq
  rw [hS] at HP2 HR2 HSp
  obtain ⟨nq, hnq⟩ : ∃ nq, Qf.length = nq := ⟨_, rfl⟩
  obtain ⟨np, hnp⟩ : ∃ np, Pf.length = np := ⟨_, rfl⟩
  rw [hnq] at HP1 HR1 HSq
  rw [hnp] at HP2 HR2 HSp
  unfold headV at HD1 HD2 HR1 HR2
  have HLn := hid hn
  have HAN := hid (show ∀ W : World, ArgAt W none l from by intro W i y hi; rw [hl0] at hi; simp at hi)
  have HA := hid ha
  clear hE1 hE2 hV1 hV2 hQ hP hM hT hS hnq hnp hE hfq hfp ha hn hl0
  go_enter Tryd.func3, Tryd.ntmps3
  go_wp2_with (first | (go_at_call 6; (with_reducible refine (HP1.out _ none 0 (HAN.out _)).mono ?_); rintro e w2 ⟨qa, da, rfl, hfa, hb⟩; have K2 := hid ((Kept.next (show Kept w _ [] from ⟨(by first | exact Below.refl _ _ | exact (Below.refl _ _).drew), fun x hx => by simp at hx⟩) hb).new (.cells #[.string M, .string T, .int .i64 Qk, .slice qa nq da] 25 (0, 0))); have hb2 := below_new w2 (.cells #[.string M, .string T, .int .i64 Qk, .slice qa nq da] 25 (0, 0)); have HF2 := hid (hfa.next hb2); clear hb hfa hb2 HP1) | (go_at_call 7; (with_reducible refine (HD1.out _ K2.out.low).mono ?_); rintro e w3 ⟨H, v3, rfl, ho3, hH, hb⟩; obtain ⟨q3, c3, rfl⟩ := own_slice ho3; obtain ⟨x3, hx3⟩ : ∃ x3, H.lines.length = x3 := ⟨_, rfl⟩; rw [hx3] at ho3 ⊢; obtain ⟨LH, hLH⟩ : ∃ LH, str H.line = LH := ⟨_, rfl⟩; have HC3 := hid (HR1.out H q3 x3 c3 _ (w3.alloc (.cells #[.bool H.resp, .int .i64 H.most, .slice q3 x3 c3, .string (str H.line), .int .i64 (H.len : Int), .bool H.done, .int .i64 (H.err : Int)] 32 (0, 0))) hH (ho3.keep (below_new w3 (.cells #[.bool H.resp, .int .i64 H.most, .slice q3 x3 c3, .string (str H.line), .int .i64 (H.len : Int), .bool H.done, .int .i64 (H.err : Int)] 32 (0, 0))))); rw [hLH] at HC3 ⊢; have K3 := hid ((K2.out.next hb).new (.cells #[.bool H.resp, .int .i64 H.most, .slice q3 x3 c3, .string LH, .int .i64 (H.len : Int), .bool H.done, .int .i64 (H.err : Int)] 32 (0, 0))); have HF3 := hid ((HF2.out.next hb).next (below_new w3 (.cells #[.bool H.resp, .int .i64 H.most, .slice q3 x3 c3, .string LH, .int .i64 (H.len : Int), .bool H.done, .int .i64 (H.err : Int)] 32 (0, 0)))); clear ho3 hH hb hx3 hLH HD1 HR1 HF2) | (go_at_call 8; (with_reducible refine HC3.out.mono ?_); rintro e w4 ⟨q4, d4, x4, rfl, hf4, hb⟩; have K4 := hid ((K3.out.next hb).new (.cells #[.string M, .string T, .int .i64 Qk, .slice q4 nq d4] 25 (0, 0))); have hb4 := below_new w4 (.cells #[.string M, .string T, .int .i64 Qk, .slice q4 nq d4] 25 (0, 0)); have HF4 := hid (And.intro ((HF3.out.next hb).next hb4) (hf4.next hb4)); clear hf4 hb hb4 HC3 HF3) | (go_at_call 9; (with_reducible refine (HP2.out _ none 0 (HAN.out _)).mono ?_); rintro e w6 ⟨qe, de, rfl, hfe, hb⟩; have hb6 := below_new w6 (.cells #[.int .i64 Ps, .string S, .int .i64 Pk, .slice qe np de] 38 (0, 0)); have K6 := hid ((Kept.next (Kept.next K4.out (by first | exact Below.refl _ _ | exact (Below.refl _ _).drew)) hb).new (.cells #[.int .i64 Ps, .string S, .int .i64 Pk, .slice qe np de] 38 (0, 0))); have HF6 := hid (And.intro (((HF4.out.1.next (by first | exact Below.refl _ _ | exact (Below.refl _ _).drew)).next hb).next hb6) (((HF4.out.2.next (by first | exact Below.refl _ _ | exact (Below.refl _ _).drew)).next hb).next hb6)); have HFe := hid (hfe.next hb6); clear hb hfe hb6 HP2 HF4) | (go_at_call 7; (with_reducible refine (HD2.out _ K6.out.low).mono ?_); rintro e w7 ⟨J, v7, rfl, ho7, hJ, hb⟩; obtain ⟨q7, c7, rfl⟩ := own_slice ho7; obtain ⟨x7, hx7⟩ : ∃ x7, J.lines.length = x7 := ⟨_, rfl⟩; rw [hx7] at ho7 ⊢; obtain ⟨LJ, hLJ⟩ : ∃ LJ, str J.line = LJ := ⟨_, rfl⟩; have HC7 := hid (HR2.out J q7 x7 c7 _ (w7.alloc (.cells #[.bool J.resp, .int .i64 J.most, .slice q7 x7 c7, .string (str J.line), .int .i64 (J.len : Int), .bool J.done, .int .i64 (J.err : Int)] 32 (0, 0))) hJ (ho7.keep (below_new w7 (.cells #[.bool J.resp, .int .i64 J.most, .slice q7 x7 c7, .string (str J.line), .int .i64 (J.len : Int), .bool J.done, .int .i64 (J.err : Int)] 32 (0, 0))))); rw [hLJ] at HC7 ⊢; have K7 := hid ((K6.out.next hb).new (.cells #[.bool J.resp, .int .i64 J.most, .slice q7 x7 c7, .string LJ, .int .i64 (J.len : Int), .bool J.done, .int .i64 (J.err : Int)] 32 (0, 0))); have hb7 := below_new w7 (.cells #[.bool J.resp, .int .i64 J.most, .slice q7 x7 c7, .string LJ, .int .i64 (J.len : Int), .bool J.done, .int .i64 (J.err : Int)] 32 (0, 0)); have HF7 := hid (And.intro ((HF6.out.1.next hb).next hb7) ((HF6.out.2.next hb).next hb7)); have HFe7 := hid ((HFe.out.next hb).next hb7); clear ho7 hJ hb hx7 hLJ hb7 HD2 HR2 HF6 HFe) | (go_at_call 10; (with_reducible refine HC7.out.mono ?_); rintro e w8 ⟨q8, d8, x8, rfl, hf8, hb⟩; have K8 := hid ((K7.out.next hb).new (.cells #[.int .i64 Ps, .string S, .int .i64 Pk, .slice q8 np d8] 38 (0, 0))); have hb8 := below_new w8 (.cells #[.int .i64 Ps, .string S, .int .i64 Pk, .slice q8 np d8] 38 (0, 0)); have HF8 := hid (And.intro ((HF7.out.1.next hb).next hb8) ((HF7.out.2.next hb).next hb8)); have HFe8 := hid (And.intro ((HFe7.out.next hb).next hb8) (hf8.next hb8)); obtain ⟨y0, y1, y2, y3, _⟩ := cells4 (K8.out.at' (w2.heap.size, (.cells #[.string M, .string T, .int .i64 Qk, .slice qa nq da] 25 (0, 0))) (by simp)); obtain ⟨z0, z1, z2, z3, _⟩ := cells4 (K8.out.at' (w4.heap.size, (.cells #[.string M, .string T, .int .i64 Qk, .slice q4 nq d4] 25 (0, 0))) (by simp)); have HC8 := hid (HSq.out _ qa q4 da d4 HF8.out.1 HF8.out.2); clear hf8 hb hb8 HC7 HF7 HFe7) | (go_at_call 11; (with_reducible refine HC8.out.mono ?_); rintro e w9 ⟨rfl, hb⟩; have K9 := hid (K8.out.next hb); have HF9 := hid (And.intro (HFe8.out.1.next hb) (HFe8.out.2.next hb)); clear hb HC8 HFe8 y0 y1 y2 y3 z0 z1 z2 z3) | (go_at_call 12; (with_reducible refine (HN1.out _ K9.out.low).mono ?_); rintro e w10 ⟨rfl, hb⟩; have K10 := hid (K9.out.next hb); have HC10 := hid (HSp.out _ qe q8 de d8 (HF9.out.1.next hb) (HF9.out.2.next hb)); obtain ⟨y0, y1, y2, y3, _⟩ := cells4 (K10.out.at' (w6.heap.size, (.cells #[.int .i64 Ps, .string S, .int .i64 Pk, .slice qe np de] 38 (0, 0))) (by simp)); obtain ⟨z0, z1, z2, z3, _⟩ := cells4 (K10.out.at' (w8.heap.size, (.cells #[.int .i64 Ps, .string S, .int .i64 Pk, .slice q8 np d8] 38 (0, 0))) (by simp)); clear hb HF9 HN1) | (go_at_call 13; (with_reducible refine HC10.out.mono ?_); rintro e w11 ⟨rfl, hb⟩; have K11 := hid (K10.out.next hb); clear hb HC10 y0 y1 y2 y3 z0 z1 z2 z3) | (go_at_call 12; (with_reducible refine (HN2.out _ K11.out.low).mono ?_); rintro e w12 ⟨rfl, hb⟩; have K12 := hid (K11.out.next hb); clear hb HN2) | (go_at_call 14; (with_reducible refine (HSu.out _).mono ?_); rintro e w13 ⟨rfl, hb⟩; have K13 := hid (K12.out.next hb); clear hb))
  go_ret
  exact ⟨rfl, K13.out.low⟩
theorem parses_walk (l : B) (p : Option Addr) (n c : Nat) (m : Int) (w : World) (hn : l.length = n) (ha : ArgAt w p l) (hl : n ≤ 140737488355328) (hE : EnvE w) : Calls Tryd.prog 3 #[.slice p n c, .int .i64 m] w fun e w' => e = .returned (.bool true) ∧ Below w.heap.size w w' := by
  cases p with
  | none => exact parses_none l n c m w hn ha hl hE
  | some ad => exact parses_some l ad n c m w hn ha hl hE
end Go.Proofs.YtfmkkkkdfkjdlaaDoor
