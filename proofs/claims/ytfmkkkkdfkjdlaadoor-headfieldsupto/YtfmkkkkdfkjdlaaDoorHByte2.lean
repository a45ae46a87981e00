/- The document's head: a line that ends. -/
import Derived.Test.YtfmkkkkdfkjdlaaDoorHByte
namespace Go.Proofs.YtfmkkkkdfkjdlaaDoor
open Go.RowKit

theorem drop_one {l : B} (h : l.getLast? = some 13) (hd : l.dropLast = []) : l = [13] := by
  have hn : l ≠ [] := fun e => by rw [e] at h; simp at h
  have := List.dropLast_concat_getLast hn
  rw [hd, List.nil_append] at this
  rw [List.getLast?_eq_some_getLast hn] at h
  rw [← this, Option.some.inj h]
theorem HWd.high {w W V : World} {c0 c1 c2 c3 c4 c5 c6 : Value} (h : HWd w W c0 c1 c2 c3 c4 c5 c6) (hb : Below (w.heap.size + 1 + 1) W V) : HWd w V c0 c1 c2 c3 c4 c5 c6 :=
  ⟨(hb.block _ (by omega)).trans h.r, (hb.block _ (by omega)).trans h.o, h.low.trans (hb.mono (by omega))⟩
theorem HWd.size {w W : World} {c0 c1 c2 c3 c4 c5 c6 : Value} (h : HWd w W c0 c1 c2 c3 c4 c5 c6) : w.heap.size + 1 + 1 ≤ W.heap.size := lt_of_heap h.o
theorem OwnS.news {w : World} {base n c : Nat} {ad : Addr} {ns : List B} (h : OwnS w base (.slice (some ad) n c) ns) : ∀ j u, (strC ns)[j]? = some u → w.cell? (ad.add j) = some u := by
  intro j u hj
  have hj2 : ∃ t, ns[j]? = some t ∧ u = .string (str t) := by
    unfold strC at hj
    rw [List.getElem?_map] at hj
    cases e : ns[j]? with
    | none => rw [e] at hj; simp at hj
    | some t => rw [e] at hj; simp at hj; exact ⟨t, rfl, hj.symm⟩
  obtain ⟨t, ht, rfl⟩ := hj2
  rcases h.2 with ⟨h1, h2⟩ | ⟨g, cap, cur, h1, h2, h3, h4, h5, h6, h7⟩
  · cases h1
  · cases h1
    have := h.at ht
    obtain ⟨g', o', e1, e2⟩ := this
    cases e1
    rw [add_off]
    simpa using e2
theorem OwnS.other {w : World} {b g o : Nat} {v u : Value} {ns : List B} (h : OwnS w b v ns) (hg : g < b) : OwnS (w.setCell ⟨g, o, none⟩ u) b v ns := by
  refine ⟨h.1, ?_⟩
  rcases h.2 with h1 | ⟨g', cap, cur, h1, h2, h3, h4⟩
  · exact .inl h1
  · exact .inr ⟨g', cap, cur, h1, h2, by rw [Below.heap_setCell _ _ _ _ (show g' ≠ g by omega)]; exact h3, h4⟩
theorem HWd.lines {w W : World} {c0 c1 c2 c3 c4 c5 c6 : Value} (h : HWd w W c0 c1 c2 c3 c4 c5 c6) (d : Value) : HWd w (W.setCell ⟨w.heap.size, 2, none⟩ d) c0 c1 d c3 c4 c5 c6 := by
  refine ⟨?_, ?_, ?_⟩
  · simp [World.setCell, Array.getElem?_modify, h.r]
  · rw [Below.heap_setCell _ _ _ _ (show w.heap.size + 1 ≠ w.heap.size by omega)]
    exact h.o
  · exact Below.setCell h.low (Nat.le_refl _) _
set_option maxRecDepth 20000 in
set_option maxHeartbeats 8000000 in
theorem byte_line0 (resp dn : Bool) (most : Int) (lines : List B) (line : B) (len er : Nat) (c : UInt8) (base : Nat) (pl : Option Addr) (ln cp : Nat) (hln : lines.length = ln) (w : World) (ho : OwnS w base (.slice pl ln cp) lines) (hlen : len ≤ 70368744177600) (hl1 : line.length ≤ 70368744177600) (hm : ¬ most < (len : Int) + 1) (hw13 : line.getLast? = some 13) (hc : c = 10) (hno : line ≠ [13]) (hbase : base ≤ w.heap.size) (hl2 : ln ≤ 1000000) (ad : Addr) (had : pl = some ad) :
    Calls Tryd.prog 40 #[headV ⟨resp, most, lines, line, len, dn, er⟩ (.slice pl ln cp), byteV c] w (ByteAns ⟨resp, most, lines, line, len, dn, er⟩ c base w) := by
  subst hc
  subst had
  have HV := hid (show byteH ⟨resp, most, lines, line, len, dn, er⟩ 10 = ⟨resp, most, lines ++ [line.dropLast], [], len + 1, dn, if 65 < ln + 1 then 22 else er⟩ from by unfold byteH; dsimp only; rw [if_neg hm, if_pos hw13, if_pos (show (10 : UInt8) = 10 from rfl), if_neg (show ¬ (line.dropLast = [] ∧ lines ≠ []) from fun h => hno (drop_one hw13 h.1)), hln])
  have HO := hid ho
  have HLn := hid hln
  unfold headV byteV
  dsimp only
  obtain ⟨S, hS⟩ : ∃ S, str line = S := ⟨_, rfl⟩
  have HSs := hid hS
  rw [hS]
  clear ho
  have HSz := hid (show S.size = line.length from by rw [← hS]; exact str_size line)
  have HByte := hid (show ∀ (k : Nat) (h : k < line.length) (h2 : k < S.size), S[k]'h2 = line[k]'h from fun k h h2 => by subst hS; rfl)
  obtain ⟨k, y, hk, hky, hlast⟩ := last_split (show line ≠ [] from fun h => by rw [h] at hw13; simp at hw13)
  obtain rfl : y = 13 := by rw [hlast] at hw13; exact Option.some.inj hw13
  have hSk : S.size = k + 1 := by rw [HSz.out, hk]
  have hbyte : ∀ h : k < S.size, ((S[k]'h).toNat : Int) = 13 := fun h => by rw [HByte.out k (by omega) h]; rw [List.getElem?_eq_getElem (by omega)] at hky; rw [Option.some.inj hky]; rfl
  have hwk : wrap64 (k : Int) = (k : Int) := by unfold wrap64; omega
  have hk2 : k ≤ 70368744177600 := by omega
  obtain ⟨W0, hW0⟩ : ∃ W0, W0 = (w.alloc (.cells #[.bool resp, .int .i64 most, .slice (some ad) ln cp, .string ⟨#[]⟩, .int .i64 ((len : Int) + 1), .bool dn, .int .i64 (er : Int)] 32 (0, 0))).alloc (.cells #[.bool false, .int .i64 0, .slice none 0 0, .string ⟨#[]⟩, .int .i64 0, .bool false, .int .i64 0] 32 (0, 0)) := ⟨_, rfl⟩
  have HT0 := hid (HWd.start hW0)
  have HW0 := hid hW0
  have HO0 := hid (HO.out.keep HT0.out.low)
  have HNw := hid HO0.out.news
  have HOne := hid (show ∀ u ∈ strC lines, u.oneCell' = true from fun u hu => by unfold strC at hu; rw [List.mem_map] at hu; obtain ⟨t, _, rfl⟩ := hu; rfl)
  have HX := hid (show S.extract 0 k = str line.dropLast from by rw [← hS, take_ext]; congr 2; rw [List.dropLast_eq_take, hk]; rfl)
  obtain ⟨e1, e2, e3⟩ := (show ((S.extract 0 k).toList == []) = false ∧ (S.extract 0 k).toList.isEmpty = false ∧ ¬ (S.extract 0 k).toList = [] from by rw [HX.out, str_tl]; have h9 : line.dropLast ≠ [] := fun h => hno (drop_one hw13 h); simpa using h9)
  obtain ⟨X, hX⟩ : ∃ X, S.extract 0 k = X := ⟨_, rfl⟩
  rw [hX] at HX e1 e2 e3
  rw [show ((10 : UInt8).toNat : Int) = 10 from rfl]
  clear hW0 hw13 hk hky hlast
  obtain ⟨j0, hj0, hy0, hy1, hy2⟩ := info_parts infoS
  clear hS hln
  go_enter Tryd.func40, Tryd.ntmps40
  by_cases h65 : 65 < ln + 1
  · have h66 : (65 : Int) < (ln : Int) + 1 := by omega
    go_wp2_with (first | (at_builtin; refine wpList_append_own_at _ rfl (.tmp 57) (.tmp 59) 30 rfl (w.heap.size + 1 + 1) 9 j0 _ 1 16 Tryd.underlying30 hj0 hy0 hy1 hy2 rfl (by decide) (.slice none 0 0) 0 [] (by go_simp) (OwnS.nil _ _) ad ln cp (strC lines) (by go_simp) (by rw [← HLn.out]; simp [strC]) (by rw [← HW0.out]; exact HNw.out) HOne.out (by unfold maxLen; omega) (by omega) (by rw [← HW0.out]; exact HT0.out.size) ?_; intro v' w1 hown hgr _ _; rw [← HW0.out] at hgr; have HT1 := hid (HT0.out.below (below_grown hgr)); clear hgr; rw [Nat.zero_add, List.nil_append] at hown; obtain ⟨p7, c7, rfl⟩ := own_slice hown; have HO1 := hid (show OwnS w1 (w.heap.size + 1 + 1) (.slice p7 ln c7) lines from by unfold OwnS; rw [HLn.out]; exact hown); clear hown) | (at_builtin; refine wpList_append_own_at _ rfl (.tmp 60) (.tmp 62) 30 rfl (w.heap.size + 1 + 1) 9 j0 _ 1 16 Tryd.underlying30 hj0 hy0 hy1 hy2 rfl (by decide) (.slice p7 ln c7) ln (strC lines) (by go_simp) (by have h8 := HO1.out.alloc (.cells #[.string X] 9 (0, 0)); unfold OwnS at h8; rw [HLn.out] at h8; exact h8) ⟨w1.heap.size, 0, none⟩ 1 1 [.string X] (by go_simp) rfl (cells_new w1 _ _) (by simp [Value.oneCell']) (by unfold maxLen; omega) (by omega) (Nat.le_trans HT1.out.size (below_new _ _).size) ?_; intro v' w2 hown hgr _ _; have HT2 := hid ((HT1.out.next (.cells #[.string X] 9 (0, 0))).high (OwnS.below (HO1.out.alloc (.cells #[.string X] 9 (0, 0))) (Nat.le_trans HT1.out.size (below_new _ _).size) hgr)); clear hgr; obtain ⟨p8, c8, rfl⟩ := own_slice hown; have HO2 := hid (show OwnS w2 (w.heap.size + 1 + 1) (.slice p8 (ln + 1) c8) (lines ++ [line.dropLast]) from by have h9 := OwnS.put (acc := lines) (t := line.dropLast) (by rw [HLn.out, ← HX.out]; exact hown); exact h9); clear hown; obtain ⟨x0, x1, x2, x3, x4, x5, x6, xz⟩ := seven HT2.out.r; obtain ⟨_, _, _, _, _, _, _, oz⟩ := seven HT2.out.o; have xz2 := xz 2; have xz6 := xz 6; have oz0 := oz 0; have oz1 := oz 1; have oz2 := oz 2; have oz3 := oz 3; have oz4 := oz 4; have oz5 := oz 5; have oz6 := oz 6; clear xz oz))
    (try simp only [Exit.inBlock, Exit.then])
    refine bodyPost_ret (results_hd rfl _ _ _ 32 _ (0, 0) rfl (seven_put (has_seven ((HT2.out.lines _).err _).o) _ _ _ _ _ _ _) rfl) rfl ?_
    refine ans_of HV.out (v' := .slice p8 (ln + 1) c8) ?_ ?_ (((HT2.out.lines _).err _).out _ _ _ _ _ _ _)
    · unfold headV
      dsimp only
      rw [if_pos h65]; push_cast; rfl
    · dsimp only
      refine OwnS.base ?_ (show base ≤ w.heap.size + 1 + 1 by omega)
      iterate 9 refine OwnS.other ?_ (by omega)
      exact HO2.out
  · have h66 : ¬ (65 : Int) < (ln : Int) + 1 := by omega
    go_wp2_with (first | (at_builtin; refine wpList_append_own_at _ rfl (.tmp 57) (.tmp 59) 30 rfl (w.heap.size + 1 + 1) 9 j0 _ 1 16 Tryd.underlying30 hj0 hy0 hy1 hy2 rfl (by decide) (.slice none 0 0) 0 [] (by go_simp) (OwnS.nil _ _) ad ln cp (strC lines) (by go_simp) (by rw [← HLn.out]; simp [strC]) (by rw [← HW0.out]; exact HNw.out) HOne.out (by unfold maxLen; omega) (by omega) (by rw [← HW0.out]; exact HT0.out.size) ?_; intro v' w1 hown hgr _ _; rw [← HW0.out] at hgr; have HT1 := hid (HT0.out.below (below_grown hgr)); clear hgr; rw [Nat.zero_add, List.nil_append] at hown; obtain ⟨p7, c7, rfl⟩ := own_slice hown; have HO1 := hid (show OwnS w1 (w.heap.size + 1 + 1) (.slice p7 ln c7) lines from by unfold OwnS; rw [HLn.out]; exact hown); clear hown) | (at_builtin; refine wpList_append_own_at _ rfl (.tmp 60) (.tmp 62) 30 rfl (w.heap.size + 1 + 1) 9 j0 _ 1 16 Tryd.underlying30 hj0 hy0 hy1 hy2 rfl (by decide) (.slice p7 ln c7) ln (strC lines) (by go_simp) (by have h8 := HO1.out.alloc (.cells #[.string X] 9 (0, 0)); unfold OwnS at h8; rw [HLn.out] at h8; exact h8) ⟨w1.heap.size, 0, none⟩ 1 1 [.string X] (by go_simp) rfl (cells_new w1 _ _) (by simp [Value.oneCell']) (by unfold maxLen; omega) (by omega) (Nat.le_trans HT1.out.size (below_new _ _).size) ?_; intro v' w2 hown hgr _ _; have HT2 := hid ((HT1.out.next (.cells #[.string X] 9 (0, 0))).high (OwnS.below (HO1.out.alloc (.cells #[.string X] 9 (0, 0))) (Nat.le_trans HT1.out.size (below_new _ _).size) hgr)); clear hgr; obtain ⟨p8, c8, rfl⟩ := own_slice hown; have HO2 := hid (show OwnS w2 (w.heap.size + 1 + 1) (.slice p8 (ln + 1) c8) (lines ++ [line.dropLast]) from by have h9 := OwnS.put (acc := lines) (t := line.dropLast) (by rw [HLn.out, ← HX.out]; exact hown); exact h9); clear hown; obtain ⟨x0, x1, x2, x3, x4, x5, x6, xz⟩ := seven HT2.out.r; obtain ⟨_, _, _, _, _, _, _, oz⟩ := seven HT2.out.o; have xz2 := xz 2; have xz6 := xz 6; have oz0 := oz 0; have oz1 := oz 1; have oz2 := oz 2; have oz3 := oz 3; have oz4 := oz 4; have oz5 := oz 5; have oz6 := oz 6; clear xz oz))
    (try simp only [Exit.inBlock, Exit.then])
    refine bodyPost_ret (results_hd rfl _ _ _ 32 _ (0, 0) rfl (seven_put (has_seven (HT2.out.lines _).o) _ _ _ _ _ _ _) rfl) rfl ?_
    refine ans_of HV.out (v' := .slice p8 (ln + 1) c8) ?_ ?_ ((HT2.out.lines _).out _ _ _ _ _ _ _)
    · unfold headV
      dsimp only
      rw [if_neg h65]; push_cast; rfl
    · dsimp only
      refine OwnS.base ?_ (show base ≤ w.heap.size + 1 + 1 by omega)
      iterate 8 refine OwnS.other ?_ (by omega)
      exact HO2.out
end Go.Proofs.YtfmkkkkdfkjdlaaDoor
