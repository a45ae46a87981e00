/- The document's head: one byte more, whatever it is. -/
import Derived.Test.YtfmkkkkdfkjdlaaDoorHByte3
namespace Go.Proofs.YtfmkkkkdfkjdlaaDoor
open Go.RowKit

set_option maxRecDepth 20000 in
set_option maxHeartbeats 8000000 in
theorem byte_line1 (resp dn : Bool) (most : Int) (lines : List B) (line : B) (len er : Nat) (c : UInt8) (base : Nat) (pl : Option Addr) (ln cp : Nat) (hln : lines.length = ln) (w : World) (ho : OwnS w base (.slice pl ln cp) lines) (hlen : len ≤ 70368744177600) (hl1 : line.length ≤ 70368744177600) (hm : ¬ most < (len : Int) + 1) (hw13 : line.getLast? = some 13) (hc : c = 10) (hno : line = [13]) (hl0 : ln = 0) (hbase : base ≤ w.heap.size) (hl2 : ln ≤ 1000000) (ad : Addr) (had : pl = some ad) :
    Calls Tryd.prog 40 #[headV ⟨resp, most, lines, line, len, dn, er⟩ (.slice pl ln cp), byteV c] w (ByteAns ⟨resp, most, lines, line, len, dn, er⟩ c base w) := by
  subst hc
  subst hl0
  have hz9 := List.length_eq_zero_iff.1 hln
  subst hz9
  subst had
  have HV := hid (show byteH ⟨resp, most, [], line, len, dn, er⟩ 10 = ⟨resp, most, [] ++ [line.dropLast], [], len + 1, dn, if 65 < 0 + 1 then 22 else er⟩ from by unfold byteH; dsimp only; rw [if_neg hm, if_pos hw13, if_pos (show (10 : UInt8) = 10 from rfl), if_neg (show ¬ (line.dropLast = [] ∧ ([] : List B) ≠ []) from fun h => h.2 rfl), hln])
  have HO := hid ho
  have HLn := hid hln
  unfold headV byteV
  dsimp only
  obtain ⟨S, hS⟩ : ∃ S, str line = S := ⟨_, rfl⟩
  have HSs := hid hS
  rw [hS]
  clear ho
  have HSz := hid (show S.size = line.length from by rw [← hS]; exact str_size line)
  have HByte := hid (show ∀ (k : Nat) (h : k < line.length) (h2 : k < S.size), S[k]'h2 = line[k]'h from fun k h h2 => by subst hS; rfl)
  obtain ⟨k, y, hk, hky, hlast⟩ := last_split (show line ≠ [] from fun h => by rw [h] at hw13; simp at hw13)
  obtain rfl : y = 13 := by rw [hlast] at hw13; exact Option.some.inj hw13
  have hSk : S.size = k + 1 := by rw [HSz.out, hk]
  have hbyte : ∀ h : k < S.size, ((S[k]'h).toNat : Int) = 13 := fun h => by rw [HByte.out k (by omega) h]; rw [List.getElem?_eq_getElem (by omega)] at hky; rw [Option.some.inj hky]; rfl
  have hwk : wrap64 (k : Int) = (k : Int) := by unfold wrap64; omega
  have hk2 : k ≤ 70368744177600 := by omega
  obtain ⟨W0, hW0⟩ : ∃ W0, W0 = (w.alloc (.cells #[.bool resp, .int .i64 most, .slice (some ad) 0 cp, .string ⟨#[]⟩, .int .i64 ((len : Int) + 1), .bool dn, .int .i64 (er : Int)] 32 (0, 0))).alloc (.cells #[.bool false, .int .i64 0, .slice none 0 0, .string ⟨#[]⟩, .int .i64 0, .bool false, .int .i64 0] 32 (0, 0)) := ⟨_, rfl⟩
  have HT0 := hid (HWd.start hW0)
  have HW0 := hid hW0
  have HO0 := hid (HO.out.keep HT0.out.low)
  have HNw := hid HO0.out.news
  have HOne := hid (show ∀ u ∈ strC [], u.oneCell' = true from fun u hu => by unfold strC at hu; rw [List.mem_map] at hu; obtain ⟨t, _, rfl⟩ := hu; rfl)
  have HX := hid (show S.extract 0 k = str line.dropLast from by rw [← hS, take_ext]; congr 2; rw [List.dropLast_eq_take, hk]; rfl)
  obtain ⟨e1, e2, e3⟩ := (show ((S.extract 0 k).toList == []) = true ∧ (S.extract 0 k).toList.isEmpty = true ∧ (S.extract 0 k).toList = [] from by rw [HX.out, str_tl, hno]; decide)
  obtain ⟨X, hX⟩ : ∃ X, S.extract 0 k = X := ⟨_, rfl⟩
  rw [hX] at HX e1 e2 e3
  rw [show ((10 : UInt8).toNat : Int) = 10 from rfl]
  clear hW0 hw13 hk hky hlast
  obtain ⟨j0, hj0, hy0, hy1, hy2⟩ := info_parts infoS
  have HL65 := hid (show ¬ 65 < 0 + 1 by omega)
  clear hS hln hno
  go_enter Tryd.func40, Tryd.ntmps40
  have h65 : ¬ 65 < 0 + 1 := HL65.out
  · have h66 : ¬ (65 : Int) < ((0 : Nat) : Int) + 1 := by omega
    go_wp2_with (first | (at_builtin; refine wpList_append_own_at _ rfl (.tmp 57) (.tmp 59) 30 rfl (w.heap.size + 1 + 1) 9 j0 _ 1 16 Tryd.underlying30 hj0 hy0 hy1 hy2 rfl (by decide) (.slice none 0 0) 0 [] (by go_simp) (OwnS.nil _ _) ad 0 cp (strC []) (by go_simp) (by rw [← HLn.out]; simp [strC]) (by rw [← HW0.out]; exact HNw.out) HOne.out (by unfold maxLen; omega) (by omega) (by rw [← HW0.out]; exact HT0.out.size) ?_; intro v' w1 hown hgr _ _; rw [← HW0.out] at hgr; have HT1 := hid (HT0.out.below (below_grown hgr)); clear hgr; rw [Nat.zero_add, List.nil_append] at hown; obtain ⟨p7, c7, rfl⟩ := own_slice hown; have HO1 := hid (show OwnS w1 (w.heap.size + 1 + 1) (.slice p7 0 c7) [] from by unfold OwnS; rw [HLn.out]; exact hown); clear hown) | (at_builtin; refine wpList_append_own_at _ rfl (.tmp 60) (.tmp 62) 30 rfl (w.heap.size + 1 + 1) 9 j0 _ 1 16 Tryd.underlying30 hj0 hy0 hy1 hy2 rfl (by decide) (.slice p7 0 c7) 0 (strC []) (by go_simp) (by have h8 := HO1.out.alloc (.cells #[.string X] 9 (0, 0)); unfold OwnS at h8; rw [HLn.out] at h8; exact h8) ⟨w1.heap.size, 0, none⟩ 1 1 [.string X] (by go_simp) rfl (cells_new w1 _ _) (by simp [Value.oneCell']) (by unfold maxLen; omega) (by omega) (Nat.le_trans HT1.out.size (below_new _ _).size) ?_; intro v' w2 hown hgr _ _; have HT2 := hid ((HT1.out.next (.cells #[.string X] 9 (0, 0))).high (OwnS.below (HO1.out.alloc (.cells #[.string X] 9 (0, 0))) (Nat.le_trans HT1.out.size (below_new _ _).size) hgr)); clear hgr; obtain ⟨p8, c8, rfl⟩ := own_slice hown; have HO2 := hid (show OwnS w2 (w.heap.size + 1 + 1) (.slice p8 (0 + 1) c8) ([] ++ [line.dropLast]) from by have h9 := OwnS.put (acc := []) (t := line.dropLast) (by rw [HLn.out, ← HX.out]; exact hown); exact h9); clear hown; obtain ⟨x0, x1, x2, x3, x4, x5, x6, xz⟩ := seven HT2.out.r; obtain ⟨_, _, _, _, _, _, _, oz⟩ := seven HT2.out.o; have xz2 := xz 2; have xz6 := xz 6; have oz0 := oz 0; have oz1 := oz 1; have oz2 := oz 2; have oz3 := oz 3; have oz4 := oz 4; have oz5 := oz 5; have oz6 := oz 6; clear xz oz))
    (try simp only [Exit.inBlock, Exit.then])
    refine bodyPost_ret (results_hd rfl _ _ _ 32 _ (0, 0) rfl (seven_put (has_seven (HT2.out.lines _).o) _ _ _ _ _ _ _) rfl) rfl ?_
    refine ans_of HV.out (v' := .slice p8 (0 + 1) c8) ?_ ?_ ((HT2.out.lines _).out _ _ _ _ _ _ _)
    · unfold headV
      dsimp only
      rw [if_neg h65]; push_cast; rfl
    · dsimp only
      refine OwnS.base ?_ (show base ≤ w.heap.size + 1 + 1 by omega)
      iterate 8 refine OwnS.other ?_ (by omega)
      exact HO2.out
theorem own_none {w : World} {base n cp : Nat} {ls : List B} (h : OwnS w base (.slice none n cp) ls) : ls.length = 0 := by
  rcases h.2 with ⟨h1, h2⟩ | ⟨g, cap, cur, h1, _⟩
  · first | exact h2 | exact h1
  · cases h1
theorem own_nil {w : World} {base n cp : Nat} {ls : List B} (h : OwnS w base (.slice none n cp) ls) : cp = 0 := by
  rcases h.2 with ⟨h1, _⟩ | ⟨g, cap, cur, h1, _⟩
  · cases h1; rfl
  · cases h1
theorem byte_any (h : HS) (c : UInt8) (base : Nat) (v : Value) (w : World) (ho : OwnS w base v h.lines) (hlen : h.len ≤ 70368744177600) (hl1 : h.line.length ≤ 70368744177600) (hbase : base ≤ w.heap.size) (hl2 : h.lines.length ≤ 1000000) :
    Calls Tryd.prog 40 #[headV h v, byteV c] w (ByteAns h c base w) := by
  obtain ⟨resp, most, lines, line, len, dn, er⟩ := h
  dsimp only at ho hlen hl1 hl2
  obtain ⟨pl, cp, rfl⟩ := own_slice ho
  have hln : lines.length = lines.length := rfl
  by_cases hm : most < (len : Int) + 1
  · exact byte_size resp dn most lines line len er c base pl _ cp hln w ho hlen hm
  · by_cases hw : line.getLast? = some 13
    · by_cases h10 : c = 10
      · by_cases h13 : line = [13]
        · by_cases hl0 : 0 < lines.length
          · exact byte_done resp dn most lines line len er c base pl _ cp hln w ho hlen hm h13 h10 hl0
          · cases pl with
            | some ad => exact byte_line1 resp dn most lines line len er c base _ _ cp hln w ho hlen hl1 hm hw h10 h13 (by omega) hbase hl2 ad rfl
            | none =>
              have hn := List.length_eq_zero_iff.1 (show lines.length = 0 by omega)
              subst hn
              obtain rfl : cp = 0 := own_nil ho
              exact byte_nil resp dn most line len er c base w hlen hl1 hm hw h10 hbase
        · cases pl with
          | some ad => exact byte_line0 resp dn most lines line len er c base _ _ cp hln w ho hlen hl1 hm hw h10 h13 hbase hl2 ad rfl
          | none =>
            have hn := List.length_eq_zero_iff.1 (own_none ho)
            subst hn
            obtain rfl : cp = 0 := own_nil ho
            exact byte_nil resp dn most line len er c base w hlen hl1 hm hw h10 hbase
      · by_cases h13 : c = 13
        · exact byte_end1 resp dn most lines line len er c base pl _ cp hln w ho hlen hl1 hm hw h13
        · exact byte_end2 resp dn most lines line len er c base pl _ cp hln w ho hlen hl1 hm hw h10 h13
    · by_cases h10 : c = 10
      · exact byte_lf0 resp dn most lines line len er c base pl _ cp hln w ho hlen hl1 hm hw h10
      · by_cases h13 : c = 13
        · cases hg : goesB resp lines.length line true with
          | true => exact byte_cr resp dn most lines line len er c base pl _ cp hln w ho hlen hl1 hm hw h13 hg
          | false =>
            by_cases hno : line = [] ∧ 0 < lines.length
            · exact byte_cr2 resp dn most lines line len er c base pl _ cp hln w ho hlen hl1 hm h13 hg hno.1 hno.2
            · exact byte_cr3 resp dn most lines line len er c base pl _ cp hln w ho hlen hl1 hm hw h13 hg hno
        · cases hg : goesB resp lines.length (line ++ [c]) false with
          | true => exact byte_on resp dn most lines line len er c base pl _ cp hln w ho hlen hl1 hm hw h10 h13 hg
          | false => exact byte_off resp dn most lines line len er c base pl _ cp hln w ho hlen hl1 hm hw h10 h13 hg
end Go.Proofs.YtfmkkkkdfkjdlaaDoor
