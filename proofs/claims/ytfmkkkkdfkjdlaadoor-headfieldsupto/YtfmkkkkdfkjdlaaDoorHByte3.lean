/- The document's head: the first line that ends. -/
import Derived.Test.YtfmkkkkdfkjdlaaDoorHByte2
namespace Go.Proofs.YtfmkkkkdfkjdlaaDoor
open Go.RowKit

set_option maxRecDepth 20000 in
set_option maxHeartbeats 8000000 in
theorem byte_nil (resp dn : Bool) (most : Int) (line : B) (len er : Nat) (c : UInt8) (base : Nat) (w : World) (hlen : len ≤ 70368744177600) (hl1 : line.length ≤ 70368744177600) (hm : ¬ most < (len : Int) + 1) (hw13 : line.getLast? = some 13) (hc : c = 10) (hbase : base ≤ w.heap.size) :
    Calls Tryd.prog 40 #[headV ⟨resp, most, [], line, len, dn, er⟩ (.slice none 0 0), byteV c] w (ByteAns ⟨resp, most, [], line, len, dn, er⟩ c base w) := by
  subst hc
  have HV := hid (show byteH ⟨resp, most, [], line, len, dn, er⟩ 10 = ⟨resp, most, [] ++ [line.dropLast], [], len + 1, dn, er⟩ from by unfold byteH; dsimp only; rw [if_neg hm, if_pos hw13, if_pos (show (10 : UInt8) = 10 from rfl), if_neg (show ¬ (line.dropLast = [] ∧ ([] : List B) ≠ []) from fun h => h.2 rfl), if_neg (by decide)])
  unfold headV byteV
  dsimp only
  obtain ⟨S, hS⟩ : ∃ S, str line = S := ⟨_, rfl⟩
  have HSs := hid hS
  rw [hS]
  have HSz := hid (show S.size = line.length from by rw [← hS]; exact str_size line)
  have HByte := hid (show ∀ (k : Nat) (h : k < line.length) (h2 : k < S.size), S[k]'h2 = line[k]'h from fun k h h2 => by subst hS; rfl)
  obtain ⟨k, y, hk, hky, hlast⟩ := last_split (show line ≠ [] from fun h => by rw [h] at hw13; simp at hw13)
  obtain rfl : y = 13 := by rw [hlast] at hw13; exact Option.some.inj hw13
  have hSk : S.size = k + 1 := by rw [HSz.out, hk]
  have hbyte : ∀ h : k < S.size, ((S[k]'h).toNat : Int) = 13 := fun h => by rw [HByte.out k (by omega) h]; rw [List.getElem?_eq_getElem (by omega)] at hky; rw [Option.some.inj hky]; rfl
  have hwk : wrap64 (k : Int) = (k : Int) := by unfold wrap64; omega
  have hk2 : k ≤ 70368744177600 := by omega
  obtain ⟨W0, hW0⟩ : ∃ W0, W0 = (w.alloc (.cells #[.bool resp, .int .i64 most, .slice none 0 0, .string ⟨#[]⟩, .int .i64 ((len : Int) + 1), .bool dn, .int .i64 (er : Int)] 32 (0, 0))).alloc (.cells #[.bool false, .int .i64 0, .slice none 0 0, .string ⟨#[]⟩, .int .i64 0, .bool false, .int .i64 0] 32 (0, 0)) := ⟨_, rfl⟩
  have HT0 := hid (HWd.start hW0)
  have HW0 := hid hW0
  have HX := hid (show S.extract 0 k = str line.dropLast from by rw [← hS, take_ext]; congr 2; rw [List.dropLast_eq_take, hk]; rfl)
  obtain ⟨X, hX⟩ : ∃ X, S.extract 0 k = X := ⟨_, rfl⟩
  rw [hX] at HX
  have HC0 := hid (show ∀ j u, [Value.string X][j]? = some u → (W0.alloc (.cells #[.string X] 9 (0, 0))).cell? ((⟨w.heap.size + 1 + 1, 0, none⟩ : Addr).add j) = some u from by
    have hsz : W0.heap.size = w.heap.size + 1 + 1 := by rw [hW0]; simp
    rw [← hsz]
    exact cells_new W0 [.string X] 9)
  rw [show ((10 : UInt8).toNat : Int) = 10 from rfl]
  clear hW0 hw13 hk hky hlast
  obtain ⟨j0, hj0, hy0, hy1, hy2⟩ := info_parts infoS
  clear hS
  go_enter Tryd.func40, Tryd.ntmps40
  cases hX0 : (X.toList == []) with
  | true =>
    have e2 : X.toList.isEmpty = true := by simpa using hX0
    have e3 : X.toList = [] := by simpa using hX0
    go_wp2_with (at_builtin; refine wpList_append_own_at _ rfl (.tmp 60) (.tmp 62) 30 rfl (w.heap.size + 1 + 1) 9 j0 _ 1 16 Tryd.underlying30 hj0 hy0 hy1 hy2 rfl (by decide) (.slice none 0 0) 0 [] (by go_simp) (OwnS.nil _ _) ⟨w.heap.size + 1 + 1, 0, none⟩ 1 1 [.string X] (by go_simp) rfl (by rw [← HW0.out]; exact HC0.out) (by simp [Value.oneCell']) (by unfold maxLen; omega) (by omega) (by rw [← HW0.out]; exact Nat.le_trans HT0.out.size (below_new _ _).size) ?_; intro v' w2 hown hgr _ _; rw [← HW0.out] at hgr; have HT2 := hid ((HT0.out.next (.cells #[.string X] 9 (0, 0))).high (OwnS.below (OwnS.nil _ _) (Nat.le_trans HT0.out.size (below_new _ _).size) hgr)); clear hgr; obtain ⟨p8, c8, rfl⟩ := own_slice hown; have HO2 := hid (show OwnS w2 (w.heap.size + 1 + 1) (.slice p8 (0 + 1) c8) ([] ++ [line.dropLast]) from by have h9 := OwnS.put (acc := []) (t := line.dropLast) (by rw [← HX.out]; exact hown); exact h9); clear hown; obtain ⟨x0, x1, x2, x3, x4, x5, x6, xz⟩ := seven HT2.out.r; obtain ⟨_, _, _, _, _, _, _, oz⟩ := seven HT2.out.o; have xz2 := xz 2; have xz6 := xz 6; have oz0 := oz 0; have oz1 := oz 1; have oz2 := oz 2; have oz3 := oz 3; have oz4 := oz 4; have oz5 := oz 5; have oz6 := oz 6; clear xz oz)
    (try simp only [Exit.inBlock, Exit.then])
    refine bodyPost_ret (results_hd rfl _ _ _ 32 _ (0, 0) rfl (seven_put (has_seven (HT2.out.lines _).o) _ _ _ _ _ _ _) rfl) rfl ?_
    refine ans_of HV.out (v' := .slice p8 (0 + 1) c8) ?_ ?_ ((HT2.out.lines _).out _ _ _ _ _ _ _)
    · unfold headV
      dsimp only
      push_cast
      rfl
    · dsimp only
      refine OwnS.base ?_ (show base ≤ w.heap.size + 1 + 1 by omega)
      iterate 8 refine OwnS.other ?_ (by omega)
      exact HO2.out
  | false =>
    have e2 : X.toList.isEmpty = false := by simpa using hX0
    have e3 : ¬ X.toList = [] := by simpa using hX0
    go_wp2_with (at_builtin; refine wpList_append_own_at _ rfl (.tmp 60) (.tmp 62) 30 rfl (w.heap.size + 1 + 1) 9 j0 _ 1 16 Tryd.underlying30 hj0 hy0 hy1 hy2 rfl (by decide) (.slice none 0 0) 0 [] (by go_simp) (OwnS.nil _ _) ⟨w.heap.size + 1 + 1, 0, none⟩ 1 1 [.string X] (by go_simp) rfl (by rw [← HW0.out]; exact HC0.out) (by simp [Value.oneCell']) (by unfold maxLen; omega) (by omega) (by rw [← HW0.out]; exact Nat.le_trans HT0.out.size (below_new _ _).size) ?_; intro v' w2 hown hgr _ _; rw [← HW0.out] at hgr; have HT2 := hid ((HT0.out.next (.cells #[.string X] 9 (0, 0))).high (OwnS.below (OwnS.nil _ _) (Nat.le_trans HT0.out.size (below_new _ _).size) hgr)); clear hgr; obtain ⟨p8, c8, rfl⟩ := own_slice hown; have HO2 := hid (show OwnS w2 (w.heap.size + 1 + 1) (.slice p8 (0 + 1) c8) ([] ++ [line.dropLast]) from by have h9 := OwnS.put (acc := []) (t := line.dropLast) (by rw [← HX.out]; exact hown); exact h9); clear hown; obtain ⟨x0, x1, x2, x3, x4, x5, x6, xz⟩ := seven HT2.out.r; obtain ⟨_, _, _, _, _, _, _, oz⟩ := seven HT2.out.o; have xz2 := xz 2; have xz6 := xz 6; have oz0 := oz 0; have oz1 := oz 1; have oz2 := oz 2; have oz3 := oz 3; have oz4 := oz 4; have oz5 := oz 5; have oz6 := oz 6; clear xz oz)
    (try simp only [Exit.inBlock, Exit.then])
    refine bodyPost_ret (results_hd rfl _ _ _ 32 _ (0, 0) rfl (seven_put (has_seven (HT2.out.lines _).o) _ _ _ _ _ _ _) rfl) rfl ?_
    refine ans_of HV.out (v' := .slice p8 (0 + 1) c8) ?_ ?_ ((HT2.out.lines _).out _ _ _ _ _ _ _)
    · unfold headV
      dsimp only
      push_cast
      rfl
    · dsimp only
      refine OwnS.base ?_ (show base ≤ w.heap.size + 1 + 1 by omega)
      iterate 8 refine OwnS.other ?_ (by omega)
      exact HO2.out
end Go.Proofs.YtfmkkkkdfkjdlaaDoor
