/- Fields added, left out and set by the program, whatever row they lie in. -/
import Derived.Test.YtnlmjlfoeodleaaGreatDoorWGd
namespace Go.Proofs.YtnlmjlfoeodleaaGreatDoor
open Go.RowKit

set_option maxRecDepth 20000 in
set_option maxHeartbeats 8000000 in
theorem padd_some (fs : List (B × B)) (g o n c : Nat) (hn : fs.length = n) (hc : n ≤ c) (a b : B) (w : World) (hF : FAt w (some ⟨g, o, none⟩) fs) (hsz : szW fs) (ha : a.length ≤ 140737488351232) (hb : b.length ≤ 140737488351232) (hnn : n + 1 ≤ 4398046511104) :
    Calls Tryz.prog 42 #[.slice (some ⟨g, o, none⟩) n c, .string (str a), .string (str b)] w fun e w' => ∃ g' m, e = .returned (.slice (some ⟨g', 0, none⟩) m m) ∧ (fs ++ [(a, b)]).length = m ∧ w.heap.size ≤ g' ∧ BlkF w' g' (fs ++ [(a, b)]) ∧ Below w.heap.size w w' := by
  obtain ⟨i0, hi0, hz0, hz1, hz2⟩ := info_parts infoF
  have HAh := hid (show ∀ W : World, _ from fun W => ahead_any g o n c n hc W)
  have HLn := hid (show (fs ++ [(a, b)]).length = n + 1 from by rw [List.length_append, hn]; rfl)
  have HOw := hid (show ∀ (W : World) (p : Option Addr) (d : Nat), FAt W p (fs ++ [(a, b)]) → _ from fun W p d h => own_any (fs ++ [(a, b)]) p (n + 1) d HLn.out W h (szW_app hsz (szW_one ⟨ha, hb⟩)) hnn)
  have HNw := hid (show ∀ W : World, Below w.heap.size w W → ∀ j u, (fldC fs)[j]? = some u → W.cell? ((⟨g, o, none⟩ : Addr).add j) = some u from fun W hb => (hF.next hb).newsW)
  have HL := hid hn
  obtain ⟨N, hN⟩ : ∃ N, str a = N := ⟨_, rfl⟩
  obtain ⟨V, hV⟩ : ∃ V, str b = V := ⟨_, rfl⟩
  rw [hN, hV]
  have HPc := hid (show fldC [(a, b)] = [.string N, .string V] from by rw [← hN, ← hV]; rfl)
  clear hF hsz hn hN hV ha hb
  go_enter Tryz.func42, Tryz.ntmps42
  go_wp2_with (first | (go_at_call 80; (with_reducible refine (HAh.out _).mono ?_); rintro e w1 ⟨rfl, hw1⟩; subst w1; clear HAh) | (at_builtin; refine wpList_append_grows (w.alloc (.cells #[.string N, .string V] 88 (0, 0))) rfl (.tmp 10) (.tmp 14) 33 rfl 88 i0 _ 2 32 Tryz.underlying33 hi0 hz0 hz1 hz2 rfl (by decide) (some ⟨g, o, none⟩) n n (fldC fs) (by go_simp) (fun h => by cases h) (by rw [fldC_len, HL.out]) (fun b e => by cases e; exact HNw.out _ (below_new _ _)) ⟨w.heap.size, 0, none⟩ 1 1 [.string N, .string V] (by go_simp) rfl (cells_new w _ _) (by simp [Value.oneCell']) (by omega) (by unfold maxLen; omega) (by omega) ?_; intro v' w8 hown hgr; obtain ⟨q8, d8, rfl⟩ := own_slice hown; have HB8 := hid (below_out (below_new w _) (below_grown hgr)); have HFr := hid (OwnF.fat (OwnF.appW (A := fs) (C := [(a, b)]) HL.out rfl (by rw [HPc.out]; exact hown))); clear hown hgr) | (go_at_call 75; (with_reducible refine (HOw.out _ _ _ HFr.out).mono ?_); rintro e w9 ⟨rfl, hbk, hb⟩; have HB9 := hid (below_out HB8.out hb); have HK9 := hid hbk; clear hb hbk HOw))
  go_ret
  exact ⟨_, _, rfl, HLn.out, HB8.out.size, HK9.out, HB9.out⟩
set_option maxRecDepth 20000 in
set_option maxHeartbeats 4000000 in
theorem ahead_nil (w : World) : Calls Tryz.prog 80 #[.slice none 0 0, .int .i64 0] w fun e w' => e = .returned (.slice none 0 0) ∧ w' = w := by
  go_enter Tryz.func80, Tryz.ntmps80
  go_wp2
  go_ret
  exact ⟨rfl, rfl⟩
set_option maxRecDepth 20000 in
set_option maxHeartbeats 8000000 in
theorem padd_none (a b : B) (w : World) (ha : a.length ≤ 140737488351232) (hb : b.length ≤ 140737488351232) :
    Calls Tryz.prog 42 #[.slice none 0 0, .string (str a), .string (str b)] w fun e w' => ∃ g' m, e = .returned (.slice (some ⟨g', 0, none⟩) m m) ∧ [(a, b)].length = m ∧ w.heap.size ≤ g' ∧ BlkF w' g' [(a, b)] ∧ Below w.heap.size w w' := by
  obtain ⟨i0, hi0, hz0, hz1, hz2⟩ := info_parts infoF
  have HAh := hid (show ∀ W : World, _ from fun W => ahead_nil W)
  have HOw := hid (show ∀ (W : World) (p : Option Addr) (d : Nat), FAt W p [(a, b)] → _ from fun W p d h => own_any [(a, b)] p 1 d rfl W h (szW_one ⟨ha, hb⟩) (by decide))
  obtain ⟨N, hN⟩ : ∃ N, str a = N := ⟨_, rfl⟩
  obtain ⟨V, hV⟩ : ∃ V, str b = V := ⟨_, rfl⟩
  rw [hN, hV]
  have HPc := hid (show fldC [(a, b)] = [.string N, .string V] from by rw [← hN, ← hV]; rfl)
  clear hN hV ha hb
  go_enter Tryz.func42, Tryz.ntmps42
  go_wp2_with (first | (go_at_call 80; (with_reducible refine (HAh.out _).mono ?_); rintro e w1 ⟨rfl, hw1⟩; subst w1; clear HAh) | (at_builtin; refine wpList_append_own (w.alloc (.cells #[.string N, .string V] 88 (0, 0))) rfl (.tmp 10) (.tmp 14) 33 rfl w.heap.size 88 i0 _ 2 32 Tryz.underlying33 hi0 hz0 hz1 hz2 rfl (by decide) (.slice none 0 0) 0 [] (by go_simp) (OwnF.nil _ _) ⟨w.heap.size, 0, none⟩ 1 1 [.string N, .string V] (by go_simp) rfl (cells_new w _ _) (by simp [Value.oneCell']) (by decide) (by decide) (below_new w _).size ?_; intro v' w8 hown hgr _; obtain ⟨q8, d8, rfl⟩ := own_slice hown; have HB8 := hid (below_out (below_new w _) (below_grown hgr)); have HFr := hid (show FAt w8 q8 [(a, b)] from OwnF.fat (show OwnF w8 w.heap.size (.slice q8 1 d8) [(a, b)] from (by unfold OwnF; rw [HPc.out]; exact hown))); clear hown hgr) | (go_at_call 75; (with_reducible refine (HOw.out _ _ _ HFr.out).mono ?_); rintro e w9 ⟨rfl, hbk, hb⟩; have HB9 := hid (below_out HB8.out hb); have HK9 := hid hbk; clear hb hbk HOw))
  go_ret
  exact ⟨_, _, rfl, rfl, HB8.out.size, HK9.out, HB9.out⟩
theorem padd_any (fs : List (B × B)) (p : Option Addr) (n c : Nat) (hn : fs.length = n) (hc : n ≤ c) (hc0 : p = none → c = 0) (a b : B) (w : World) (hF : FAt w p fs) (hsz : szW fs) (ha : a.length ≤ 140737488351232) (hb : b.length ≤ 140737488351232) (hnn : n + 1 ≤ 4398046511104) (hpl : ∀ ad, p = some ad → ad.spot = none) :
    Calls Tryz.prog 42 #[.slice p n c, .string (str a), .string (str b)] w fun e w' => ∃ g' m, e = .returned (.slice (some ⟨g', 0, none⟩) m m) ∧ (fs ++ [(a, b)]).length = m ∧ w.heap.size ≤ g' ∧ BlkF w' g' (fs ++ [(a, b)]) ∧ Below w.heap.size w w' := by
  cases p with
  | none =>
    obtain rfl := hc0 rfl
    obtain rfl : n = 0 := by omega
    obtain rfl := List.eq_nil_of_length_eq_zero hn
    exact padd_none a b w ha hb
  | some ad =>
    obtain ⟨g, o, sp⟩ := ad
    obtain rfl : sp = none := hpl _ rfl
    exact padd_some fs g o n c hn hc a b w hF hsz ha hb hnn
set_option maxRecDepth 20000 in
set_option maxHeartbeats 8000000 in
theorem pdel_any (fs : List (B × B)) (p : Option Addr) (n c : Nat) (hn : fs.length = n) (a : B) (w : World) (hF : FAt w p fs) (hsz : szW fs) (ha : a.length ≤ 140737488351232) (hnn : n + 1 ≤ 4398046511104) :
    Calls Tryz.prog 38 #[.slice p n c, .string (str a)] w fun e w' => ∃ g' m, e = .returned (.slice (some ⟨g', 0, none⟩) m m) ∧ (delB fs (str a)).length = m ∧ w.heap.size ≤ g' ∧ BlkF w' g' (delB fs (str a)) ∧ Below w.heap.size w w' := by
  have HNa := hid (show ∀ W : World, _ from fun W => named_any (str a) W)
  have HB0 := hid (below_new w (.cells #[.string (str a)] 9 (0, 0)))
  have hc0 : (w.alloc (.cells #[.string (str a)] 9 (0, 0))).cell? ⟨w.heap.size, 0, none⟩ = some (.string (str a)) := by simp only [World.cell?, heap_alloc_new w (.cells #[.string (str a)] 9 (0, 0))]; rfl
  have HC0 := hid hc0
  have has : (str a).size ≤ 140737488351232 := by rw [str_size]; exact ha
  have HWo := hid (without_any fs p n c hn w.heap.size (str a) (w.alloc (.cells #[.string (str a)] 9 (0, 0))) (hF.next HB0.out) hsz has (by omega) hc0)
  have hl := del_le fs (str a)
  have hzd := szW_del (str a) hsz
  rw [show fs.filter (fun f => !isF (str a) f) = delB fs (str a) from rfl] at HWo
  obtain ⟨X, hX⟩ : ∃ X, delB fs (str a) = X := ⟨_, rfl⟩
  rw [hX] at HWo hl hzd
  rw [hX]
  obtain ⟨m, hm⟩ : ∃ m, X.length = m := ⟨_, rfl⟩
  have HLn := hid hm
  have HOw := hid (show ∀ (W : World) (p : Option Addr) (d : Nat), FAt W p X → _ from fun W p d h => own_any X p m d HLn.out W h hzd (by omega))
  clear hF hsz hn hc0 hX hm hl hzd has
  go_enter Tryz.func38, Tryz.ntmps38
  go_wp2_with (first | (go_at_call 77; (with_reducible refine (HNa.out _).mono ?_); rintro e w1 ⟨rfl, hw1⟩; subst w1; clear HNa) | (go_at_call 76; (with_reducible refine HWo.out.mono ?_); rintro e w8 ⟨v8, rfl, ho, hb⟩; obtain ⟨q8, d8, rfl⟩ : ∃ q d, v8 = .slice q m d := (by have h9 := own_slice ho; rw [HLn.out] at h9; exact h9); have HB8 := hid (below_out HB0.out hb); have HFr := hid (OwnF.fat ho); clear hb ho HWo) | (go_at_call 75; (with_reducible refine (HOw.out _ _ _ HFr.out).mono ?_); rintro e w9 ⟨rfl, hbk, hb⟩; have HB9 := hid (below_out HB8.out hb); have HK9 := hid hbk; clear hb hbk HOw))
  go_ret
  exact ⟨_, _, rfl, HLn.out, HB8.out.size, HK9.out, HB9.out⟩
set_option maxRecDepth 20000 in
set_option maxHeartbeats 16000000 in
theorem pset_any (fs : List (B × B)) (p : Option Addr) (n c : Nat) (hn : fs.length = n) (hc : n ≤ c) (hc0p : p = none → c = 0) (hpl : ∀ ad, p = some ad → ad.spot = none) (a b : B) (w : World) (hF : FAt w p fs) (hsz : szW fs) (ha : a.length ≤ 140737488351232) (hb : b.length ≤ 140737488351232) (hnn : n + 1 ≤ 4398046511104) :
    Calls Tryz.prog 79 #[.slice p n c, .string (str a), .string (str b)] w fun e w' => ∃ g' m, e = .returned (.slice (some ⟨g', 0, none⟩) m m) ∧ (setB fs (str a) (a, b)).length = m ∧ w.heap.size ≤ g' ∧ BlkF w' g' (setB fs (str a) (a, b)) ∧ Below w.heap.size w w' := by
  have HNa := hid (show ∀ W : World, _ from fun W => named_any (str a) W)
  have HB0 := hid (below_new w (.cells #[.string (str a)] 9 (0, 0)))
  have hc0 : (w.alloc (.cells #[.string (str a)] 9 (0, 0))).cell? ⟨w.heap.size, 0, none⟩ = some (.string (str a)) := by simp only [World.cell?, heap_alloc_new w (.cells #[.string (str a)] 9 (0, 0))]; rfl
  have HC0 := hid hc0
  have has : (str a).size ≤ 140737488351232 := by rw [str_size]; exact ha
  have HIx := hid (indexf_any fs p n c hn w.heap.size (str a) (w.alloc (.cells #[.string (str a)] 9 (0, 0))) (hF.next HB0.out) hsz has (by omega) hc0)
  by_cases hex : ∃ (i : Nat) (f : B × B), noneTo fs (str a) i ∧ fs[i]? = some f ∧ isF (str a) f = true
  · obtain ⟨i, f, hno, hf, his⟩ := hex
    obtain ⟨g, o, hp, _, _⟩ := hF i f hf
    subst hp
    have hlt : i < n := by rw [← hn]; exact (List.getElem?_eq_some_iff.1 hf).1
    have hSe : setB fs (str a) (a, b) = fs.take i ++ [(a, b)] ++ delB (fs.drop (i + 1)) (str a) := by unfold setB; rw [if_pos (get_yes hno hf his), setR_at hno hf his]
    rw [hSe]
    have HYs := hid (show ∀ I, idxI fs (str a) I → I = (i : Int) from fun I h => idx_yes h hno hf his)
    obtain ⟨i0, hi0, hz0, hz1, hz2⟩ := info_parts infoF
    have HAh := hid (show ∀ W : World, _ from fun W => ahead_any g o n c i (by omega) W)
    have HNw := hid (show ∀ W : World, Below w.heap.size w W → ∀ j u, (fldC (fs.take i))[j]? = some u → W.cell? ((⟨g, o, none⟩ : Addr).add j) = some u from fun W hb => ((hF.next hb).takeW i).newsW)
    have HLt := hid (show (fs.take i).length = i from by rw [List.length_take, hn]; omega)
    have hld : (fs.drop (i + 1)).length = n - (i + 1) := by rw [List.length_drop, hn]
    have HWo := hid (show ∀ W : World, Below w.heap.size w W → W.cell? ⟨w.heap.size, 0, none⟩ = some (.string (str a)) → _ from fun W hb h => without_any (fs.drop (i + 1)) (some ⟨g, o + (i + 1) * 2, none⟩) (n - (i + 1)) (c - (i + 1)) hld w.heap.size (str a) W ((hF.next hb).dropW (i + 1)) (szW_drop _ hsz) has (by omega) h)
    have hl := del_le (fs.drop (i + 1)) (str a)
    have hzd := szW_app (szW_app (szW_take i hsz) (szW_one (x := (a, b)) ⟨ha, hb⟩)) (szW_del (str a) (szW_drop (i + 1) hsz))
    rw [show (fs.drop (i + 1)).filter (fun f => !isF (str a) f) = delB (fs.drop (i + 1)) (str a) from rfl] at HWo
    obtain ⟨X, hX⟩ : ∃ X, delB (fs.drop (i + 1)) (str a) = X := ⟨_, rfl⟩
    rw [hX] at HWo hl hzd
    rw [hX]
    obtain ⟨m, hm⟩ : ∃ m, X.length = m := ⟨_, rfl⟩
    have HLx := hid hm
    have HLn := hid (show (fs.take i ++ [(a, b)] ++ X).length = i + 1 + m from by rw [List.length_append, List.length_append, HLt.out, hm]; rfl)
    have HLt1 := hid (show (fs.take i ++ [(a, b)]).length = i + 1 from by rw [List.length_append, HLt.out]; rfl)
    rw [hld, hm] at hl
    have hlm : m ≤ n - (i + 1) := hl
    have HOw := hid (show ∀ (W : World) (p : Option Addr) (d : Nat), FAt W p (fs.take i ++ [(a, b)] ++ X) → _ from fun W p d h => own_any (fs.take i ++ [(a, b)] ++ X) p (i + 1 + m) d HLn.out W h hzd (by omega))
    obtain ⟨N, hN⟩ : ∃ N, str a = N := ⟨_, rfl⟩
    obtain ⟨V, hV⟩ : ∃ V, str b = V := ⟨_, rfl⟩
    have HNn := hid hN
    have has9 := has
    have HPc := hid (show fldC [(a, b)] = [.string N, .string V] from by rw [← hN, ← hV]; rfl)
    rw [hN] at HNa HB0 HC0 HIx HWo HYs
    rw [hN, hV]
    have hic1 : (i : Int) + 1 ≤ (n : Int) := by omega
    have hin1 : i + 1 ≤ n := by omega
    have hic2 : i + 1 ≤ c := by omega
    have hwi : IntKind.i64.wrap ((i : Int) + 1) = ((i + 1 : Nat) : Int) := by rw [IntKind.wrap_i64]; omega
    clear hF hsz hn hN hV ha hb hno hf his hSe hX hm hl hzd hld hc0 has
    have HWo0 := hid (show ∀ (W : World) (p9 : Option Addr) (c9 : Nat), W.cell? ⟨w.heap.size, 0, none⟩ = some (.string N) → _ from fun W p9 c9 h => without_any [] p9 0 c9 rfl w.heap.size N W (fun j f hj => by simp at hj) (fun f hf => by cases hf) (by rw [← HNn.out]; exact has9) (by omega) h)
    by_cases hm0 : m = 0
    · subst hm0
      obtain rfl : X = [] := List.eq_nil_of_length_eq_zero HLx.out
      by_cases hcne : c = i + 1
      · subst hcne
        go_enter Tryz.func79, Tryz.ntmps79
        go_wp2_with (first | (go_at_call 77; (with_reducible refine (HNa.out _).mono ?_); rintro e w1 ⟨rfl, hw1⟩; subst w1; clear HNa) | (go_at_call 118; (with_reducible refine HIx.out.mono ?_); rintro e w2 ⟨I, rfl, hI, hb⟩; have HB2 := hid (below_out HB0.out hb); obtain rfl := HYs.out I hI; have HC2 := hid (cell_keep hb HC0.out); clear hb HIx) | (go_at_call 80; (with_reducible refine (HAh.out _).mono ?_); rintro e w3 ⟨rfl, hw3⟩; subst w3; clear HAh) | (at_builtin; refine wpList_append_grows (w2.alloc (.cells #[.string N, .string V] 88 (0, 0))) rfl (.tmp 23) (.tmp 27) 33 rfl 88 i0 _ 2 32 Tryz.underlying33 hi0 hz0 hz1 hz2 rfl (by decide) (some ⟨g, o, none⟩) i i (fldC (fs.take i)) (by go_simp) (fun h => by cases h) (by rw [fldC_len, HLt.out]) (fun b e => by cases e; exact HNw.out _ (below_out HB2.out (below_new _ _))) ⟨w2.heap.size, 0, none⟩ 1 1 [.string N, .string V] (by go_simp) rfl (cells_new w2 _ _) (by simp [Value.oneCell']) (by omega) (by unfold maxLen; omega) (by omega) ?_; intro v' w4 hown hgr; obtain ⟨q4, d4, rfl⟩ := own_slice hown; have HB4 := hid (below_out (below_out HB2.out (below_new w2 _)) (below_grown hgr)); have HC4 := hid (cell_keep (below_grown hgr) (cell_keep (below_new w2 _) HC2.out)); have HO4 := hid (show OwnF w4 w.heap.size (.slice q4 (i + 1) d4) (fs.take i ++ [(a, b)]) from OwnF.lowW (OwnF.appW (A := fs.take i) (C := [(a, b)]) HLt.out rfl (by rw [HPc.out]; exact hown)) (below_out HB2.out (below_new w2 _)).size); clear hown hgr HNw) | (go_at_call 76; (with_reducible refine (HWo0.out _ _ _ HC4.out).mono ?_); rintro e w5 ⟨v5, rfl, ho, hb⟩; have HB5 := hid (below_out HB4.out hb); have HO5 := hid (HO4.out.keep hb); obtain ⟨q5, d5, rfl, hq5⟩ := ownF_empty ho; have HQ5 := hid hq5; clear hq5; clear hb ho HWo) | (at_builtin; clear HPc; refine wpList_append_emptyW _ rfl (.tmp 29) (.tmp 35) 33 rfl w.heap.size 88 i0 _ 2 32 Tryz.underlying33 hi0 hz0 hz1 hz2 rfl (by decide) (.slice q4 (i + 1) d4) (i + 1) (fldC (fs.take i ++ [(a, b)])) (by go_simp) (by have h9 := HO5.out; unfold OwnF at h9; rw [HLt1.out] at h9; exact h9) q5 d5 (by go_simp) HQ5.out (by unfold maxLen; omega) (by omega) HB5.out.size ?_; intro v' w8 hown hgr; obtain ⟨q8, d8, rfl⟩ := own_slice hown; have HB8 := hid (HB5.out.trans (OwnF.below HO5.out HB5.out.size hgr)); have HFr := hid (show FAt w8 q8 (fs.take i ++ [(a, b)] ++ []) from by rw [List.append_nil]; exact OwnF.fat (show OwnF w8 w.heap.size (.slice q8 (i + 1) d8) (fs.take i ++ [(a, b)]) from by unfold OwnF; rw [HLt1.out]; exact hown)); clear hown hgr) | (go_at_call 75; (with_reducible refine (HOw.out _ _ _ HFr.out).mono ?_); rintro e w9 ⟨rfl, hbk, hb⟩; have HB9 := hid (below_out HB8.out hb); have HK9 := hid hbk; clear hb hbk HOw))
        go_ret
        exact ⟨_, _, rfl, HLn.out, HB8.out.size, HK9.out, HB9.out⟩
      · skip
        go_enter Tryz.func79, Tryz.ntmps79
        go_wp2_with (first | (go_at_call 77; (with_reducible refine (HNa.out _).mono ?_); rintro e w1 ⟨rfl, hw1⟩; subst w1; clear HNa) | (go_at_call 118; (with_reducible refine HIx.out.mono ?_); rintro e w2 ⟨I, rfl, hI, hb⟩; have HB2 := hid (below_out HB0.out hb); obtain rfl := HYs.out I hI; have HC2 := hid (cell_keep hb HC0.out); clear hb HIx) | (go_at_call 80; (with_reducible refine (HAh.out _).mono ?_); rintro e w3 ⟨rfl, hw3⟩; subst w3; clear HAh) | (at_builtin; refine wpList_append_grows (w2.alloc (.cells #[.string N, .string V] 88 (0, 0))) rfl (.tmp 23) (.tmp 27) 33 rfl 88 i0 _ 2 32 Tryz.underlying33 hi0 hz0 hz1 hz2 rfl (by decide) (some ⟨g, o, none⟩) i i (fldC (fs.take i)) (by go_simp) (fun h => by cases h) (by rw [fldC_len, HLt.out]) (fun b e => by cases e; exact HNw.out _ (below_out HB2.out (below_new _ _))) ⟨w2.heap.size, 0, none⟩ 1 1 [.string N, .string V] (by go_simp) rfl (cells_new w2 _ _) (by simp [Value.oneCell']) (by omega) (by unfold maxLen; omega) (by omega) ?_; intro v' w4 hown hgr; obtain ⟨q4, d4, rfl⟩ := own_slice hown; have HB4 := hid (below_out (below_out HB2.out (below_new w2 _)) (below_grown hgr)); have HC4 := hid (cell_keep (below_grown hgr) (cell_keep (below_new w2 _) HC2.out)); have HO4 := hid (show OwnF w4 w.heap.size (.slice q4 (i + 1) d4) (fs.take i ++ [(a, b)]) from OwnF.lowW (OwnF.appW (A := fs.take i) (C := [(a, b)]) HLt.out rfl (by rw [HPc.out]; exact hown)) (below_out HB2.out (below_new w2 _)).size); clear hown hgr HNw) | (go_at_call 76; (with_reducible refine (HWo.out _ HB4.out HC4.out).mono ?_); rintro e w5 ⟨v5, rfl, ho, hb⟩; have HB5 := hid (below_out HB4.out hb); have HO5 := hid (HO4.out.keep hb); obtain ⟨q5, d5, rfl, hq5⟩ := ownF_empty ho; have HQ5 := hid hq5; clear hq5; clear hb ho HWo) | (at_builtin; clear HPc; refine wpList_append_emptyW _ rfl (.tmp 29) (.tmp 35) 33 rfl w.heap.size 88 i0 _ 2 32 Tryz.underlying33 hi0 hz0 hz1 hz2 rfl (by decide) (.slice q4 (i + 1) d4) (i + 1) (fldC (fs.take i ++ [(a, b)])) (by go_simp) (by have h9 := HO5.out; unfold OwnF at h9; rw [HLt1.out] at h9; exact h9) q5 d5 (by go_simp) HQ5.out (by unfold maxLen; omega) (by omega) HB5.out.size ?_; intro v' w8 hown hgr; obtain ⟨q8, d8, rfl⟩ := own_slice hown; have HB8 := hid (HB5.out.trans (OwnF.below HO5.out HB5.out.size hgr)); have HFr := hid (show FAt w8 q8 (fs.take i ++ [(a, b)] ++ []) from by rw [List.append_nil]; exact OwnF.fat (show OwnF w8 w.heap.size (.slice q8 (i + 1) d8) (fs.take i ++ [(a, b)]) from by unfold OwnF; rw [HLt1.out]; exact hown)); clear hown hgr) | (go_at_call 75; (with_reducible refine (HOw.out _ _ _ HFr.out).mono ?_); rintro e w9 ⟨rfl, hbk, hb⟩; have HB9 := hid (below_out HB8.out hb); have HK9 := hid hbk; clear hb hbk HOw))
        go_ret
        exact ⟨_, _, rfl, HLn.out, HB8.out.size, HK9.out, HB9.out⟩
    · have HMp := hid (show 0 < m from by omega)
      have hcne : ¬ c = i + 1 := by omega
      go_enter Tryz.func79, Tryz.ntmps79
      go_wp2_with (first | (go_at_call 77; (with_reducible refine (HNa.out _).mono ?_); rintro e w1 ⟨rfl, hw1⟩; subst w1; clear HNa) | (go_at_call 118; (with_reducible refine HIx.out.mono ?_); rintro e w2 ⟨I, rfl, hI, hb⟩; have HB2 := hid (below_out HB0.out hb); obtain rfl := HYs.out I hI; have HC2 := hid (cell_keep hb HC0.out); clear hb HIx) | (go_at_call 80; (with_reducible refine (HAh.out _).mono ?_); rintro e w3 ⟨rfl, hw3⟩; subst w3; clear HAh) | (at_builtin; refine wpList_append_grows (w2.alloc (.cells #[.string N, .string V] 88 (0, 0))) rfl (.tmp 23) (.tmp 27) 33 rfl 88 i0 _ 2 32 Tryz.underlying33 hi0 hz0 hz1 hz2 rfl (by decide) (some ⟨g, o, none⟩) i i (fldC (fs.take i)) (by go_simp) (fun h => by cases h) (by rw [fldC_len, HLt.out]) (fun b e => by cases e; exact HNw.out _ (below_out HB2.out (below_new _ _))) ⟨w2.heap.size, 0, none⟩ 1 1 [.string N, .string V] (by go_simp) rfl (cells_new w2 _ _) (by simp [Value.oneCell']) (by omega) (by unfold maxLen; omega) (by omega) ?_; intro v' w4 hown hgr; obtain ⟨q4, d4, rfl⟩ := own_slice hown; have HB4 := hid (below_out (below_out HB2.out (below_new w2 _)) (below_grown hgr)); have HC4 := hid (cell_keep (below_grown hgr) (cell_keep (below_new w2 _) HC2.out)); have HO4 := hid (show OwnF w4 w.heap.size (.slice q4 (i + 1) d4) (fs.take i ++ [(a, b)]) from OwnF.lowW (OwnF.appW (A := fs.take i) (C := [(a, b)]) HLt.out rfl (by rw [HPc.out]; exact hown)) (below_out HB2.out (below_new w2 _)).size); clear hown hgr HNw) | (go_at_call 76; (with_reducible refine (HWo.out _ HB4.out HC4.out).mono ?_); rintro e w5 ⟨v5, rfl, ho, hb⟩; have HB5 := hid (below_out HB4.out hb); have HO5 := hid (HO4.out.keep hb); obtain ⟨g5, d5, rfl⟩ : ∃ g d, v5 = .slice (some ⟨g, 0, none⟩) m d := (by have h9 := ownF_some ho (by rw [HLx.out]; exact HMp.out); rw [HLx.out] at h9; exact h9); have HF5 := hid (OwnF.fat ho); clear hb ho HWo) | (at_builtin; clear HPc; refine wpList_append_own_at _ rfl (.tmp 29) (.tmp 35) 33 rfl w.heap.size 88 i0 _ 2 32 Tryz.underlying33 hi0 hz0 hz1 hz2 rfl (by decide) (.slice q4 (i + 1) d4) (i + 1) (fldC (fs.take i ++ [(a, b)])) (by go_simp) (by have h9 := HO5.out; unfold OwnF at h9; rw [HLt1.out] at h9; exact h9) ⟨g5, 0, none⟩ m d5 (fldC X) (by go_simp) (by rw [fldC_len, HLx.out]) HF5.out.newsW (fldC_oneW X) (by unfold maxLen; omega) (by omega) HB5.out.size ?_; intro v' w8 hown hgr _ _; obtain ⟨q8, d8, rfl⟩ := own_slice hown; have HB8 := hid (HB5.out.trans (OwnF.below HO5.out HB5.out.size hgr)); have HFr := hid (OwnF.fat (show OwnF w8 w.heap.size (.slice q8 (i + 1 + m) d8) (fs.take i ++ [(a, b)] ++ X) from OwnF.appW HLt1.out HLx.out hown)); clear hown hgr) | (go_at_call 75; (with_reducible refine (HOw.out _ _ _ HFr.out).mono ?_); rintro e w9 ⟨rfl, hbk, hb⟩; have HB9 := hid (below_out HB8.out hb); have HK9 := hid hbk; clear hb hbk HOw))
      go_ret
      exact ⟨_, _, rfl, HLn.out, HB8.out.size, HK9.out, HB9.out⟩
  · have hAll := idx_all fs (str a) hex _ (Nat.le_refl _)
    have hSe : setB fs (str a) (a, b) = fs ++ [(a, b)] := by unfold setB; rw [if_neg (by rw [get_no hAll]; decide)]
    rw [hSe]
    have HNo := hid (show ∀ I, idxI fs (str a) I → I = -1 from fun I h => (idx_no h hex).1)
    have HAd := hid (show ∀ W : World, Below w.heap.size w W → _ from fun W hbb => padd_any fs p n c hn hc hc0p a b W (hF.next hbb) hsz ha hb hnn hpl)
    clear hex hAll hSe hF hsz hn hc0 has ha hb
    go_enter Tryz.func79, Tryz.ntmps79
    go_wp2_with (first | (go_at_call 77; (with_reducible refine (HNa.out _).mono ?_); rintro e w1 ⟨rfl, hw1⟩; subst w1; clear HNa) | (go_at_call 118; (with_reducible refine HIx.out.mono ?_); rintro e w2 ⟨I, rfl, hI, hb⟩; have HB2 := hid (below_out HB0.out hb); obtain rfl := HNo.out I hI; clear hb HIx) | (go_at_call 42; (with_reducible refine (HAd.out _ HB2.out).mono ?_); rintro e w9 ⟨g9, m9, rfl, hl9, hg9, hbk, hb⟩; have HB9 := hid (below_out HB2.out hb); have HK9 := hid hbk; have HG9 := hid (Nat.le_trans HB2.out.size hg9); have HL9 := hid hl9; clear hb hbk hg9 hl9 HAd))
    go_ret
    exact ⟨_, _, rfl, HL9.out, HG9.out, HK9.out, HB9.out⟩
end Go.Proofs.YtnlmjlfoeodleaaGreatDoor
