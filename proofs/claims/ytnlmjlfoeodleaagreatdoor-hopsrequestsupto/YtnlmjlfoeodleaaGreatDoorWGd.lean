/- Fields with one set, one more, one gone: the document. -/
import Derived.Test.YtnlmjlfoeodleaaGreatDoorWGc
namespace Go.Proofs.YtnlmjlfoeodleaaGreatDoor
open Go.RowKit

theorem OwnF.snocW {w : World} {b m : Nat} {v : Value} {A : List (B × B)} {f : B × B} {N V : ByteArray} (hm : m = A.length) (hN : str f.1 = N) (hV : str f.2 = V) (h : w.ownsRow b 88 2 v (m + 1) (fldC A ++ [.string N, .string V])) : OwnF w b v (A ++ [f]) := by
  unfold OwnF
  rw [fldC_app, List.length_append, ← hm, show fldC [f] = [.string N, .string V] from by rw [← hN, ← hV]; rfl]
  exact h
/-- A row of fields is handed back. -/
def ToldF (w : World) (X : List (B × B)) (m : Nat) (e : Ending) (w' : World) : Prop := ∃ q d, e = .returned (.slice q m d) ∧ FAt w' q X ∧ Below w.heap.size w w'
theorem toldF_mk {w w' : World} {X : List (B × B)} {m d : Nat} {q : Option Addr} {e : Ending} (h : e = .returned (.slice q m d)) (hf : FAt w' q X) (hb : Below w.heap.size w w') : ToldF w X m e w' := ⟨q, d, h, hf, hb⟩
theorem fat_nilW {w : World} {fs : List (B × B)} (h : FAt w none fs) : fs = [] := by
  cases fs with
  | nil => rfl
  | cons f l => obtain ⟨g, o, e, _⟩ := h 0 f rfl; cases e
set_option maxRecDepth 20000 in
set_option maxHeartbeats 8000000 in
theorem dadd_some (fs : List (B × B)) (ad : Addr) (n c : Nat) (hn : fs.length = n) (a b : B) (w : World) (hF : FAt w (some ad) fs) (hnn : n + 1 ≤ 4398046511104) :
    Calls Tryz.prog 53 #[.slice (some ad) n c, .string (str a), .string (str b)] w fun e w' => ToldF w (fs ++ [(a, b)]) (n + 1) e w' := by
  obtain ⟨i0, hi0, hz0, hz1, hz2⟩ := info_parts infoF
  obtain ⟨N, hN⟩ : ∃ N, str a = N := ⟨_, rfl⟩
  obtain ⟨V, hV⟩ : ∃ V, str b = V := ⟨_, rfl⟩
  rw [hN, hV]
  have HNN := hid hN
  have HVV := hid hV
  have HL := hid hn
  have HNw := hid hF.newsW
  clear hF hn hN hV
  go_enter Tryz.func53, Tryz.ntmps53
  go_wp2_with (first | (at_builtin; refine wpList_append_own_at w rfl (.tmp 8) (.tmp 9) 33 rfl w.heap.size 88 i0 _ 2 32 Tryz.underlying33 hi0 hz0 hz1 hz2 rfl (by decide) (.slice none 0 0) 0 [] (by go_simp) (OwnF.nil _ _) ad n c (fldC fs) (by go_simp) (by rw [fldC_len, HL.out]) HNw.out (fldC_oneW fs) (by unfold maxLen; omega) (by omega) (Nat.le_refl _) ?_; intro v' w1 hown hgr _ _; rw [Nat.zero_add, List.nil_append] at hown; obtain ⟨q, d, rfl⟩ := own_slice hown; have HO := hid (show OwnF w1 w.heap.size (.slice q n d) fs from by unfold OwnF; rw [HL.out]; exact hown); have HB := hid (below_grown hgr); clear hown hgr HNw) | (at_builtin; refine wpList_append_own_at _ rfl (.tmp 11) (.tmp 15) 33 rfl w.heap.size 88 i0 _ 2 32 Tryz.underlying33 hi0 hz0 hz1 hz2 rfl (by decide) (.slice q n d) n (fldC fs) (by go_simp) (by have h9 := HO.out.alloc (.cells #[.string N, .string V] 88 (0, 0)); unfold OwnF at h9; rw [HL.out] at h9; exact h9) ⟨w1.heap.size, 0, none⟩ 1 1 [.string N, .string V] (by go_simp) rfl (cells_new w1 _ _) (by simp [Value.oneCell']) (by unfold maxLen; omega) (by omega) (Nat.le_trans HB.out.size (below_new _ _).size) ?_; intro v' w9 hown hgr _ _; obtain ⟨q9, d9, rfl⟩ := own_slice hown; have HB9 := hid (app_belowL HB.out HO.out hgr); have HF9 := hid (OwnF.fat (show OwnF w9 w.heap.size (.slice q9 (n + 1) d9) (fs ++ [(a, b)]) from OwnF.snocW (f := (a, b)) HL.out.symm HNN.out HVV.out hown)); clear hown hgr))
  go_ret
  exact toldF_mk rfl HF9.out HB9.out
set_option maxRecDepth 20000 in
set_option maxHeartbeats 8000000 in
theorem dadd_none (fs : List (B × B)) (n c : Nat) (hn : fs.length = n) (a b : B) (w : World) (hF : FAt w none fs) (hc0 : c = 0) (hnn : n + 1 ≤ 4398046511104) :
    Calls Tryz.prog 53 #[.slice none n c, .string (str a), .string (str b)] w fun e w' => ToldF w (fs ++ [(a, b)]) (n + 1) e w' := by
  obtain ⟨i0, hi0, hz0, hz1, hz2⟩ := info_parts infoF
  obtain ⟨N, hN⟩ : ∃ N, str a = N := ⟨_, rfl⟩
  obtain ⟨V, hV⟩ : ∃ V, str b = V := ⟨_, rfl⟩
  rw [hN, hV]
  have HNN := hid hN
  have HVV := hid hV
  have HL := hid hn
  obtain rfl := fat_nilW hF
  obtain rfl : n = 0 := hn.symm
  obtain rfl : c = 0 := hc0
  have HC := hid trivial
  have HO := hid (OwnF.nil w w.heap.size)
  have HB := hid (Below.refl w.heap.size w)
  clear hF hn hN hV
  go_enter Tryz.func53, Tryz.ntmps53
  go_wp2_with (first | (at_builtin; refine wpList_append_own_none rfl (.tmp 8) (.tmp 9) 33 rfl w.heap.size 88 i0 2 Tryz.underlying33 hi0 (.slice none 0 0) 0 [] (by go_simp) (OwnF.nil _ _) (by have := HC.out; go_simp) ?_; clear HC) | (at_builtin; refine wpList_append_own_at _ rfl (.tmp 11) (.tmp 15) 33 rfl w.heap.size 88 i0 _ 2 32 Tryz.underlying33 hi0 hz0 hz1 hz2 rfl (by decide) (.slice none 0 0) 0 (fldC []) (by go_simp) (by have h9 := HO.out.alloc (.cells #[.string N, .string V] 88 (0, 0)); unfold OwnF at h9; exact h9) ⟨w.heap.size, 0, none⟩ 1 1 [.string N, .string V] (by go_simp) rfl (cells_new w _ _) (by simp [Value.oneCell']) (by unfold maxLen; omega) (by omega) (Nat.le_trans HB.out.size (below_new _ _).size) ?_; intro v' w9 hown hgr _ _; obtain ⟨q9, d9, rfl⟩ := own_slice hown; have HB9 := hid (app_belowL HB.out HO.out hgr); have HF9 := hid (OwnF.fat (show OwnF w9 w.heap.size (.slice q9 (0 + 1) d9) ([] ++ [(a, b)]) from OwnF.snocW (f := (a, b)) HL.out.symm HNN.out HVV.out hown)); clear hown hgr))
  go_ret
  exact toldF_mk rfl HF9.out HB9.out
theorem dadd (fs : List (B × B)) (p : Option Addr) (n c : Nat) (hn : fs.length = n) (a b : B) (w : World) (hF : FAt w p fs) (hc0 : p = none → c = 0) (hnn : n + 1 ≤ 4398046511104) :
    Calls Tryz.prog 53 #[.slice p n c, .string (str a), .string (str b)] w fun e w' => ToldF w (fs ++ [(a, b)]) (n + 1) e w' := by
  cases p with
  | none => exact dadd_none fs n c hn a b w hF (hc0 rfl) hnn
  | some ad => exact dadd_some fs ad n c hn a b w hF hnn
theorem drop_atW {fs : List (B × B)} {i : Nat} {f : B × B} (h : fs[i]? = some f) : fs.drop i = f :: fs.drop (i + 1) := by
  obtain ⟨hlt, rfl⟩ := List.getElem?_eq_some_iff.1 h
  exact List.drop_eq_getElem_cons hlt
theorem setR_no {nm : ByteArray} {x f : B × B} {d : Bool} {l : List (B × B)} (h : isF nm f = false) : setR nm x d (f :: l) = f :: setR nm x d l := by
  rw [setR, if_neg (by rw [h]; decide)]
theorem setR_skip {nm : ByteArray} {x f : B × B} {l : List (B × B)} (h : isF nm f = true) : setR nm x true (f :: l) = setR nm x true l := by
  rw [setR, if_pos h, if_pos rfl]
theorem setR_put {nm : ByteArray} {x f : B × B} {l : List (B × B)} (h : isF nm f = true) : setR nm x false (f :: l) = x :: setR nm x true l := by
  rw [setR, if_pos h, if_neg (by decide)]
theorem setR_len (nm : ByteArray) (x : B × B) : ∀ (l : List (B × B)) (d : Bool), (setR nm x d l).length ≤ l.length
  | [], d => by simp [setR]
  | f :: l, d => by
    unfold setR
    have h1 := setR_len nm x l d
    have h2 := setR_len nm x l true
    split
    · split
      · simp only [List.length_cons]; omega
      · simp only [List.length_cons]; omega
    · simp only [List.length_cons]; omega
set_option maxRecDepth 20000 in
set_option maxHeartbeats 8000000 in
theorem dset (fs : List (B × B)) (p : Option Addr) (n c : Nat) (hn : fs.length = n) (a b : B) (w : World) (hF : FAt w p fs) (hsz : szW fs) (ha : a.length ≤ 140737488351232) (hc0 : p = none → c = 0) (hnn : n + 1 ≤ 4398046511104) :
    Calls Tryz.prog 91 #[.slice p n c, .string (str a), .string (str b)] w fun e w' => ToldF w (setB fs (str a) (a, b)) (setB fs (str a) (a, b)).length e w' := by
  have HGe := hid (dget fs p n c hn (str a) w hF hsz (by rw [str_size]; exact ha) (by omega))
  have HAd := hid (show ∀ W : World, Below w.heap.size w W → _ from fun W hb => dadd fs p n c hn a b W (hF.next hb) hc0 hnn)
  have hSe : setB fs (str a) (a, b) = if (getB fs (str a)).2 = true then setR (str a) (a, b) false fs else fs ++ [(a, b)] := rfl
  obtain ⟨⟨GV, GB⟩, hG⟩ : ∃ x, getB fs (str a) = x := ⟨_, rfl⟩
  rw [hG] at HGe hSe
  dsimp only at HGe hSe
  rw [hSe]
  have HLn := hid (show (fs ++ [(a, b)]).length = n + 1 from by rw [List.length_append, hn]; rfl)
  obtain ⟨i0, hi0, hz0, hz1, hz2⟩ := info_parts infoF
  have HF := hid hF
  have HN := hid hn
  have HZ := hid hsz
  clear hF hn hsz hG hSe hc0
  cases GB with
  | false =>
    rw [if_neg (by decide)]
    go_enter Tryz.func91, Tryz.ntmps91
    go_wp2_with (first | (go_at_call 90; (with_reducible refine HGe.out.mono ?_); rintro e w1 ⟨rfl, hb⟩; have HB1 := hid hb; clear hb HGe) | (go_at_call 53; (with_reducible refine (HAd.out _ HB1.out).mono ?_); rintro e w9 ⟨q9, d9, rfl, hf9, hb⟩; have HB9 := hid (below_out HB1.out hb); have HF9 := hid hf9; clear hb hf9 HAd))
    go_ret
    exact toldF_mk (by rw [HLn.out]; rfl) HF9.out HB9.out
  | true =>
    rw [if_pos rfl]
    obtain ⟨T, hT⟩ : ∃ T, setR (str a) (a, b) false fs = T := ⟨_, rfl⟩
    rw [hT]
    have HT := hid hT
    clear hT
    obtain ⟨NA, hNA⟩ : ∃ N, str a = N := ⟨_, rfl⟩
    obtain ⟨VA, hVA⟩ : ∃ V, str b = V := ⟨_, rfl⟩
    have HNA := hid hNA
    have HVA := hid hVA
    rw [hNA] at HGe
    rw [hNA, hVA]
    clear hNA hVA
    go_enter Tryz.func91, Tryz.ntmps91
    go_wp2_with (go_at_call 90; (with_reducible refine HGe.out.mono ?_); rintro e w1 ⟨rfl, hb⟩; have HB1 := hid hb; clear hb HGe)
    go_loopg [9, 10, 11] (n + 1) (fun gk s9 s10 s11 wr => ∃ (i : Nat) (q : Option Addr) (m d : Nat) (dn : Bool) (A : List (B × B)), s9 = .slice q m d ∧ s10 = .bool dn ∧ s11 = .int .i64 (i : Int) ∧ i ≤ n ∧ gk = n - i + 1 ∧ m = A.length ∧ m ≤ i ∧ OwnF wr w.heap.size (.slice q m d) A ∧ A ++ setR (str a) (a, b) dn (fs.drop i) = T ∧ Below w.heap.size w wr)
    case atStart => exact ⟨0, none, 0, 0, false, [], rfl, rfl, rfl, by omega, rfl, rfl, Nat.le_refl _, OwnF.nil _ _, HT.out, HB1.out⟩
    case round =>
      obtain ⟨i, q, m, d, dn, A, rfl, rfl, rfl, hin, rfl, hm, hmi, ho, hA, hb⟩ := hrel
      rename World => wr
      have HB := hid hb
      have HO := hid ho
      have HM := hid hm
      have HA := hid hA
      clear hb ho hm hA
      by_cases hlt : i < n
      · skip
        obtain ⟨f, hf⟩ : ∃ f, fs[i]? = some f := ⟨fs[i]'(by rw [HN.out]; exact hlt), List.getElem?_eq_getElem (by rw [HN.out]; exact hlt)⟩
        obtain ⟨g, o, hp, c0, c1⟩ := (HF.out.next HB.out) i f hf
        subst hp
        have hltI : (i : Int) < (n : Int) := by omega
        obtain ⟨z1, z2⟩ := HZ.out f (List.mem_of_getElem? hf)
        have HSm := hid (show ∀ W : World, _ from fun W => rsame_any (str f.1) (str a) W (by rw [str_size]; exact z1) (by rw [str_size]; exact ha))
        obtain ⟨S, hS⟩ : ∃ S, sameB (str f.1) (str a) = S := ⟨_, rfl⟩
        rw [hS] at HSm
        have HGo := hid (show A ++ setR (str a) (a, b) dn (f :: fs.drop (i + 1)) = T from by rw [← drop_atW hf]; exact HA.out)
        have HIs := hid (show isF (str a) f = S from hS)
        obtain ⟨N, hN⟩ : ∃ N, str f.1 = N := ⟨_, rfl⟩
        obtain ⟨V, hV⟩ : ∃ V, str f.2 = V := ⟨_, rfl⟩
        have HNN := hid hN
        have HVV := hid hV
        rw [hN, HNA.out] at HSm
        rw [hN] at c0
        rw [hV] at c1
        clear hf hS hN hV z1 z2
        cases S with
        | false =>
          have HY := hid (show (A ++ [f]) ++ setR (str a) (a, b) dn (fs.drop (i + 1)) = T from by rw [← HGo.out, setR_no HIs.out, List.append_assoc]; rfl)
          go_wp2_with (first | (go_at_call 49; (with_reducible refine (HSm.out _).mono ?_); rintro e w2 ⟨rfl, hb⟩; have HB2 := hid (below_out HB.out hb); have HO2 := hid (HO.out.keep hb); have x0 := cell_keep hb c0; have x1 := cell_keep hb c1; clear hb HSm) | (at_builtin; refine wpList_append_own_at _ rfl (.tmp 39) (.tmp 44) 33 rfl w.heap.size 88 i0 _ 2 32 Tryz.underlying33 hi0 hz0 hz1 hz2 rfl (by decide) (.slice q m d) m (fldC (A)) (by go_simp) (by have h9 := HO2.out.alloc (.cells #[.string N, .string V] 88 (0, 0)); unfold OwnF at h9; rw [← HM.out] at h9; exact h9) ⟨w2.heap.size, 0, none⟩ 1 1 [.string N, .string V] (by go_simp) rfl (cells_new w2 _ _) (by simp [Value.oneCell']) (by unfold maxLen; omega) (by omega) (Nat.le_trans HB2.out.size (below_new _ _).size) ?_; intro v' w4 hown' hgrow _ _; have HB4 := hid (app_belowL HB2.out HO2.out hgrow); obtain ⟨q', d', rfl⟩ := own_slice hown'; have HO4 := hid hown'; clear hown' hgrow))
          (try simp only [Exit.inBlock, Exit.then])
          go_roundg (n - (i + 1) + 1)
          case measure => omega
          case rel => exact ⟨i + 1, q', m + 1, d', dn, A ++ [f], rfl, rfl, by go_num, by omega, rfl, (by rw [List.length_append, ← HM.out]; rfl), by omega, OwnF.snocW HM.out HNN.out HVV.out HO4.out, HY.out, HB4.out⟩
        | true =>
          cases dn with
          | true =>
            have HY := hid (show A ++ setR (str a) (a, b) true (fs.drop (i + 1)) = T from by rw [← HGo.out, setR_skip HIs.out])
            go_wp2_with ((go_at_call 49; (with_reducible refine (HSm.out _).mono ?_); rintro e w2 ⟨rfl, hb⟩; have HB2 := hid (below_out HB.out hb); have HO2 := hid (HO.out.keep hb); have x0 := cell_keep hb c0; have x1 := cell_keep hb c1; clear hb HSm))
            (try simp only [Exit.inBlock, Exit.then])
            go_roundg (n - (i + 1) + 1)
            case measure => omega
            case rel => exact ⟨i + 1, q, m, d, true, A, rfl, rfl, by go_num, by omega, rfl, HM.out, by omega, HO2.out, HY.out, HB2.out⟩
          | false =>
            have HY := hid (show (A ++ [(a, b)]) ++ setR (str a) (a, b) true (fs.drop (i + 1)) = T from by rw [← HGo.out, setR_put HIs.out, List.append_assoc]; rfl)
            go_wp2_with (first | (go_at_call 49; (with_reducible refine (HSm.out _).mono ?_); rintro e w2 ⟨rfl, hb⟩; have HB2 := hid (below_out HB.out hb); have HO2 := hid (HO.out.keep hb); have x0 := cell_keep hb c0; have x1 := cell_keep hb c1; clear hb HSm) | (at_builtin; refine wpList_append_own_at _ rfl (.tmp 49) (.tmp 53) 33 rfl w.heap.size 88 i0 _ 2 32 Tryz.underlying33 hi0 hz0 hz1 hz2 rfl (by decide) (.slice q m d) m (fldC (A)) (by go_simp) (by have h9 := HO2.out.alloc (.cells #[.string NA, .string VA] 88 (0, 0)); unfold OwnF at h9; rw [← HM.out] at h9; exact h9) ⟨w2.heap.size, 0, none⟩ 1 1 [.string NA, .string VA] (by go_simp) rfl (cells_new w2 _ _) (by simp [Value.oneCell']) (by unfold maxLen; omega) (by omega) (Nat.le_trans HB2.out.size (below_new _ _).size) ?_; intro v' w4 hown' hgrow _ _; have HB4 := hid (app_belowL HB2.out HO2.out hgrow); obtain ⟨q', d', rfl⟩ := own_slice hown'; have HO4 := hid hown'; clear hown' hgrow))
            (try simp only [Exit.inBlock, Exit.then])
            go_roundg (n - (i + 1) + 1)
            case measure => omega
            case rel => exact ⟨i + 1, q', m + 1, d', true, A ++ [(a, b)], rfl, rfl, by go_num, by omega, rfl, (by rw [List.length_append, ← HM.out]; rfl), by omega, OwnF.snocW (f := (a, b)) HM.out HNA.out HVA.out HO4.out, HY.out, HB4.out⟩
      · obtain rfl : i = n := by omega
        have hltI : ¬ (i : Int) < (i : Int) := by omega
        have HX := hid (show A = T from by rw [← HA.out, List.drop_eq_nil_of_le (by rw [HN.out]; exact Nat.le_refl _)]; simp [setR])
        clear hlt
        go_wp2
        go_ret
        rw [← HX.out]
        exact toldF_mk (by rw [← HM.out]; rfl) (OwnF.fat HO.out) HB.out
end Go.Proofs.YtnlmjlfoeodleaaGreatDoor
