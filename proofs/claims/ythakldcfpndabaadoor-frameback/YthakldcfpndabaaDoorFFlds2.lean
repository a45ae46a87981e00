/- Fields that frame a body so, on both sides: which framings may be; the calls. -/
import Derived.Test.YthakldcfpndabaaDoorFFlds
namespace Go.Proofs.YthakldcfpndabaaDoor
open Go.RowKit

abbrev frmO (K N : Int) : Obj := .cells #[.int .i64 K, .int .i64 N] 34 (0, 0)
theorem blk_next {W W' : World} {g : Nat} {o : Obj} (h : W.heap[g]? = some o) (hb : Below W.heap.size W W') : W'.heap[g]? = some o := (hb.block _ (lt_of_heap h)).trans h
theorem OwnF.lowerF {w : World} {b b' : Nat} {v : Value} {acc : List (B × B)} (h : OwnF w b v acc) (hb : b' ≤ b) : OwnF w b' v acc := own_mono h hb
set_option maxRecDepth 20000 in
set_option maxHeartbeats 8000000 in
theorem mayf_any (K N : Int) (w : World) : Calls Tryd.prog 48 #[.agg #[.int .i64 K, .int .i64 N]] w fun e w' => e = .returned (.bool (okFr K N)) ∧ Below w.heap.size w w' := by
  obtain ⟨R, hR⟩ : ∃ R, okFr K N = R := ⟨_, rfl⟩
  have HR := hid hR
  rw [hR]
  clear hR
  by_cases k1 : K = 1
  · subst k1
    by_cases n0 : 0 ≤ N
    · have HT := hid (show R = decide (N ≤ 1099511627776) from by rw [← HR.out]; unfold okFr; exact decide_eq_decide.2 (by omega))
      go_enter Tryd.func48, Tryd.ntmps48
      go_wp2
      (try simp only [Exit.inBlock, Exit.then])
      go_ret
      exact ⟨(by rw [HT.out]; rfl), below_new _ _⟩
    · have HT := hid (show R = false from by rw [← HR.out]; unfold okFr; exact decide_eq_false (by omega))
      go_enter Tryd.func48, Tryd.ntmps48
      go_wp2
      (try simp only [Exit.inBlock, Exit.then])
      go_ret
      exact ⟨(by rw [HT.out]; rfl), below_new _ _⟩
  by_cases k0 : K = 0
  · subst k0
    have HT := hid (show R = (N == 0) from by rw [← HR.out]; unfold okFr; rw [Bool.eq_iff_iff]; simp; omega)
    go_enter Tryd.func48, Tryd.ntmps48
    go_wp2
    (try simp only [Exit.inBlock, Exit.then])
    go_ret
    exact ⟨(by rw [HT.out]; rfl), below_new _ _⟩
  by_cases k2 : K = 2
  · subst k2
    have HT := hid (show R = (N == 0) from by rw [← HR.out]; unfold okFr; rw [Bool.eq_iff_iff]; simp; omega)
    go_enter Tryd.func48, Tryd.ntmps48
    go_wp2
    (try simp only [Exit.inBlock, Exit.then])
    go_ret
    exact ⟨(by rw [HT.out]; rfl), below_new _ _⟩
  by_cases k3 : K = 3
  · subst k3
    have HT := hid (show R = (N == 0) from by rw [← HR.out]; unfold okFr; rw [Bool.eq_iff_iff]; simp; omega)
    go_enter Tryd.func48, Tryd.ntmps48
    go_wp2
    (try simp only [Exit.inBlock, Exit.then])
    go_ret
    exact ⟨(by rw [HT.out]; rfl), below_new _ _⟩
  have j1 : (K == 1) = false := by simpa using k1
  have j0 : (K == 0) = false := by simpa using k0
  have j2 : (K == 2) = false := by simpa using k2
  have j3 : (K == 3) = false := by simpa using k3
  have HT := hid (show R = false from by rw [← HR.out]; unfold okFr; exact decide_eq_false (by omega))
  go_enter Tryd.func48, Tryd.ntmps48
  go_wp2
  (try simp only [Exit.inBlock, Exit.then])
  go_ret
  exact ⟨(by rw [HT.out]; rfl), below_new _ _⟩
set_option maxRecDepth 20000 in
set_option maxHeartbeats 8000000 in
theorem valid_any (K N : Int) (w : World) : Calls Tryd.prog 51 #[.agg #[.int .i64 K, .int .i64 N]] w fun e w' => e = .returned (.bool (okFr K N)) ∧ Below w.heap.size w w' := by
  obtain ⟨R, hR⟩ : ∃ R, okFr K N = R := ⟨_, rfl⟩
  have HR := hid hR
  rw [hR]
  clear hR
  by_cases k0 : 0 ≤ K
  · by_cases k3 : K ≤ 3
    · by_cases n0 : 0 ≤ N
      · by_cases nM : N ≤ 1099511627776
        · have HNM := hid nM
          have hd : decide (N ≤ 1099511627776) = true := decide_eq_true nM
          by_cases k1 : K = 1
          · subst k1
            have HT := hid (show R = true from by rw [← HR.out]; unfold okFr; exact decide_eq_true (by omega))
            clear nM
            go_enter Tryd.func51, Tryd.ntmps51
            go_wp2
            go_ret
            exact ⟨(by rw [HT.out]; rfl), below_new _ _⟩
          · have j1 : (K == 1) = false := by simpa using k1
            have HT := hid (show R = (N == 0) from by rw [← HR.out]; unfold okFr; rw [Bool.eq_iff_iff]; simp; omega)
            clear nM
            go_enter Tryd.func51, Tryd.ntmps51
            go_wp2
            go_ret
            exact ⟨(by rw [HT.out]; rfl), below_new _ _⟩
        · have hd : decide (N ≤ 1099511627776) = false := decide_eq_false nM
          have HT := hid (show R = false from by rw [← HR.out]; unfold okFr; exact decide_eq_false (by omega))
          clear nM
          go_enter Tryd.func51, Tryd.ntmps51
          go_wp2
          go_ret
          exact ⟨(by rw [HT.out]; rfl), below_new _ _⟩
      · have HT := hid (show R = false from by rw [← HR.out]; unfold okFr; exact decide_eq_false (by omega))
        go_enter Tryd.func51, Tryd.ntmps51
        go_wp2
        go_ret
        exact ⟨(by rw [HT.out]; rfl), below_new _ _⟩
    · have HT := hid (show R = false from by rw [← HR.out]; unfold okFr; exact decide_eq_false (by omega))
      go_enter Tryd.func51, Tryd.ntmps51
      go_wp2
      go_ret
      exact ⟨(by rw [HT.out]; rfl), below_new _ _⟩
  · have HT := hid (show R = false from by rw [← HR.out]; unfold okFr; exact decide_eq_false (by omega))
    go_enter Tryd.func51, Tryd.ntmps51
    go_wp2
    go_ret
    exact ⟨(by rw [HT.out]; rfl), below_new _ _⟩
set_option maxRecDepth 20000 in
set_option maxHeartbeats 8000000 in
theorem pfields (fs : List (B × B)) (p : Option Addr) (n c : Nat) (hn : fs.length = n) (K N : Int) (w : World) (hF : FAt w p fs) (hsz : szB fs) (hnn : n ≤ 1048576) (hE : EnvP w) :
    Calls Tryd.prog 22 #[.slice p n c, .agg #[.int .i64 K, .int .i64 N]] w fun e w' => ∃ v, e = .returned (.tuple #[v, errOf (fldF fs K N).2]) ∧ OwnF w' w.heap.size v (fldF fs K N).1 ∧ Below w.heap.size w w' := by
  obtain ⟨i0, hi0, hz0, hz1, hz2⟩ := info_parts infoF
  have HMa := hid (show ∀ W : World, _ from fun W => mayf_any K N W)
  have HU := hid (show ∀ W : World, Below w.heap.size w W → _ from fun W hb => unframed_any fs p n c hn W (hF.next hb) hsz hnn)
  have HEv := hid hE
  have HX0 := hid (heap_alloc_new w (frmO K N))
  have HB0 := hid (below_new w (frmO K N))
  have hul : (unfF fs).length ≤ 1048576 := Nat.le_trans (unf_le fs) (by omega)
  obtain ⟨m, hm⟩ : ∃ m, (unfF fs).length = m := ⟨_, rfl⟩
  rw [hm] at hul
  have HMl := hid hm
  obtain ⟨R, hR⟩ : ∃ R, fldF fs K N = R := ⟨_, rfl⟩
  rw [hR]
  have HR := hid hR
  clear hF hn hsz hE hm hR
  cases hok : okFr K N with
  | false =>
    have HX := hid (show R = ([], 1) from by rw [← HR.out]; unfold fldF; rw [if_neg (by rw [hok]; decide)])
    rw [HX.out]
    rw [hok] at HMa
    clear hok
    go_enter Tryd.func22, Tryd.ntmps22
    go_wp2_with (go_at_call 48; (with_reducible refine (HMa.out _).mono ?_); rintro e w1 ⟨rfl, hb⟩; have HB1 := hid (below_out HB0.out hb); clear hb HMa)
    go_ret2
    exact ⟨_, rfl, OwnF.nil _ _, HB1.out⟩
  | true =>
    have HOk := hid (of_decide_eq_true hok)
    have HX := hid (show R = (unfF fs ++ addF K N, 0) from by rw [← HR.out]; unfold fldF; rw [if_pos hok])
    rw [HX.out, show errOf (unfF fs ++ addF K N, 0).2 = .nilIface from rfl]
    rw [hok] at HMa
    clear hok
    by_cases k1 : K = 1
    · subst k1
      have hN0 : (0 : Int) ≤ N := HOk.out.2.2.1
      have hNM : N ≤ 1099511627776 := HOk.out.2.2.2.1
      obtain ⟨t, ht⟩ : ∃ t : Nat, N = (t : Int) := ⟨N.toNat, by omega⟩
      have htk : t ≤ 9223372036854775807 := by omega
      have HTk := hid htk
      subst ht
      have HTx := hid (show ∀ W : World, Below w.heap.size w W → _ from fun W hb => text_any t (Nat.lt_succ_of_le HTk.out) W (HEv.out.next hb))
      have HAd := hid (show addF 1 (t : Int) = [(clB, told 10 t)] from rfl)
      obtain ⟨V, hV⟩ : ∃ V, str (told 10 t) = V := ⟨_, rfl⟩
      rw [hV] at HTx
      have HVV := hid hV
      clear htk hN0 hNM hV
      go_enter Tryd.func22, Tryd.ntmps22
      go_wp2_with (first | (go_at_call 48; (with_reducible refine (HMa.out _).mono ?_); rintro e w1 ⟨rfl, hb⟩; have HB1 := hid (below_out HB0.out hb); have HX1 := hid (blk_next HX0.out hb); clear hb HMa) | (go_at_call 49; (with_reducible refine (HU.out _ HB1.out).mono ?_); rintro e w2 ⟨v, rfl, ho, hb⟩; obtain ⟨q, d, rfl⟩ : ∃ q d, v = .slice q m d := (by have h9 := own_slice ho; rw [HMl.out] at h9; exact h9); have HB2 := hid (below_out HB1.out hb); have HO2 := hid (ho.lowerF HB1.out.size); obtain ⟨y0, y1, _, _⟩ := cells2 (blk_next HX1.out hb); clear hb ho HU) | (go_at_call 50; (with_reducible refine (HTx.out _ HB2.out).mono ?_); rintro e w3 ⟨rfl, hb⟩; have HB3 := hid (below_out HB2.out hb); have HO3 := hid (HO2.out.keep hb); clear hb HTx) | (at_builtin; refine wpList_append_own_at _ rfl (.tmp 17) (.tmp 22) 22 rfl w.heap.size 25 i0 _ 2 32 Tryd.underlying22 hi0 hz0 hz1 hz2 rfl (by decide) (.slice q m d) m (fldC (unfF fs)) (by go_simp) (by have h9 := HO3.out.alloc (.cells #[.string ⟨#[67, 111, 110, 116, 101, 110, 116, 45, 76, 101, 110, 103, 116, 104]⟩, .string V] 25 (0, 0)); unfold OwnF at h9; rw [HMl.out] at h9; exact h9) ⟨w3.heap.size, 0, none⟩ 1 1 [.string ⟨#[67, 111, 110, 116, 101, 110, 116, 45, 76, 101, 110, 103, 116, 104]⟩, .string V] (by go_simp) rfl (cells_new w3 _ _) (by simp [Value.oneCell']) (by unfold maxLen; omega) (by omega) (Nat.le_trans HB3.out.size (below_new _ _).size) ?_; intro v' w9 hown' hgrow _ _; have HB9 := hid (app_belowL HB3.out HO3.out hgrow); obtain ⟨q', d', rfl⟩ := own_slice hown'; have HO9 := hid hown'; clear hown' hgrow))
      (try simp only [Exit.inBlock, Exit.then])
      go_ret2
      exact ⟨_, rfl, by rw [HAd.out]; exact OwnF.appd HMl.out.symm clB_str HVV.out HO9.out, HB9.out⟩
    by_cases k2 : K = 2
    · subst k2
      have HAd := hid (show addF 2 N = [(teB, chB)] from rfl)
      go_enter Tryd.func22, Tryd.ntmps22
      go_wp2_with (first | (go_at_call 48; (with_reducible refine (HMa.out _).mono ?_); rintro e w1 ⟨rfl, hb⟩; have HB1 := hid (below_out HB0.out hb); have HX1 := hid (blk_next HX0.out hb); clear hb HMa) | (go_at_call 49; (with_reducible refine (HU.out _ HB1.out).mono ?_); rintro e w2 ⟨v, rfl, ho, hb⟩; obtain ⟨q, d, rfl⟩ : ∃ q d, v = .slice q m d := (by have h9 := own_slice ho; rw [HMl.out] at h9; exact h9); have HB2 := hid (below_out HB1.out hb); have HO2 := hid (ho.lowerF HB1.out.size); obtain ⟨y0, y1, _, _⟩ := cells2 (blk_next HX1.out hb); clear hb ho HU) | (at_builtin; refine wpList_append_own_at _ rfl (.tmp 26) (.tmp 28) 22 rfl w.heap.size 25 i0 _ 2 32 Tryd.underlying22 hi0 hz0 hz1 hz2 rfl (by decide) (.slice q m d) m (fldC (unfF fs)) (by go_simp) (by have h9 := HO2.out.alloc (.cells #[.string ⟨#[84, 114, 97, 110, 115, 102, 101, 114, 45, 69, 110, 99, 111, 100, 105, 110, 103]⟩, .string ⟨#[99, 104, 117, 110, 107, 101, 100]⟩] 25 (0, 0)); unfold OwnF at h9; rw [HMl.out] at h9; exact h9) ⟨w2.heap.size, 0, none⟩ 1 1 [.string ⟨#[84, 114, 97, 110, 115, 102, 101, 114, 45, 69, 110, 99, 111, 100, 105, 110, 103]⟩, .string ⟨#[99, 104, 117, 110, 107, 101, 100]⟩] (by go_simp) rfl (cells_new w2 _ _) (by simp [Value.oneCell']) (by unfold maxLen; omega) (by omega) (Nat.le_trans HB2.out.size (below_new _ _).size) ?_; intro v' w9 hown' hgrow _ _; have HB9 := hid (app_belowL HB2.out HO2.out hgrow); obtain ⟨q', d', rfl⟩ := own_slice hown'; have HO9 := hid hown'; clear hown' hgrow))
      (try simp only [Exit.inBlock, Exit.then])
      go_ret2
      exact ⟨_, rfl, by rw [HAd.out]; exact OwnF.appd HMl.out.symm teB_str rfl HO9.out, HB9.out⟩
    have j1 : (K == 1) = false := by simpa using k1
    have j2 : (K == 2) = false := by simpa using k2
    have HAd := hid (show addF K N = [] from by unfold addF; rw [if_neg k1, if_neg k2])
    go_enter Tryd.func22, Tryd.ntmps22
    go_wp2_with (first | (go_at_call 48; (with_reducible refine (HMa.out _).mono ?_); rintro e w1 ⟨rfl, hb⟩; have HB1 := hid (below_out HB0.out hb); have HX1 := hid (blk_next HX0.out hb); clear hb HMa) | (go_at_call 49; (with_reducible refine (HU.out _ HB1.out).mono ?_); rintro e w2 ⟨v, rfl, ho, hb⟩; obtain ⟨q, d, rfl⟩ : ∃ q d, v = .slice q m d := (by have h9 := own_slice ho; rw [HMl.out] at h9; exact h9); have HB2 := hid (below_out HB1.out hb); have HO2 := hid (ho.lowerF HB1.out.size); obtain ⟨y0, y1, _, _⟩ := cells2 (blk_next HX1.out hb); clear hb ho HU))
    (try simp only [Exit.inBlock, Exit.then])
    go_ret2
    exact ⟨_, rfl, by rw [HAd.out, List.append_nil]; exact HO2.out, HB2.out⟩
set_option maxRecDepth 20000 in
set_option maxHeartbeats 8000000 in
theorem dfields (fs : List (B × B)) (p : Option Addr) (n c : Nat) (hn : fs.length = n) (K N : Int) (w : World) (hF : FAt w p fs) (hsz : szB fs) (hnn : n ≤ 1048576) :
    Calls Tryd.prog 23 #[.slice p n c, .agg #[.int .i64 K, .int .i64 N]] w fun e w' => ∃ v, e = .returned (.tuple #[v, .int .i64 ((fldF fs K N).2 : Int)]) ∧ OwnF w' w.heap.size v (fldF fs K N).1 ∧ Below w.heap.size w w' := by
  obtain ⟨i0, hi0, hz0, hz1, hz2⟩ := info_parts infoF
  have HMa := hid (show ∀ W : World, _ from fun W => valid_any K N W)
  have HF := hid hF
  have HN := hid hn
  have HZ := hid hsz
  have HX0 := hid (heap_alloc_new w (frmO K N))
  have HB0 := hid (below_new w (frmO K N))
  have hul : (unfF fs).length ≤ 1048576 := Nat.le_trans (unf_le fs) (by omega)
  obtain ⟨R, hR⟩ : ∃ R, fldF fs K N = R := ⟨_, rfl⟩
  rw [hR]
  have HR := hid hR
  have HUl := hid hul
  clear hF hn hsz hR hul
  cases hok : okFr K N with
  | false =>
    have HX := hid (show R = ([], 1) from by rw [← HR.out]; unfold fldF; rw [if_neg (by rw [hok]; decide)])
    rw [HX.out]
    rw [hok] at HMa
    clear hok
    go_enter Tryd.func23, Tryd.ntmps23
    go_wp2_with (go_at_call 51; (with_reducible refine (HMa.out _).mono ?_); rintro e w1 ⟨rfl, hb⟩; have HB1 := hid (below_out HB0.out hb); clear hb HMa)
    go_ret2
    exact ⟨_, rfl, OwnF.nil _ _, HB1.out⟩
  | true =>
    have HOk := hid (of_decide_eq_true hok)
    have HX := hid (show R = (unfF fs ++ addF K N, 0) from by rw [← HR.out]; unfold fldF; rw [if_pos hok])
    rw [HX.out, show (((unfF fs ++ addF K N, 0) : List (B × B) × Nat).2 : Int) = 0 from rfl]
    rw [hok] at HMa
    clear hok
    go_enter Tryd.func23, Tryd.ntmps23
    go_wp2_with (go_at_call 51; (with_reducible refine (HMa.out _).mono ?_); rintro e w1 ⟨rfl, hb⟩; have HB1 := hid (below_out HB0.out hb); have HX1 := hid (blk_next HX0.out hb); clear hb HMa)
    go_loopg [6, 7] (n + 1) (fun gk s6 s7 wr => ∃ (i : Nat) (q : Option Addr) (m d : Nat), s6 = .slice q m d ∧ s7 = .int .i64 (i : Int) ∧ i ≤ n ∧ gk = n - i + 1 ∧ m = (unfF (fs.take i)).length ∧ OwnF wr w1.heap.size (.slice q m d) (unfF (fs.take i)) ∧ Below w1.heap.size w1 wr)
    case atStart => exact ⟨0, none, 0, 0, rfl, rfl, by omega, rfl, rfl, OwnF.nil _ _, Below.refl _ _⟩
    case round =>
      obtain ⟨i, q, m, d, rfl, rfl, hin, rfl, hm, ho, hb⟩ := hrel
      rename World => wr
      have hmi := unf_take fs i
      rw [← hm] at hmi
      have HB := hid hb
      have HBa := hid (below_out HB1.out hb)
      have HO := hid ho
      have HM := hid hm
      clear hb ho hm
      by_cases hlt : i < n
      · obtain ⟨f, hf⟩ : ∃ f, fs[i]? = some f := ⟨fs[i]'(by rw [HN.out]; exact hlt), List.getElem?_eq_getElem (by rw [HN.out]; exact hlt)⟩
        obtain ⟨g, o, hp, c0, c1⟩ := (HF.out.next HBa.out) i f hf
        subst hp
        have hltI : (i : Int) < (n : Int) := by omega
        obtain ⟨z1, z2⟩ := HZ.out f (List.mem_of_getElem? hf)
        have HS1 := hid (show ∀ W : World, _ from fun W => rsame_any (str f.1) clN W (by rw [str_size]; omega) (by decide))
        have HS2 := hid (show ∀ W : World, _ from fun W => rsame_any (str f.1) teN W (by rw [str_size]; omega) (by decide))
        have hfr : frB (str f.1) = (sameB (str f.1) clN || sameB (str f.1) teN) := rfl
        obtain ⟨a, ha⟩ : ∃ a, sameB (str f.1) clN = a := ⟨_, rfl⟩
        obtain ⟨b, hb⟩ : ∃ b, sameB (str f.1) teN = b := ⟨_, rfl⟩
        rw [ha] at HS1 hfr
        rw [hb] at HS2 hfr
        unfold clN at HS1
        unfold teN at HS2
        obtain ⟨NM, hNM⟩ : ∃ N, str f.1 = N := ⟨_, rfl⟩
        obtain ⟨V, hV⟩ : ∃ V, str f.2 = V := ⟨_, rfl⟩
        have HNN := hid hNM
        have HVV := hid hV
        have HYt := hid (show frB (str f.1) = true → unfF (fs.take (i + 1)) = unfF (fs.take i) from unf_yes hf)
        have HYf := hid (show frB (str f.1) = false → unfF (fs.take (i + 1)) = unfF (fs.take i) ++ [f] from unf_no hf)
        rw [hfr] at HYt HYf
        rw [hNM] at c0 HS1 HS2
        rw [hV] at c1
        clear hf hNM hV ha hb hfr
        cases a with
        | true =>
          have HY := hid (HYt.out rfl)
          go_wp2_with (go_at_call 35; (with_reducible refine (HS1.out _).mono ?_); rintro e w2 ⟨rfl, hb⟩; have HB2 := hid (below_out HB.out hb); have HO2 := hid (HO.out.keep hb); clear hb HS1)
          go_roundg (n - (i + 1) + 1)
          case measure => omega
          case rel => exact ⟨i + 1, q, m, d, rfl, by go_num, by omega, rfl, (by rw [HY.out]; exact HM.out), (by rw [HY.out]; exact HO2.out), HB2.out⟩
        | false =>
          cases b with
          | true =>
            have HY := hid (HYt.out rfl)
            go_wp2_with (first | (go_at_call 35; (with_reducible refine (HS1.out _).mono ?_); rintro e w2 ⟨rfl, hb⟩; have HB2 := hid (below_out HB.out hb); have HO2 := hid (HO.out.keep hb); have x0 := cell_keep hb c0; clear hb HS1) | (go_at_call 35; (with_reducible refine (HS2.out _).mono ?_); rintro e w3 ⟨rfl, hb⟩; have HB3 := hid (below_out HB2.out hb); have HO3 := hid (HO2.out.keep hb); clear hb HS2))
            go_roundg (n - (i + 1) + 1)
            case measure => omega
            case rel => exact ⟨i + 1, q, m, d, rfl, by go_num, by omega, rfl, (by rw [HY.out]; exact HM.out), (by rw [HY.out]; exact HO3.out), HB3.out⟩
          | false =>
            have HY := hid (HYf.out rfl)
            go_wp2_with (first | (go_at_call 35; (with_reducible refine (HS1.out _).mono ?_); rintro e w2 ⟨rfl, hb⟩; have HB2 := hid (below_out HB.out hb); have HO2 := hid (HO.out.keep hb); have x0 := cell_keep hb c0; have x1 := cell_keep hb c1; clear hb HS1) | (go_at_call 35; (with_reducible refine (HS2.out _).mono ?_); rintro e w3 ⟨rfl, hb⟩; have HB3 := hid (below_out HB2.out hb); have HO3 := hid (HO2.out.keep hb); have u0 := cell_keep hb x0; have u1 := cell_keep hb x1; clear hb HS2) | (at_builtin; refine wpList_append_own_at _ rfl (.tmp 33) (.tmp 38) 22 rfl w1.heap.size 25 i0 _ 2 32 Tryd.underlying22 hi0 hz0 hz1 hz2 rfl (by decide) (.slice q m d) m (fldC (unfF (fs.take i))) (by go_simp) (by have h9 := HO3.out.alloc (.cells #[.string NM, .string V] 25 (0, 0)); unfold OwnF at h9; rw [← HM.out] at h9; exact h9) ⟨w3.heap.size, 0, none⟩ 1 1 [.string NM, .string V] (by go_simp) rfl (cells_new w3 _ _) (by simp [Value.oneCell']) (by unfold maxLen; omega) (by omega) (Nat.le_trans HB3.out.size (below_new _ _).size) ?_; intro v' w4 hown' hgrow _ _; have HB4 := hid (app_belowL HB3.out HO3.out hgrow); obtain ⟨q', d', rfl⟩ := own_slice hown'; have HO4 := hid hown'; clear hown' hgrow))
            go_roundg (n - (i + 1) + 1)
            case measure => omega
            case rel => exact ⟨i + 1, q', m + 1, d', rfl, by go_num, by omega, rfl, (by rw [HY.out, List.length_append, ← HM.out]; rfl), (by rw [HY.out]; exact OwnF.appd HM.out HNN.out HVV.out HO4.out), HB4.out⟩
      · obtain rfl : i = n := by omega
        have hltI : ¬ (i : Int) < (i : Int) := by omega
        have HT := hid (show fs.take i = fs from List.take_of_length_le (by rw [HN.out]; exact Nat.le_refl _))
        have HMl := hid (show (unfF fs).length = m from by rw [HM.out, HT.out])
        have HO2 := hid (show OwnF wr w1.heap.size (.slice q m d) (unfF fs) from by have h9 := HO.out; rw [HT.out] at h9; exact h9)
        obtain ⟨y0, y1, _, _⟩ := cells2 (blk_next HX1.out HB.out)
        have HW1 := hid HB1.out.size
        clear hlt HO HM HT
        by_cases k1 : K = 1
        · subst k1
          have hN0 : (0 : Int) ≤ N := HOk.out.2.2.1
          have hNM : N ≤ 1099511627776 := HOk.out.2.2.2.1
          obtain ⟨t, ht⟩ : ∃ t : Nat, N = (t : Int) := ⟨N.toNat, by omega⟩
          have htk : t ≤ 9223372036854775807 := by omega
          have HTk := hid htk
          subst ht
          have HTx := hid (show ∀ W : World, _ from fun W => rtext_any t W HTk.out)
          have HAd := hid (show addF 1 (t : Int) = [(clB, told 10 t)] from rfl)
          obtain ⟨V, hV⟩ : ∃ V, str (told 10 t) = V := ⟨_, rfl⟩
          rw [hV] at HTx
          have HVV := hid hV
          clear htk hN0 hNM hV
          go_wp2_with (first | (go_at_call 52; (with_reducible refine (HTx.out _).mono ?_); rintro e w3 ⟨rfl, hb⟩; have HB3 := hid (below_out HB.out hb); have HO3 := hid (HO2.out.keep hb); clear hb HTx) | (at_builtin; refine wpList_append_own_at _ rfl (.tmp 44) (.tmp 49) 22 rfl w1.heap.size 25 i0 _ 2 32 Tryd.underlying22 hi0 hz0 hz1 hz2 rfl (by decide) (.slice q m d) m (fldC (unfF fs)) (by go_simp) (by have h9 := HO3.out.alloc (.cells #[.string ⟨#[67, 111, 110, 116, 101, 110, 116, 45, 76, 101, 110, 103, 116, 104]⟩, .string V] 25 (0, 0)); unfold OwnF at h9; rw [HMl.out] at h9; exact h9) ⟨w3.heap.size, 0, none⟩ 1 1 [.string ⟨#[67, 111, 110, 116, 101, 110, 116, 45, 76, 101, 110, 103, 116, 104]⟩, .string V] (by go_simp) rfl (cells_new w3 _ _) (by simp [Value.oneCell']) (by unfold maxLen; omega) (by omega) (Nat.le_trans HB3.out.size (below_new _ _).size) ?_; intro v' w9 hown' hgrow _ _; have HB9 := hid (app_belowL HB3.out HO3.out hgrow); obtain ⟨q', d', rfl⟩ := own_slice hown'; have HO9 := hid hown'; clear hown' hgrow))
          (try simp only [Exit.inBlock, Exit.then])
          go_ret2
          exact ⟨_, rfl, by rw [HAd.out]; exact OwnF.lowerF (OwnF.appd HMl.out.symm clB_str HVV.out HO9.out) HW1.out, below_out HB1.out HB9.out⟩
        by_cases k2 : K = 2
        · subst k2
          have HAd := hid (show addF 2 N = [(teB, chB)] from rfl)
          go_wp2_with (first | (at_builtin; refine wpList_append_own_at _ rfl (.tmp 53) (.tmp 55) 22 rfl w1.heap.size 25 i0 _ 2 32 Tryd.underlying22 hi0 hz0 hz1 hz2 rfl (by decide) (.slice q m d) m (fldC (unfF fs)) (by go_simp) (by have h9 := HO2.out.alloc (.cells #[.string ⟨#[84, 114, 97, 110, 115, 102, 101, 114, 45, 69, 110, 99, 111, 100, 105, 110, 103]⟩, .string ⟨#[99, 104, 117, 110, 107, 101, 100]⟩] 25 (0, 0)); unfold OwnF at h9; rw [HMl.out] at h9; exact h9) ⟨wr.heap.size, 0, none⟩ 1 1 [.string ⟨#[84, 114, 97, 110, 115, 102, 101, 114, 45, 69, 110, 99, 111, 100, 105, 110, 103]⟩, .string ⟨#[99, 104, 117, 110, 107, 101, 100]⟩] (by go_simp) rfl (cells_new wr _ _) (by simp [Value.oneCell']) (by unfold maxLen; omega) (by omega) (Nat.le_trans HB.out.size (below_new _ _).size) ?_; intro v' w9 hown' hgrow _ _; have HB9 := hid (app_belowL HB.out HO2.out hgrow); obtain ⟨q', d', rfl⟩ := own_slice hown'; have HO9 := hid hown'; clear hown' hgrow))
          (try simp only [Exit.inBlock, Exit.then])
          go_ret2
          exact ⟨_, rfl, by rw [HAd.out]; exact OwnF.lowerF (OwnF.appd HMl.out.symm teB_str rfl HO9.out) HW1.out, below_out HB1.out HB9.out⟩
        have j1 : (K == 1) = false := by simpa using k1
        have j2 : (K == 2) = false := by simpa using k2
        have HAd := hid (show addF K N = [] from by unfold addF; rw [if_neg k1, if_neg k2])
        go_wp2
        (try simp only [Exit.inBlock, Exit.then])
        go_ret2
        exact ⟨_, rfl, by rw [HAd.out, List.append_nil]; exact OwnF.lowerF HO2.out HW1.out, HBa.out⟩
end Go.Proofs.YthakldcfpndabaaDoor
