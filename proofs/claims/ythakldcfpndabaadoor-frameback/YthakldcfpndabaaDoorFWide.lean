/- The lengths and codings that fields tell, where the fields may be as great as memory lets and the values of both names are short. -/
import Derived.Test.YthakldcfpndabaaDoorFSure
import Derived.Test.YthakldcfpndabaaDoorFFlds2
import Derived.Test.YthakldcfpndabaaDoorFBackP
namespace Go.Proofs.YthakldcfpndabaaDoor
open Go.RowKit

def szV (fs : List (B × B)) : Prop := ∀ f ∈ fs, f.1.length ≤ 140737488351232 ∧ f.2.length ≤ 140737488351232
theorem same_belV (a b : ByteArray) (w : World) (ha : a.size ≤ 140737488351232) (hb : b.size ≤ 140737488351232) : Calls Tryd.prog 58 #[.string a, .string b] w fun e w' => e = .returned (.bool (sameB a b)) ∧ Below w.heap.size w w' :=
  (same_any a b w (Nat.le_trans ha (by decide)) (Nat.le_trans hb (by decide))).mono (fun e w' ⟨h1, m, h2⟩ => ⟨h1, by rw [h2]; exact below_drew (Below.refl _ _) m⟩)
/-- The values of both names are short and few. -/
structure Small (fs : List (B × B)) : Prop where
  c1 : ∀ x ∈ valsB fs clN, x.size ≤ 1048576
  c2 : (valsB fs clN).length ≤ 1048576
  t1 : ∀ x ∈ valsB fs teN, x.size ≤ 1048576
  t2 : (valsB fs teN).length ≤ 1048576
set_option maxRecDepth 20000 in
set_option maxHeartbeats 8000000 in
theorem pvalsW (fs : List (B × B)) (p : Option Addr) (n c : Nat) (hn : fs.length = n) (nm : ByteArray) (w : World) (hF : FAt w p fs) (hsz : szV fs) (hnm : nm.size ≤ 1048576) (hnn : n ≤ 4398046511104) :
    Calls Tryd.prog 42 #[.slice p n c, .string nm] w fun e w' => ∃ v, e = .returned v ∧ RowB w' w.heap.size v (valsB fs nm) ∧ Below w.heap.size w w' := by
  obtain ⟨i0, hi, hz0, hz1, hz2⟩ := info_parts info9
  have HF := hid hF
  have HN := hid hn
  have HZ := hid hsz
  clear hF hn hsz
  go_enter Tryd.func42, Tryd.ntmps42
  go_wp2
  go_loopg [5, 10] (n + 1) (fun gk s5 s10 wr => ∃ (i : Nat) (q : Option Addr) (m d : Nat), s5 = .slice q m d ∧ s10 = .int .i64 (i : Int) ∧ i ≤ n ∧ gk = n - i + 1 ∧ m = (valsB (fs.take i) nm).length ∧ RowB wr w.heap.size (.slice q m d) (valsB (fs.take i) nm) ∧ Below w.heap.size w wr)
  case atStart => exact ⟨0, none, 0, 0, rfl, rfl, by omega, rfl, rfl, RowB.nil _ _, Below.refl _ _⟩
  case round =>
    obtain ⟨i, q, m, d, rfl, rfl, hin, rfl, hm, ho, hb⟩ := hrel
    have hmi := vals_take fs nm i
    rw [← hm] at hmi
    have HB := hid hb
    have HO := hid (show wr.ownsRow w.heap.size 9 1 (.slice q m d) m ((valsB (fs.take i) nm).map strVL) from by unfold RowB at ho; rw [← hm] at ho; exact ho)
    have HM := hid hm
    clear hb ho hm
    by_cases hlt : i < n
    · obtain ⟨f, hf⟩ : ∃ f, fs[i]? = some f := ⟨fs[i]'(by rw [HN.out]; exact hlt), List.getElem?_eq_getElem (by rw [HN.out]; exact hlt)⟩
      obtain ⟨g, o, hp, c0, c1⟩ := (HF.out.next HB.out) i f hf
      subst hp
      have hltI : (i : Int) < (n : Int) := by omega
      obtain ⟨z1, z2⟩ := HZ.out f (List.mem_of_getElem? hf)
      have HSm := hid (show ∀ W : World, _ from fun W => same_belV (str f.1) nm W (by rw [str_size]; omega) (by omega))
      have HCl := hid (show ∀ W : World, _ from fun W => clone_any (str f.2) W (by rw [str_size]; omega))
      cases hS : sameB (str f.1) nm with
      | true =>
        have HY := hid (vals_yes hf hS)
        rw [hS] at HSm
        obtain ⟨N, hN⟩ : ∃ N, str f.1 = N := ⟨_, rfl⟩
        obtain ⟨V, hV⟩ : ∃ V, str f.2 = V := ⟨_, rfl⟩
        rw [hN] at c0 HSm
        rw [hV] at c1 HCl HY
        clear hf hS hN hV
        go_wp2_with (first | (go_at_call 58; (with_reducible refine (HSm.out _).mono ?_); rintro e w2 ⟨rfl, hb⟩; have hbx := below_new wr (.cells #[.string N, .string V] 25 (0, 0)); have HB2 := hid (below_out (below_out HB.out hbx) hb); have HO2 := hid (own_over (own_over HO.out hbx) hb); obtain ⟨y0, y1⟩ := box2 ((hb.block _ (lt_of_heap (heap_alloc_new wr (.cells #[.string N, .string V] 25 (0, 0))))).trans (heap_alloc_new wr (.cells #[.string N, .string V] 25 (0, 0)))); clear hb hbx HSm) | (go_at_call 34; (with_reducible refine (HCl.out _).mono ?_); rintro e w3 ⟨rfl, hb⟩; have HB3 := hid (below_out HB2.out hb); have HO3 := hid (own_over HO2.out hb); clear hb HCl y0 y1) | (at_builtin; refine wpList_append_own_at _ rfl (.tmp 18) (.tmp 22) 79 rfl w.heap.size 9 i0 _ 1 16 Tryd.underlying79 hi hz0 hz1 hz2 rfl (by decide) (.slice q m d) m ((valsB (fs.take i) nm).map strVL) (by go_simp) (HO3.out.alloc _) ⟨w3.heap.size, 0, none⟩ 1 1 [.string V] (by go_simp) rfl (cells_new w3 _ _) (by simp [Value.oneCell']) (by unfold maxLen; omega) (by omega) (Nat.le_trans HB3.out.size (below_new _ _).size) ?_; intro v' w4 hown' hgrow _ _; have HB4 := hid (app_belowL HB3.out HO3.out hgrow); obtain ⟨q', d', rfl⟩ := own_slice hown'; have HO4 := hid hown'; clear hown' hgrow))
        go_roundg (n - (i + 1) + 1)
        case measure => omega
        case rel => exact ⟨i + 1, q', m + 1, d', rfl, by go_num, by omega, rfl, (by rw [HY.out, List.length_append, ← HM.out]; rfl), (by unfold RowB; rw [HY.out, List.length_append, ← HM.out, List.map_append]; exact HO4.out), HB4.out⟩
      | false =>
        have HY := hid (vals_no hf hS)
        rw [hS] at HSm
        obtain ⟨N, hN⟩ : ∃ N, str f.1 = N := ⟨_, rfl⟩
        obtain ⟨V, hV⟩ : ∃ V, str f.2 = V := ⟨_, rfl⟩
        rw [hN] at c0 HSm
        rw [hV] at c1 HCl
        clear hf hS hN hV
        go_wp2_with (first | (go_at_call 58; (with_reducible refine (HSm.out _).mono ?_); rintro e w2 ⟨rfl, hb⟩; have hbx := below_new wr (.cells #[.string N, .string V] 25 (0, 0)); have HB2 := hid (below_out (below_out HB.out hbx) hb); have HO2 := hid (own_over (own_over HO.out hbx) hb); obtain ⟨y0, y1⟩ := box2 ((hb.block _ (lt_of_heap (heap_alloc_new wr (.cells #[.string N, .string V] 25 (0, 0))))).trans (heap_alloc_new wr (.cells #[.string N, .string V] 25 (0, 0)))); clear hb hbx HSm))
        go_roundg (n - (i + 1) + 1)
        case measure => omega
        case rel => exact ⟨i + 1, q, m, d, rfl, by go_num, by omega, rfl, (by rw [HY.out]; exact HM.out), (by unfold RowB; rw [HY.out, ← HM.out]; exact HO2.out), HB2.out⟩
    · obtain rfl : i = n := by omega
      have hltI : ¬ (i : Int) < (i : Int) := by omega
      have HT := hid (show fs.take i = fs from List.take_of_length_le (by rw [HN.out]; exact Nat.le_refl _))
      clear hlt
      go_wp2
      go_ret
      exact ⟨_, rfl, (by unfold RowB; have h1 := HO.out; have h2 := HM.out; rw [HT.out] at h1 h2; rw [← h2]; exact h1), HB.out⟩
set_option maxRecDepth 20000 in
set_option maxHeartbeats 8000000 in
theorem plengthW (fs : List (B × B)) (p : Option Addr) (n c : Nat) (hn : fs.length = n) (w : World) (hF : FAt w p fs) (hsz : szV fs) (hnn : n ≤ 4398046511104) (hS : Small fs) (hmx : ∃ m : Int, w.cell? ⟨2, 0, none⟩ = some (.int .i64 m)) :
    Calls Tryd.prog 18 #[.slice p n c] w fun e w' => e = .returned (.tuple #[.int .i64 (lenT (lenF fs)).1, .bool (lenT (lenF fs)).2.1, errOf (lenT (lenF fs)).2.2]) ∧ Below w.heap.size w w' := by
  obtain ⟨mm, hmm⟩ := hmx
  have HV := hid (show ∀ _ : Unit, _ from fun _ => pvalsW fs p n c hn clN w hF hsz (by decide) hnn)
  unfold clN at HV
  have HZ := hid (show ∀ x ∈ valsB fs clN, x.size ≤ 1048576 from hS.c1)
  have hLn : (valsB fs clN).length ≤ 1048576 := hS.c2
  have hR : runV none (valsB fs clN) = lenF fs := rfl
  unfold clN at HZ hLn hR
  obtain ⟨L, hL⟩ : ∃ L, valsB fs ⟨#[67, 111, 110, 116, 101, 110, 116, 45, 76, 101, 110, 103, 116, 104]⟩ = L := ⟨_, rfl⟩
  obtain ⟨R, hRR⟩ : ∃ R, lenF fs = R := ⟨_, rfl⟩
  rw [hL] at HV HZ hLn hR
  rw [hRR] at hR ⊢
  have HR := hid hR
  have HM := hid hmm
  clear hL hF hsz hn hR hRR hmm hS
  obtain ⟨T, hT⟩ : ∃ T, lenT R = T := ⟨_, rfl⟩
  have HT := hid hT.symm
  rw [hT]
  clear hT
  obtain ⟨k, hk⟩ : ∃ k, L.length = k := ⟨_, rfl⟩
  rw [hk] at hLn
  have HK := hid hk
  clear hk
  go_enter Tryd.func18, Tryd.ntmps18
  go_wp2_with (go_at_call 42; (with_reducible refine (HV.out ()).mono ?_); rintro e w1 ⟨v, rfl, ho, hb⟩; obtain ⟨q, d, rfl, hq⟩ := row_see ho k HK.out; have HB1 := hid hb; have HQ := hid hq; clear hb ho hq HV)
  go_loopg [5, 6, 14] (k + 1) (fun gk s5 s6 s wr => ∃ (i : Nat) (st : Option Int) (a : Int) (b : Bool), s5 = .int .i64 a ∧ s6 = .bool b ∧ s = .int .i64 (i : Int) ∧ i ≤ k ∧ gk = k - i + 1 ∧ Below w1.heap.size w1 wr ∧ StN st a b ∧ runV st (L.drop i) = R)
  case atStart => exact ⟨0, none, 0, false, rfl, rfl, rfl, by omega, rfl, Below.refl _ _, ⟨rfl, rfl⟩, HR.out⟩
  case round =>
    obtain ⟨i, st, a, b, rfl, rfl, rfl, hin, rfl, hb, hst, hh⟩ := hrel
    rename World => wr
    have HB := hid hb
    have HBa := hid (show Below w.heap.size w wr from below_out HB1.out hb)
    have HH := hid hh
    clear hb hh
    by_cases hlt : i < k
    · obtain ⟨x, hx⟩ : ∃ x, L[i]? = some x := ⟨L[i]'(by rw [HK.out]; exact hlt), List.getElem?_eq_getElem (by rw [HK.out]; exact hlt)⟩
      have hxs := HZ.out x (List.mem_of_getElem? hx)
      obtain ⟨g, hq, hc1⟩ := HQ.out i x hx
      subst hq
      have hc := cell_keep HB.out hc1
      have hltI : (i : Int) < (k : Int) := by omega
      have HX := hid hx
      have HO := hid (onenumber_any x wr hxs ⟨mm, cell_keep HBa.out HM.out⟩)
      cases ho : oneN x with
      | none =>
        have HE := hid (show T = (0, false, 3) from by rw [HT.out, runV_bad HH.out HX.out ho]; rfl)
        rw [ho, show oneV none = (0, false) from rfl] at HO
        dsimp only at HO
        clear hx hc1 hst ho hlt
        go_wp2_with (go_at_call 43; (with_reducible refine HO.out.mono ?_); rintro e w2 ⟨rfl, hb⟩; have HB2 := hid (below_out HBa.out hb); clear hb HO)
        (try simp only [Exit.inBlock, Exit.then])
        go_ret3
        exact ⟨(by rw [HE.out]; rfl), HB2.out⟩
      | some m =>
        rw [ho, show oneV (some m) = (m, true) from rfl] at HO
        dsimp only at HO
        have HE := hid ho
        clear hx hc1 ho hlt
        rcases st with _ | n0
        · obtain ⟨rfl, rfl⟩ := hst
          have HG := hid (runV_go HH.out HX.out HE.out (.inl rfl))
          go_wp2_with (go_at_call 43; (with_reducible refine HO.out.mono ?_); rintro e w2 ⟨rfl, hb⟩; have HB2 := hid (below_out HB.out hb); clear hb HO)
          go_roundg (k - (i + 1) + 1)
          case measure => omega
          case rel => exact ⟨i + 1, some m, m, true, rfl, rfl, by go_num, by omega, rfl, HB2.out, ⟨rfl, rfl⟩, HG.out⟩
        · obtain ⟨rfl, rfl⟩ := hst
          by_cases hxa : m = a
          · subst hxa
            have HG := hid (runV_go HH.out HX.out HE.out (.inr rfl))
            go_wp2_with (go_at_call 43; (with_reducible refine HO.out.mono ?_); rintro e w2 ⟨rfl, hb⟩; have HB2 := hid (below_out HB.out hb); clear hb HO)
            go_roundg (k - (i + 1) + 1)
            case measure => omega
            case rel => exact ⟨i + 1, some m, m, true, rfl, rfl, by go_num, by omega, rfl, HB2.out, ⟨rfl, rfl⟩, HG.out⟩
          · have HG := hid (show T = (0, false, 3) from by rw [HT.out, runV_part HH.out HX.out HE.out hxa]; rfl)
            have hx1 : (m != a) = true := by simpa using hxa
            have hx2 : (m == a) = false := by simpa using hxa
            go_wp2_with (go_at_call 43; (with_reducible refine HO.out.mono ?_); rintro e w2 ⟨rfl, hb⟩; have HB2 := hid (below_out HBa.out hb); clear hb HO)
            (try simp only [Exit.inBlock, Exit.then])
            go_ret3
            exact ⟨(by rw [HG.out]; rfl), HB2.out⟩
    · obtain rfl : i = k := by omega
      have hltI : ¬ (i : Int) < (i : Int) := by omega
      have HX := hid (show T = (a, b, 0) from by
        rw [HT.out, runV_end HH.out (by rw [HK.out]; exact Nat.le_refl _)]
        rcases st with _ | n
        · obtain ⟨rfl, rfl⟩ := hst; rfl
        · obtain ⟨rfl, rfl⟩ := hst; rfl)
      clear hlt hst
      go_wp2
      go_ret3
      exact ⟨(by rw [HX.out]; rfl), HBa.out⟩
set_option maxRecDepth 20000 in
set_option maxHeartbeats 8000000 in
theorem pchunkedW (fs : List (B × B)) (p : Option Addr) (n c : Nat) (hn : fs.length = n) (w : World) (hF : FAt w p fs) (hsz : szV fs) (hnn : n ≤ 4398046511104) (hS : Small fs) (hmx : ∃ m : Int, w.cell? ⟨2, 0, none⟩ = some (.int .i64 m)) :
    Calls Tryd.prog 20 #[.slice p n c] w fun e w' => e = .returned (.tuple #[.bool (chkF fs).1, errOf (chkF fs).2]) ∧ Below w.heap.size w w' := by
  obtain ⟨mm, hmm⟩ := hmx
  have HV := hid (show ∀ _ : Unit, _ from fun _ => pvalsW fs p n c hn teN w hF hsz (by decide) hnn)
  have HZ := hid (show ∀ x ∈ valsB fs teN, x.size ≤ 1048576 from hS.t1)
  have hLn : (valsB fs teN).length ≤ 1048576 := hS.t2
  unfold chkF
  unfold teN at HZ hLn HV ⊢
  obtain ⟨L, hL⟩ : ∃ L, valsB fs ⟨#[84, 114, 97, 110, 115, 102, 101, 114, 45, 69, 110, 99, 111, 100, 105, 110, 103]⟩ = L := ⟨_, rfl⟩
  rw [hL] at HV HZ hLn
  rw [hL]
  have HM := hid hmm
  clear hL hF hsz hn hmm hS
  obtain ⟨T, hT⟩ : ∃ T, chkT L = T := ⟨_, rfl⟩
  have HT := hid hT.symm
  rw [hT]
  clear hT
  obtain ⟨k, hk⟩ : ∃ k, L.length = k := ⟨_, rfl⟩
  rw [hk] at hLn
  have HK := hid hk
  clear hk
  by_cases hk0 : k = 0
  · subst hk0
    have HX := hid (show T = (false, 0) from by rw [HT.out]; unfold chkT; rw [if_pos (List.length_eq_zero_iff.1 HK.out)])
    go_enter Tryd.func20, Tryd.ntmps20
    go_wp2_with (go_at_call 42; (with_reducible refine (HV.out ()).mono ?_); rintro e w1 ⟨v, rfl, ho, hb⟩; obtain ⟨q, d, rfl, hq⟩ := row_see ho 0 HK.out; have HB1 := hid hb; clear hb ho hq HV)
    go_ret2
    exact ⟨(by rw [HX.out]; rfl), HB1.out⟩
  have hk1 : ¬ (k : Int) = 0 := by omega
  have hk2 : ((k : Int) == 0) = false := by simpa using hk0
  have HNe := hid (show ¬ L = [] from fun e => hk0 (by rw [← HK.out, e]; rfl))
  have HOc := hid (show ∀ (W : World) (q : Option Addr) (d : Nat), Below w.heap.size w W → (∀ j x, L[j]? = some x → ∃ g, q = some ⟨g, 0, none⟩ ∧ W.cell? ⟨g, j, none⟩ = some (.string x)) → _ from fun W q d hb2 hq => onlychunked L q k d HK.out W hq HZ.out hLn ⟨mm, cell_keep hb2 HM.out⟩)
  cases hC : chkB L with
  | true =>
    have HX := hid (show T = (true, 0) from by rw [HT.out]; unfold chkT; rw [if_neg HNe.out, if_pos hC])
    rw [hC] at HOc
    clear hC
    go_enter Tryd.func20, Tryd.ntmps20
    go_wp2_with (first | (go_at_call 42; (with_reducible refine (HV.out ()).mono ?_); rintro e w1 ⟨v, rfl, ho, hb⟩; obtain ⟨q, d, rfl, hq⟩ := row_see ho k HK.out; have HB1 := hid hb; have HQ := hid hq; clear hb ho hq HV) | (go_at_call 47; (with_reducible refine (HOc.out _ _ _ HB1.out HQ.out).mono ?_); rintro e w2 ⟨rfl, hb⟩; have HB2 := hid (below_out HB1.out hb); clear hb HOc))
    go_ret2
    exact ⟨(by rw [HX.out]; rfl), HB2.out⟩
  | false =>
    have HX := hid (show T = (false, 3) from by rw [HT.out]; unfold chkT; rw [if_neg HNe.out, if_neg (by rw [hC]; decide)])
    rw [hC] at HOc
    clear hC
    go_enter Tryd.func20, Tryd.ntmps20
    go_wp2_with (first | (go_at_call 42; (with_reducible refine (HV.out ()).mono ?_); rintro e w1 ⟨v, rfl, ho, hb⟩; obtain ⟨q, d, rfl, hq⟩ := row_see ho k HK.out; have HB1 := hid hb; have HQ := hid hq; clear hb ho hq HV) | (go_at_call 47; (with_reducible refine (HOc.out _ _ _ HB1.out HQ.out).mono ?_); rintro e w2 ⟨rfl, hb⟩; have HB2 := hid (below_out HB1.out hb); clear hb HOc))
    go_ret2
    exact ⟨(by rw [HX.out]; rfl), HB2.out⟩
set_option maxRecDepth 20000 in
set_option maxHeartbeats 8000000 in
theorem ptoldW (k o : Int) (fs : List (B × B)) (p : Option Addr) (n c : Nat) (hn : fs.length = n) (w : World) (hF : FAt w p fs) (hsz : szV fs) (hnn : n ≤ 4398046511104) (hS : Small fs) (hmx : ∃ m : Int, w.cell? ⟨2, 0, none⟩ = some (.int .i64 m)) :
    Calls Tryd.prog 54 #[.int .i64 k, .slice p n c, .int .i64 o] w fun e w' => e = .returned (.tuple #[frmV (frmF k fs o).1, errOf (frmF k fs o).2]) ∧ Below w.heap.size w w' := by
  obtain ⟨mm, hmm⟩ := hmx
  have HL := hid (show ∀ W : World, Below w.heap.size w W → _ from fun W hb => plengthW fs p n c hn W (hF.next hb) hsz hnn hS ⟨mm, cell_keep hb hmm⟩)
  have HC := hid (show ∀ W : World, Below w.heap.size w W → _ from fun W hb => pchunkedW fs p n c hn W (hF.next hb) hsz hnn hS ⟨mm, cell_keep hb hmm⟩)
  clear hmm
  have h1 := lenT_bd fs
  have h2 := chkT_bd fs
  have hR : frmF k fs o = frmF k fs o := rfl
  conv at hR => rhs; unfold frmF
  obtain ⟨R, hRR⟩ : ∃ R, frmF k fs o = R := ⟨_, rfl⟩
  rw [hRR] at hR ⊢
  obtain ⟨⟨N, H, E1⟩, hL⟩ : ∃ x, lenT (lenF fs) = x := ⟨_, rfl⟩
  obtain ⟨⟨C, E2⟩, hC⟩ : ∃ x, chkF fs = x := ⟨_, rfl⟩
  rw [hL] at HL h1 hR
  rw [hC] at HC h2 hR
  dsimp only at HL HC h1 h2 hR
  have HR := hid hR
  have HX0 := hid (BoxF.new w)
  clear hL hC hRR hF hsz hn hR hS
  rcases h1 with rfl | rfl
  · rw [show errOf 0 = .nilIface from rfl] at HL
    rcases h2 with rfl | rfl
    · rw [show errOf 0 = .nilIface from rfl] at HC
      cases C with
      | true =>
        cases H with
        | true =>
          have HRR := hid (show R = ((0, 0), 30) from by rw [HR.out]; simp)
          go_enter Tryd.func54, Tryd.ntmps54
          go_wp2_with (first | (go_at_call 18; (with_reducible refine (HL.out _ HX0.out.low).mono ?_); rintro e w1 ⟨rfl, hb⟩; have HX1 := hid (HX0.out.next hb); obtain ⟨y0, y1, z0, z1⟩ := cells2 HX1.out.blk; clear hb HL) | (go_at_call 20; (with_reducible refine (HC.out _ HX1.out.low).mono ?_); rintro e w2 ⟨rfl, hb⟩; have HX2 := hid (HX1.out.next hb); clear y0 y1 z0 z1; obtain ⟨y0, y1, z0, z1⟩ := cells2 HX2.out.blk; clear hb HC))
          (try simp only [Exit.inBlock, Exit.then])
          refine bodyPost_ret (results_frm rfl _ _ _ 34 _ (0, 0) rfl (twoC HX2.out.blk _ _) rfl) rfl ?_
          exact ⟨(by rw [HRR.out]; rfl), below_twoF HX2.out.low _ _⟩
        | false =>
          by_cases hk : k = 0
          · subst hk
            have HRR := hid (show R = ((0, 0), 30) from by rw [HR.out]; simp)
            go_enter Tryd.func54, Tryd.ntmps54
            go_wp2_with (first | (go_at_call 18; (with_reducible refine (HL.out _ HX0.out.low).mono ?_); rintro e w1 ⟨rfl, hb⟩; have HX1 := hid (HX0.out.next hb); obtain ⟨y0, y1, z0, z1⟩ := cells2 HX1.out.blk; clear hb HL) | (go_at_call 20; (with_reducible refine (HC.out _ HX1.out.low).mono ?_); rintro e w2 ⟨rfl, hb⟩; have HX2 := hid (HX1.out.next hb); clear y0 y1 z0 z1; obtain ⟨y0, y1, z0, z1⟩ := cells2 HX2.out.blk; clear hb HC))
            (try simp only [Exit.inBlock, Exit.then])
            refine bodyPost_ret (results_frm rfl _ _ _ 34 _ (0, 0) rfl (twoC HX2.out.blk _ _) rfl) rfl ?_
            exact ⟨(by rw [HRR.out]; rfl), below_twoF HX2.out.low _ _⟩
          · have hk1 : (k == 0) = false := by simpa using hk
            have HRR := hid (show R = ((2, 0), 0) from by rw [HR.out]; simp [hk])
            go_enter Tryd.func54, Tryd.ntmps54
            go_wp2_with (first | (go_at_call 18; (with_reducible refine (HL.out _ HX0.out.low).mono ?_); rintro e w1 ⟨rfl, hb⟩; have HX1 := hid (HX0.out.next hb); obtain ⟨y0, y1, z0, z1⟩ := cells2 HX1.out.blk; clear hb HL) | (go_at_call 20; (with_reducible refine (HC.out _ HX1.out.low).mono ?_); rintro e w2 ⟨rfl, hb⟩; have HX2 := hid (HX1.out.next hb); clear y0 y1 z0 z1; obtain ⟨y0, y1, z0, z1⟩ := cells2 HX2.out.blk; clear hb HC))
            (try simp only [Exit.inBlock, Exit.then])
            refine bodyPost_ret (results_frm rfl _ _ _ 34 _ (0, 0) rfl (twoC HX2.out.blk _ _) rfl) rfl ?_
            exact ⟨(by rw [HRR.out]; rfl), below_twoF HX2.out.low _ _⟩
      | false =>
        cases H with
        | true =>
          have HRR := hid (show R = ((1, N), 0) from by rw [HR.out]; simp)
          go_enter Tryd.func54, Tryd.ntmps54
          go_wp2_with (first | (go_at_call 18; (with_reducible refine (HL.out _ HX0.out.low).mono ?_); rintro e w1 ⟨rfl, hb⟩; have HX1 := hid (HX0.out.next hb); obtain ⟨y0, y1, z0, z1⟩ := cells2 HX1.out.blk; clear hb HL) | (go_at_call 20; (with_reducible refine (HC.out _ HX1.out.low).mono ?_); rintro e w2 ⟨rfl, hb⟩; have HX2 := hid (HX1.out.next hb); clear y0 y1 z0 z1; obtain ⟨y0, y1, z0, z1⟩ := cells2 HX2.out.blk; clear hb HC))
          (try simp only [Exit.inBlock, Exit.then])
          refine bodyPost_ret (results_frm rfl _ _ _ 34 _ (0, 0) rfl (twoC HX2.out.blk _ _) rfl) rfl ?_
          exact ⟨(by rw [HRR.out]; rfl), below_twoF HX2.out.low _ _⟩
        | false =>
          have HRR := hid (show R = ((o, 0), 0) from by rw [HR.out]; simp)
          go_enter Tryd.func54, Tryd.ntmps54
          go_wp2_with (first | (go_at_call 18; (with_reducible refine (HL.out _ HX0.out.low).mono ?_); rintro e w1 ⟨rfl, hb⟩; have HX1 := hid (HX0.out.next hb); obtain ⟨y0, y1, z0, z1⟩ := cells2 HX1.out.blk; clear hb HL) | (go_at_call 20; (with_reducible refine (HC.out _ HX1.out.low).mono ?_); rintro e w2 ⟨rfl, hb⟩; have HX2 := hid (HX1.out.next hb); clear y0 y1 z0 z1; obtain ⟨y0, y1, z0, z1⟩ := cells2 HX2.out.blk; clear hb HC))
          (try simp only [Exit.inBlock, Exit.then])
          refine bodyPost_ret (results_frm rfl _ _ _ 34 _ (0, 0) rfl (twoC HX2.out.blk _ _) rfl) rfl ?_
          exact ⟨(by rw [HRR.out]; rfl), below_twoF HX2.out.low _ _⟩
    · rw [show errOf 3 = .iface 83 (.int .i64 3) from rfl] at HC
      have HRR := hid (show R = ((0, 0), 30) from by rw [HR.out]; simp)
      go_enter Tryd.func54, Tryd.ntmps54
      go_wp2_with (first | (go_at_call 18; (with_reducible refine (HL.out _ HX0.out.low).mono ?_); rintro e w1 ⟨rfl, hb⟩; have HX1 := hid (HX0.out.next hb); obtain ⟨y0, y1, z0, z1⟩ := cells2 HX1.out.blk; clear hb HL) | (go_at_call 20; (with_reducible refine (HC.out _ HX1.out.low).mono ?_); rintro e w2 ⟨rfl, hb⟩; have HX2 := hid (HX1.out.next hb); clear y0 y1 z0 z1; obtain ⟨y0, y1, z0, z1⟩ := cells2 HX2.out.blk; clear hb HC))
      (try simp only [Exit.inBlock, Exit.then])
      refine bodyPost_ret (results_frm rfl _ _ _ 34 _ (0, 0) rfl (twoC HX2.out.blk _ _) rfl) rfl ?_
      exact ⟨(by rw [HRR.out]; rfl), below_twoF HX2.out.low _ _⟩
  · rw [show errOf 3 = .iface 83 (.int .i64 3) from rfl] at HL
    have HRR := hid (show R = ((0, 0), 30) from by rw [HR.out]; simp)
    go_enter Tryd.func54, Tryd.ntmps54
    go_wp2_with (first | (go_at_call 18; (with_reducible refine (HL.out _ HX0.out.low).mono ?_); rintro e w1 ⟨rfl, hb⟩; have HX1 := hid (HX0.out.next hb); obtain ⟨y0, y1, z0, z1⟩ := cells2 HX1.out.blk; clear hb HL))
    (try simp only [Exit.inBlock, Exit.then])
    refine bodyPost_ret (results_frm rfl _ _ _ 34 _ (0, 0) rfl (twoC HX1.out.blk _ _) rfl) rfl ?_
    exact ⟨(by rw [HRR.out]; rfl), below_twoF HX1.out.low _ _⟩
set_option maxRecDepth 20000 in
set_option maxHeartbeats 8000000 in
theorem prequestW (M T : ByteArray) (k : Int) (fs : List (B × B)) (p : Option Addr) (n c : Nat) (hn : fs.length = n) (w : World) (hF : FAt w p fs) (hsz : szV fs) (hnn : n ≤ 4398046511104) (hS : Small fs) (hmx : ∃ m : Int, w.cell? ⟨2, 0, none⟩ = some (.int .i64 m)) :
    Calls Tryd.prog 27 #[.agg #[.string M, .string T, .int .i64 k, .slice p n c]] w fun e w' => e = .returned (.tuple #[frmV (frmF k fs 0).1, errOf (frmF k fs 0).2]) ∧ Below w.heap.size w w' := by
  obtain ⟨mm, hmm⟩ := hmx
  have HT := hid (show ∀ W : World, Below w.heap.size w W → _ from fun W hb => ptoldW k 0 fs p n c hn W (hF.next hb) hsz hnn hS ⟨mm, cell_keep hb hmm⟩)
  obtain ⟨⟨⟨K, N⟩, E⟩, hE⟩ : ∃ x, frmF k fs 0 = x := ⟨_, rfl⟩
  rw [hE] at HT ⊢
  dsimp only [frmV] at HT ⊢
  have HX0 := hid (BoxF.new2 w (.cells #[.string M, .string T, .int .i64 k, .slice p n c] 52 (0, 0)))
  obtain ⟨V, hV⟩ : ∃ V : Value, errOf E = V := ⟨_, rfl⟩
  rw [hV] at HT ⊢
  clear hE hF hsz hn hV hS
  clear hmm
  go_enter Tryd.func27, Tryd.ntmps27
  go_wp2_with (go_at_call 54; (with_reducible refine (HT.out _ HX0.out.low).mono ?_); rintro e w1 ⟨rfl, hb⟩; have HX1 := hid (HX0.out.next hb); obtain ⟨y0, y1, z0, z1⟩ := cells2 HX1.out.blk; clear hb HT)
  (try simp only [Exit.inBlock, Exit.then])
  refine bodyPost_ret (results_frm rfl _ _ _ 34 _ (0, 0) rfl (twoC HX1.out.blk _ _) rfl) rfl ?_
  exact ⟨rfl, below_twoG HX1.out.low (Nat.le_succ _) _ _⟩
set_option maxRecDepth 20000 in
set_option maxHeartbeats 8000000 in
theorem presponseW (m : ByteArray) (s : Int) (T : ByteArray) (k : Int) (fs : List (B × B)) (p : Option Addr) (n c : Nat) (hn : fs.length = n) (w : World) (hF : FAt w p fs) (hsz : szV fs) (hnn : n ≤ 4398046511104) (hS : Small fs) (hmx : ∃ m : Int, w.cell? ⟨2, 0, none⟩ = some (.int .i64 m)) :
    Calls Tryd.prog 29 #[.string m, .agg #[.int .i64 s, .string T, .int .i64 k, .slice p n c]] w fun e w' => e = .returned (.tuple #[frmV (rspF m s k fs).1, errOf (rspF m s k fs).2]) ∧ Below w.heap.size w w' := by
  obtain ⟨mm, hmm⟩ := hmx
  have HT := hid (show ∀ W : World, Below w.heap.size w W → _ from fun W hb => ptoldW k 3 fs p n c hn W (hF.next hb) hsz hnn hS ⟨mm, cell_keep hb hmm⟩)
  have HX0 := hid (BoxF.new2 w (.cells #[.int .i64 s, .string T, .int .i64 k, .slice p n c] 54 (0, 0)))
  obtain ⟨⟨⟨K, N⟩, E⟩, hE⟩ : ∃ x, frmF k fs 3 = x := ⟨_, rfl⟩
  rw [hE] at HT
  dsimp only [frmV] at HT
  have hR : rspF m s k fs = if m = headB ∨ bodyB s = true then ((0, 0), 0) else ((K, N), E) := by unfold rspF; rw [hE]
  obtain ⟨R, hRR⟩ : ∃ R, rspF m s k fs = R := ⟨_, rfl⟩
  rw [hRR] at hR ⊢
  have HR := hid hR
  clear hE hF hsz hn hR hRR hS
  clear hmm
  by_cases hm : m = headB
  · subst hm
    unfold headB at HR ⊢
    have HRR := hid (show R = ((0, 0), 0) from by rw [HR.out]; rw [if_pos (.inl rfl)])
    rw [HRR.out]
    go_enter Tryd.func29, Tryd.ntmps29
    go_wp2
    (try simp only [Exit.inBlock, Exit.then])
    refine bodyPost_ret (results_frm rfl _ _ _ 34 _ (0, 0) rfl HX0.out.blk rfl) rfl ?_
    exact ⟨rfl, HX0.out.low⟩
  have hm1 : (m.toList == (⟨#[72, 69, 65, 68]⟩ : ByteArray).toList) = false := ne_list hm
  have hm2 : (m.toList == [72, 69, 65, 68]) = false := by
    have h := hm1
    rw [ByteArray.toList_eq, ByteArray.toList_eq] at h
    rw [ByteArray.toList_eq]
    exact h
  have HBd := hid (show ∀ W : World, _ from fun W => bodyless_any s W)
  have HMm := hid hm
  clear hm
  cases hB : bodyB s with
  | true =>
    rw [hB] at HBd
    have HRR := hid (show R = ((0, 0), 0) from by rw [HR.out]; rw [if_pos (.inr hB)])
    rw [HRR.out]
    go_enter Tryd.func29, Tryd.ntmps29
    go_wp2_with (first | (go_at_call 56; (with_reducible refine (HBd.out _).mono ?_); rintro e w9 ⟨rfl, hw9⟩; subst w9))
    (try simp only [Exit.inBlock, Exit.then])
    refine bodyPost_ret (results_frm rfl _ _ _ 34 _ (0, 0) rfl HX0.out.blk rfl) rfl ?_
    exact ⟨rfl, HX0.out.low⟩
  | false =>
    rw [hB] at HBd
    have HRR := hid (show R = ((K, N), E) from by rw [HR.out]; rw [if_neg (fun h => h.elim HMm.out (fun h2 => by rw [hB] at h2; cases h2))])
    obtain ⟨V, hV⟩ : ∃ V : Value, errOf E = V := ⟨_, rfl⟩
    rw [HRR.out]
    dsimp only [frmV]
    rw [hV] at HT ⊢
    clear hV
    go_enter Tryd.func29, Tryd.ntmps29
    go_wp2_with (first | (go_at_call 56; (with_reducible refine (HBd.out _).mono ?_); rintro e w9 ⟨rfl, hw9⟩; subst w9) | (go_at_call 54; (with_reducible refine (HT.out _ HX0.out.low).mono ?_); rintro e w1 ⟨rfl, hb⟩; have HX1 := hid (HX0.out.next hb); obtain ⟨y0, y1, z0, z1⟩ := cells2 HX1.out.blk; clear hb HT))
    (try simp only [Exit.inBlock, Exit.then])
    refine bodyPost_ret (results_frm rfl _ _ _ 34 _ (0, 0) rfl (twoC HX1.out.blk _ _) rfl) rfl ?_
    exact ⟨rfl, below_twoG HX1.out.low (Nat.le_succ _) _ _⟩
end Go.Proofs.YthakldcfpndabaaDoor
