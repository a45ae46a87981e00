/- The only value of a name; whether a list of it has an element; on both sides. -/
import Derived.Test.YthakldcfpndabaaGreatDoorHVals
namespace Go.Proofs.YthakldcfpndabaaGreatDoor
open Go.RowKit

def oneB (L : List ByteArray) : ByteArray × Nat := match L with | [] => (⟨#[]⟩, 8) | [x] => (x, 0) | _ => (⟨#[]⟩, 6)
def hasB (L : List ByteArray) (el : ByteArray) : Bool := L.any (fun v => (listS v).any (fun x => sameB x el))
theorem row_see {W : World} {b : Nat} {v : Value} {L : List ByteArray} (h : RowB W b v L) (n : Nat) (hn : L.length = n) : ∃ q d, v = .slice q n d ∧ ∀ j x, L[j]? = some x → ∃ g, q = some ⟨g, 0, none⟩ ∧ W.cell? ⟨g, j, none⟩ = some (.string x) := by
  unfold RowB at h
  by_cases h0 : 0 < L.length
  · obtain ⟨g, cap, e, hc⟩ := own_cellL h h0
    exact ⟨_, cap, by rw [e, hn], fun j x hj => ⟨g, rfl, hc j x hj⟩⟩
  · obtain ⟨q, d, e⟩ := own_slice h
    refine ⟨q, d, by rw [e, hn], fun j x hj => ?_⟩
    have := (List.getElem?_eq_some_iff.1 hj).1
    omega
theorem cutL_many : ∀ l : List UInt8, (cutL l).length ≤ l.length + 1
  | [] => by simp [cutL]
  | c :: l => by
    have ih := cutL_many l
    unfold cutL
    split
    · simp only [List.length_cons]; omega
    · split
      · simp
      · rename_i h; rw [h] at ih; simp only [List.length_cons] at ih ⊢; omega
theorem trimL_len (l : List UInt8) : (trimL l).length ≤ l.length := by
  unfold trimL
  rw [List.length_reverse]
  refine Nat.le_trans (List.dropWhile_suffix _).length_le ?_
  rw [List.length_reverse]
  exact (List.dropWhile_suffix _).length_le
theorem listS_many (s : ByteArray) : (listS s).length ≤ s.size + 1 := by
  unfold listS listL
  rw [List.length_map]
  refine Nat.le_trans (List.length_filter_le _ _) ?_
  rw [List.length_map]
  exact cutL_many _
theorem listS_small {s x : ByteArray} (h : x ∈ listS s) : x.size ≤ s.size := by
  unfold listS listL at h
  obtain ⟨l, hl, rfl⟩ := List.mem_map.1 h
  obtain ⟨l', hl', rfl⟩ := List.mem_map.1 (List.mem_filter.1 hl).1
  exact Nat.le_trans (trimL_len _) (cutL_len _ _ hl')
theorem vals_small {fs : List (B × B)} {nm x : ByteArray} (hz : szB fs) (h : x ∈ valsB fs nm) : x.size ≤ 1048576 := by
  unfold valsB at h
  obtain ⟨f, hf, rfl⟩ := List.mem_map.1 h
  rw [str_size]
  exact (hz f (List.mem_filter.1 hf).1).2
theorem any_next {α : Type} {L : List α} {f : α → Bool} {i : Nat} {x : α} (h : L[i]? = some x) (h1 : (L.take i).any f = false) (h2 : f x = false) : (L.take (i + 1)).any f = false := by
  rw [List.take_add_one, h, List.any_append, h1]
  simp [h2]
theorem any_here {α : Type} {L : List α} {f : α → Bool} {i : Nat} {x : α} (h : L[i]? = some x) (h2 : f x = true) : L.any f = true := List.any_eq_true.2 ⟨x, List.mem_of_getElem? h, h2⟩
set_option maxRecDepth 20000 in
set_option maxHeartbeats 8000000 in
theorem pone (fs : List (B × B)) (p : Option Addr) (n c : Nat) (hn : fs.length = n) (nm : ByteArray) (w : World) (hF : FAt w p fs) (hsz : szB fs) (hnm : nm.size ≤ 1048576) (hnn : n ≤ 1048576) :
    Calls Tryz.prog 10 #[.slice p n c, .string nm] w fun e w' => e = .returned (.tuple #[.string (oneB (valsB fs nm)).1, errOf (oneB (valsB fs nm)).2]) ∧ Below w.heap.size w w' := by
  have hV0 := pvals fs p n c hn nm w hF hsz hnm hnn
  have HV := hid (show ∀ _ : Unit, _ from fun _ => hV0)
  clear hV0
  obtain ⟨L, hL⟩ : ∃ L, valsB fs nm = L := ⟨_, rfl⟩
  rw [hL] at HV ⊢
  clear hL hF hsz hn
  rcases L with _ | ⟨x, _ | ⟨y, r⟩⟩
  · go_enter Tryz.func10, Tryz.ntmps10
    go_wp2_with (go_at_call 21; (with_reducible refine (HV.out ()).mono ?_); rintro e w1 ⟨v, rfl, ho, hb⟩; obtain ⟨q, d, rfl, hq⟩ := row_see ho 0 rfl;  have HB := hid hb; clear hb ho hq)
    go_ret2
    exact ⟨rfl, HB.out⟩
  · go_enter Tryz.func10, Tryz.ntmps10
    go_wp2_with (go_at_call 21; (with_reducible refine (HV.out ()).mono ?_); rintro e w1 ⟨v, rfl, ho, hb⟩; obtain ⟨q, d, rfl, hq⟩ := row_see ho 1 rfl; obtain ⟨g, rfl, x0⟩ := hq 0 x rfl; have HB := hid hb; clear hb ho hq)
    go_ret2
    exact ⟨rfl, HB.out⟩
  · obtain ⟨k, hk⟩ : ∃ k, (x :: y :: r).length = k := ⟨_, rfl⟩
    have HK := hid hk
    have h2 : 2 ≤ k := by rw [← hk]; simp
    have hk0 : ((k : Int) == 0) = false := by simp; omega
    have hk1 : ((k : Int) == 1) = false := by simp; omega
    have hk2 : ¬ (k : Int) = 0 := by omega
    have hk3 : ¬ (k : Int) = 1 := by omega
    have HR := hid (show oneB (x :: y :: r) = (⟨#[]⟩, 6) from rfl)
    rw [HR.out]
    clear hk
    go_enter Tryz.func10, Tryz.ntmps10
    go_wp2_with (go_at_call 21; (with_reducible refine (HV.out ()).mono ?_); rintro e w1 ⟨v, rfl, ho, hb⟩; obtain ⟨q, d, rfl, hq⟩ := row_see ho k HK.out;  have HB := hid hb; clear hb ho hq)
    go_ret2
    exact ⟨rfl, HB.out⟩
set_option maxRecDepth 20000 in
set_option maxHeartbeats 8000000 in
theorem done_ (fs : List (B × B)) (p : Option Addr) (n c : Nat) (hn : fs.length = n) (nm : ByteArray) (w : World) (hF : FAt w p fs) (hsz : szB fs) (hnm : nm.size ≤ 1048576) (hnn : n ≤ 1048576) :
    Calls Tryz.prog 14 #[.slice p n c, .string nm] w fun e w' => e = .returned (.tuple #[.string (oneB (valsB fs nm)).1, .int .i64 ((oneB (valsB fs nm)).2 : Int)]) ∧ Below w.heap.size w w' := by
  have hV0 := dvals fs p n c hn nm w hF hsz hnm hnn
  have HV := hid (show ∀ _ : Unit, _ from fun _ => hV0)
  clear hV0
  obtain ⟨L, hL⟩ : ∃ L, valsB fs nm = L := ⟨_, rfl⟩
  rw [hL] at HV ⊢
  clear hL hF hsz hn
  rcases L with _ | ⟨x, _ | ⟨y, r⟩⟩
  · go_enter Tryz.func14, Tryz.ntmps14
    go_wp2_with (go_at_call 25; (with_reducible refine (HV.out ()).mono ?_); rintro e w1 ⟨v, rfl, ho, hb⟩; obtain ⟨q, d, rfl, hq⟩ := row_see ho 0 rfl;  have HB := hid hb; clear hb ho hq)
    go_ret2
    exact ⟨rfl, HB.out⟩
  · go_enter Tryz.func14, Tryz.ntmps14
    go_wp2_with (go_at_call 25; (with_reducible refine (HV.out ()).mono ?_); rintro e w1 ⟨v, rfl, ho, hb⟩; obtain ⟨q, d, rfl, hq⟩ := row_see ho 1 rfl; obtain ⟨g, rfl, x0⟩ := hq 0 x rfl; have HB := hid hb; clear hb ho hq)
    go_ret2
    exact ⟨rfl, HB.out⟩
  · obtain ⟨k, hk⟩ : ∃ k, (x :: y :: r).length = k := ⟨_, rfl⟩
    have HK := hid hk
    have h2 : 2 ≤ k := by rw [← hk]; simp
    have hk0 : ((k : Int) == 0) = false := by simp; omega
    have hk1 : ((k : Int) == 1) = false := by simp; omega
    have hk2 : ¬ (k : Int) = 0 := by omega
    have hk3 : ¬ (k : Int) = 1 := by omega
    have HR := hid (show oneB (x :: y :: r) = (⟨#[]⟩, 6) from rfl)
    rw [HR.out]
    clear hk
    go_enter Tryz.func14, Tryz.ntmps14
    go_wp2_with (go_at_call 25; (with_reducible refine (HV.out ()).mono ?_); rintro e w1 ⟨v, rfl, ho, hb⟩; obtain ⟨q, d, rfl, hq⟩ := row_see ho k HK.out;  have HB := hid hb; clear hb ho hq)
    go_ret2
    exact ⟨rfl, HB.out⟩
set_option maxRecDepth 20000 in
set_option maxHeartbeats 8000000 in
theorem phas (fs : List (B × B)) (p : Option Addr) (n c : Nat) (hn : fs.length = n) (nm el : ByteArray) (w : World) (hF : FAt w p fs) (hsz : szB fs) (hnm : nm.size ≤ 1048576) (hnn : n ≤ 1048576) (hel : el.size ≤ 1048576) (hmx : ∃ m : Int, w.cell? ⟨1, 0, none⟩ = some (.int .i64 m)) :
    Calls Tryz.prog 18 #[.slice p n c, .string nm, .string el] w fun e w' => e = .returned (.bool (hasB (valsB fs nm) el)) ∧ Below w.heap.size w w' := by
  have hV0 := pvals fs p n c hn nm w hF hsz hnm hnn
  have HV := hid (show ∀ _ : Unit, _ from fun _ => hV0)
  have HZ := hid (show ∀ x ∈ valsB fs nm, x.size ≤ 1048576 from fun x hx => vals_small hsz hx)
  have hLn : (valsB fs nm).length ≤ 1048576 := Nat.le_trans (vals_le fs nm) (by omega)
  clear hV0
  obtain ⟨L, hL⟩ : ∃ L, valsB fs nm = L := ⟨_, rfl⟩
  rw [hL] at HV HZ hLn ⊢
  clear hL hF hsz hn
  obtain ⟨k, hk⟩ : ∃ k, L.length = k := ⟨_, rfl⟩
  rw [hk] at hLn
  have HK := hid hk
  obtain ⟨mm, hmm⟩ := hmx
  have HM := hid hmm
  clear hmm
  obtain ⟨R, hR⟩ : ∃ R, hasB L el = R := ⟨_, rfl⟩
  have HR := hid hR
  rw [hR]
  clear hk hR
  go_enter Tryz.func18, Tryz.ntmps18
  go_wp2_with (go_at_call 21; (with_reducible refine (HV.out ()).mono ?_); rintro e w1 ⟨v, rfl, ho, hb⟩; obtain ⟨q, d, rfl, hq⟩ := row_see ho k HK.out; have HB1 := hid hb; have HQ := hid hq; clear hb ho hq HV)
  go_loopg [15] (k + 1) (fun gk s wr => ∃ i : Nat, s = .int .i64 (i : Int) ∧ i ≤ k ∧ gk = k - i + 1 ∧ Below w1.heap.size w1 wr ∧ hasB (L.take i) el = false)
  case atStart => exact ⟨0, rfl, by omega, rfl, Below.refl _ _, rfl⟩
  case round =>
    obtain ⟨i, rfl, hin, rfl, hb, hh⟩ := hrel
    have HB := hid hb
    have HH := hid hh
    clear hb hh
    by_cases hlt : i < k
    · obtain ⟨x, hx⟩ : ∃ x, L[i]? = some x := ⟨L[i]'(by rw [HK.out]; exact hlt), List.getElem?_eq_getElem (by rw [HK.out]; exact hlt)⟩
      have hxs := HZ.out x (List.mem_of_getElem? hx)
      obtain ⟨g, hq, hc1⟩ := HQ.out i x hx
      subst hq
      have hc := cell_keep HB.out hc1
      have hltI : (i : Int) < (k : Int) := by omega
      have HX := hid hx
      have HLi := hid (list_any x mm wr (by omega) (cell_keep (below_out HB1.out HB.out) HM.out))
      have HZ2 := hid (show ∀ y ∈ listS x, y.size ≤ 1048576 from fun y hy => Nat.le_trans (listS_small hy) hxs)
      have hJn : (listS x).length ≤ 1048577 := Nat.le_trans (listS_many x) (by omega)
      obtain ⟨J, hJ⟩ : ∃ J, listS x = J := ⟨_, rfl⟩
      have HJ := hid hJ
      rw [hJ] at HLi HZ2 hJn
      obtain ⟨n2, hn2⟩ : ∃ n2, J.length = n2 := ⟨_, rfl⟩
      rw [hn2] at hJn
      have HN2 := hid hn2
      clear hx hc1 hJ hn2
      go_wp2_with (go_at_call 31; (with_reducible refine HLi.out.mono ?_); rintro e w2 ⟨v, rfl, ho, hb⟩; obtain ⟨q2, d2, rfl, hq2⟩ := row_see ho n2 HN2.out; have HB2 := hid hb; have HQ2 := hid hq2; clear hb ho hq2 hc HLi)
      go_loopg [22] (n2 + 1) (fun gk s wr2 => ∃ j : Nat, s = .int .i64 (j : Int) ∧ j ≤ n2 ∧ gk = n2 - j + 1 ∧ Below w2.heap.size w2 wr2 ∧ (J.take j).any (fun y => sameB y el) = false)
      case atStart => exact ⟨0, rfl, by omega, rfl, Below.refl _ _, rfl⟩
      case round =>
        obtain ⟨j, rfl, hjn, rfl, hb, hh⟩ := hrel
        rename World => wv
        have HB3 := hid hb
        have HH3 := hid hh
        have HBa := hid (show Below w.heap.size w wv from below_out (below_out (below_out HB1.out HB.out) HB2.out) hb)
        clear hb hh
        by_cases hlt2 : j < n2
        · obtain ⟨y, hy⟩ : ∃ y, J[j]? = some y := ⟨J[j]'(by rw [HN2.out]; exact hlt2), List.getElem?_eq_getElem (by rw [HN2.out]; exact hlt2)⟩
          have hys := HZ2.out y (List.mem_of_getElem? hy)
          obtain ⟨g2, hq2, hc2⟩ := HQ2.out j y hy
          subst hq2
          have hc := cell_keep HB3.out hc2
          have hltI2 : (j : Int) < (n2 : Int) := by omega
          have HSm := hid (show ∀ W : World, _ from fun W => same_bel y el W (by omega) (by omega))
          cases hS : sameB y el with
          | true =>
            have HT := hid (show R = true from by rw [← HR.out]; exact any_here HX.out (by rw [HJ.out]; exact any_here hy hS))
            rw [hS] at HSm
            clear hy hS hc2
            go_wp2_with (go_at_call 32; (with_reducible refine (HSm.out _).mono ?_); rintro e w5 ⟨rfl, hb⟩; have HB5 := hid (below_out HBa.out hb); clear hb HSm)
            (try simp only [Exit.inBlock, Exit.then])
            go_ret
            exact ⟨(by rw [HT.out]; rfl), HB5.out⟩
          | false =>
            have HT := hid (any_next (f := fun y => sameB y el) hy HH3.out hS)
            rw [hS] at HSm
            clear hy hS hc2
            go_wp2_with (go_at_call 32; (with_reducible refine (HSm.out _).mono ?_); rintro e w5 ⟨rfl, hb⟩; have HB5 := hid (below_out HB3.out hb); clear hb HSm)
            go_roundg (n2 - (j + 1) + 1)
            case measure => omega
            case rel => exact ⟨j + 1, by go_num, by omega, rfl, HB5.out, HT.out⟩
        · obtain rfl : j = n2 := by omega
          have hltI2 : ¬ (j : Int) < (j : Int) := by omega
          have HT := hid (show (fun v => (listS v).any (fun y => sameB y el)) x = false from by
            have h9 := HH3.out
            rw [List.take_of_length_le (by rw [HN2.out]; exact Nat.le_refl _)] at h9
            show (listS x).any _ = false
            rw [HJ.out]; exact h9)
          have HT2 := hid (any_next (f := fun v => (listS v).any (fun y => sameB y el)) HX.out HH.out HT.out)
          clear hlt2
          go_wp2
          go_roundg (k - (i + 1) + 1)
          case measure => omega
          case rel => exact ⟨i + 1, by go_num, by omega, rfl, below_out (below_out HB.out HB2.out) HB3.out, HT2.out⟩
    · obtain rfl : i = k := by omega
      have hltI : ¬ (i : Int) < (i : Int) := by omega
      have HT := hid (show R = false from by
        have h9 := HH.out
        rw [List.take_of_length_le (by rw [HK.out]; exact Nat.le_refl _)] at h9
        rw [← HR.out]; exact h9)
      clear hlt
      go_wp2
      go_ret
      exact ⟨(by rw [HT.out]; rfl), below_out HB1.out HB.out⟩
set_option maxRecDepth 20000 in
set_option maxHeartbeats 8000000 in
theorem dhas (fs : List (B × B)) (p : Option Addr) (n c : Nat) (hn : fs.length = n) (nm el : ByteArray) (w : World) (hF : FAt w p fs) (hsz : szB fs) (hnm : nm.size ≤ 1048576) (hnn : n ≤ 1048576) (hel : el.size ≤ 1048576) :
    Calls Tryz.prog 19 #[.slice p n c, .string nm, .string el] w fun e w' => e = .returned (.bool (hasB (valsB fs nm) el)) ∧ Below w.heap.size w w' := by
  have hV0 := dvals fs p n c hn nm w hF hsz hnm hnn
  have HV := hid (show ∀ _ : Unit, _ from fun _ => hV0)
  have HZ := hid (show ∀ x ∈ valsB fs nm, x.size ≤ 1048576 from fun x hx => vals_small hsz hx)
  have hLn : (valsB fs nm).length ≤ 1048576 := Nat.le_trans (vals_le fs nm) (by omega)
  clear hV0
  obtain ⟨L, hL⟩ : ∃ L, valsB fs nm = L := ⟨_, rfl⟩
  rw [hL] at HV HZ hLn ⊢
  clear hL hF hsz hn
  obtain ⟨k, hk⟩ : ∃ k, L.length = k := ⟨_, rfl⟩
  rw [hk] at hLn
  have HK := hid hk
  obtain ⟨R, hR⟩ : ∃ R, hasB L el = R := ⟨_, rfl⟩
  have HR := hid hR
  rw [hR]
  clear hk hR
  go_enter Tryz.func19, Tryz.ntmps19
  go_wp2_with (go_at_call 25; (with_reducible refine (HV.out ()).mono ?_); rintro e w1 ⟨v, rfl, ho, hb⟩; obtain ⟨q, d, rfl, hq⟩ := row_see ho k HK.out; have HB1 := hid hb; have HQ := hid hq; clear hb ho hq HV)
  go_loopg [8] (k + 1) (fun gk s wr => ∃ i : Nat, s = .int .i64 (i : Int) ∧ i ≤ k ∧ gk = k - i + 1 ∧ Below w1.heap.size w1 wr ∧ hasB (L.take i) el = false)
  case atStart => exact ⟨0, rfl, by omega, rfl, Below.refl _ _, rfl⟩
  case round =>
    obtain ⟨i, rfl, hin, rfl, hb, hh⟩ := hrel
    have HB := hid hb
    have HH := hid hh
    clear hb hh
    by_cases hlt : i < k
    · obtain ⟨x, hx⟩ : ∃ x, L[i]? = some x := ⟨L[i]'(by rw [HK.out]; exact hlt), List.getElem?_eq_getElem (by rw [HK.out]; exact hlt)⟩
      have hxs := HZ.out x (List.mem_of_getElem? hx)
      obtain ⟨g, hq, hc1⟩ := HQ.out i x hx
      subst hq
      have hc := cell_keep HB.out hc1
      have hltI : (i : Int) < (k : Int) := by omega
      have HX := hid hx
      have HLi := hid (rlist_any x wr (by omega))
      have HZ2 := hid (show ∀ y ∈ listS x, y.size ≤ 1048576 from fun y hy => Nat.le_trans (listS_small hy) hxs)
      have hJn : (listS x).length ≤ 1048577 := Nat.le_trans (listS_many x) (by omega)
      obtain ⟨J, hJ⟩ : ∃ J, listS x = J := ⟨_, rfl⟩
      have HJ := hid hJ
      rw [hJ] at HLi HZ2 hJn
      obtain ⟨n2, hn2⟩ : ∃ n2, J.length = n2 := ⟨_, rfl⟩
      rw [hn2] at hJn
      have HN2 := hid hn2
      clear hx hc1 hJ hn2
      go_wp2_with (go_at_call 33; (with_reducible refine HLi.out.mono ?_); rintro e w2 ⟨v, rfl, ho, hb⟩; obtain ⟨q2, d2, rfl, hq2⟩ := row_see ho n2 HN2.out; have HB2 := hid hb; have HQ2 := hid hq2; clear hb ho hq2 hc HLi)
      go_loopg [10] (n2 + 1) (fun gk s wr2 => ∃ j : Nat, s = .int .i64 (j : Int) ∧ j ≤ n2 ∧ gk = n2 - j + 1 ∧ Below w2.heap.size w2 wr2 ∧ (J.take j).any (fun y => sameB y el) = false)
      case atStart => exact ⟨0, rfl, by omega, rfl, Below.refl _ _, rfl⟩
      case round =>
        obtain ⟨j, rfl, hjn, rfl, hb, hh⟩ := hrel
        rename World => wv
        have HB3 := hid hb
        have HH3 := hid hh
        have HBa := hid (show Below w.heap.size w wv from below_out (below_out (below_out HB1.out HB.out) HB2.out) hb)
        clear hb hh
        by_cases hlt2 : j < n2
        · obtain ⟨y, hy⟩ : ∃ y, J[j]? = some y := ⟨J[j]'(by rw [HN2.out]; exact hlt2), List.getElem?_eq_getElem (by rw [HN2.out]; exact hlt2)⟩
          have hys := HZ2.out y (List.mem_of_getElem? hy)
          obtain ⟨g2, hq2, hc2⟩ := HQ2.out j y hy
          subst hq2
          have hc := cell_keep HB3.out hc2
          have hltI2 : (j : Int) < (n2 : Int) := by omega
          have HSm := hid (show ∀ W : World, _ from fun W => rsame_any y el W (by omega) (by omega))
          cases hS : sameB y el with
          | true =>
            have HT := hid (show R = true from by rw [← HR.out]; exact any_here HX.out (by rw [HJ.out]; exact any_here hy hS))
            rw [hS] at HSm
            clear hy hS hc2
            go_wp2_with (go_at_call 34; (with_reducible refine (HSm.out _).mono ?_); rintro e w5 ⟨rfl, hb⟩; have HB5 := hid (below_out HBa.out hb); clear hb HSm)
            (try simp only [Exit.inBlock, Exit.then])
            go_ret
            exact ⟨(by rw [HT.out]; rfl), HB5.out⟩
          | false =>
            have HT := hid (any_next (f := fun y => sameB y el) hy HH3.out hS)
            rw [hS] at HSm
            clear hy hS hc2
            go_wp2_with (go_at_call 34; (with_reducible refine (HSm.out _).mono ?_); rintro e w5 ⟨rfl, hb⟩; have HB5 := hid (below_out HB3.out hb); clear hb HSm)
            go_roundg (n2 - (j + 1) + 1)
            case measure => omega
            case rel => exact ⟨j + 1, by go_num, by omega, rfl, HB5.out, HT.out⟩
        · obtain rfl : j = n2 := by omega
          have hltI2 : ¬ (j : Int) < (j : Int) := by omega
          have HT := hid (show (fun v => (listS v).any (fun y => sameB y el)) x = false from by
            have h9 := HH3.out
            rw [List.take_of_length_le (by rw [HN2.out]; exact Nat.le_refl _)] at h9
            show (listS x).any _ = false
            rw [HJ.out]; exact h9)
          have HT2 := hid (any_next (f := fun v => (listS v).any (fun y => sameB y el)) HX.out HH.out HT.out)
          clear hlt2
          go_wp2
          go_roundg (k - (i + 1) + 1)
          case measure => omega
          case rel => exact ⟨i + 1, by go_num, by omega, rfl, below_out (below_out HB.out HB2.out) HB3.out, HT2.out⟩
    · obtain rfl : i = k := by omega
      have hltI : ¬ (i : Int) < (i : Int) := by omega
      have HT := hid (show R = false from by
        have h9 := HH.out
        rw [List.take_of_length_le (by rw [HK.out]; exact Nat.le_refl _)] at h9
        rw [← HR.out]; exact h9)
      clear hlt
      go_wp2
      go_ret
      exact ⟨(by rw [HT.out]; rfl), below_out HB1.out HB.out⟩
end Go.Proofs.YthakldcfpndabaaGreatDoor
