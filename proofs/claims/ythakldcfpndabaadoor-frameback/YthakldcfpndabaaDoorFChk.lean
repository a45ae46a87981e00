/- Whether the one coding is chunked, on both sides. -/
import Derived.Test.YthakldcfpndabaaDoorFPlain
import Derived.Maps.AppendAt
import Derived.Laws.AppendOwnNone
namespace Go.Proofs.YthakldcfpndabaaDoor
open Go.RowKit

theorem els_take {L : List ByteArray} {i : Nat} {x : ByteArray} (h : L[i]? = some x) : elsB (L.take (i + 1)) = elsB (L.take i) ++ listS x := by
  unfold elsB
  rw [List.take_add_one, h, List.flatMap_append]
  simp
theorem els_mem {L : List ByteArray} {i : Nat} {x y : ByteArray} (h : L[i]? = some x) (hy : y ∈ listS x) : y ∈ elsB L := List.mem_flatMap.2 ⟨x, List.mem_of_getElem? h, hy⟩
theorem take_mem {J : List ByteArray} {j : Nat} {y : ByteArray} (h : J[j]? = some y) : J.take (j + 1) = J.take j ++ [y] := by rw [List.take_add_one, h]; rfl
def allC (E : List ByteArray) : Prop := ∀ x ∈ E, sameB x chN = true
theorem allC_snoc {E : List ByteArray} {y : ByteArray} (h : allC E) (hy : sameB y chN = true) : allC (E ++ [y]) := by
  intro x hx
  rcases List.mem_append.1 hx with h1 | h1
  · exact h x h1
  · simp at h1; rw [h1]; exact hy
theorem els_few {L : List ByteArray} {i : Nat} (hz : ∀ v ∈ L, v.size ≤ 1048576) (hi : i ≤ 1048576) : (elsB (L.take i)).length ≤ 1099512676352 := by
  refine Nat.le_trans (elsB_len _ (fun v hv => hz v (List.mem_of_mem_take hv))) ?_
  have : (L.take i).length ≤ 1048576 := Nat.le_trans (by rw [List.length_take]; omega) hi
  omega
set_option maxRecDepth 20000 in
set_option maxHeartbeats 8000000 in
theorem onlychunked (L : List ByteArray) (q : Option Addr) (k d : Nat) (hk : L.length = k) (w : World) (hq : ∀ j x, L[j]? = some x → ∃ g, q = some ⟨g, 0, none⟩ ∧ w.cell? ⟨g, j, none⟩ = some (.string x)) (hz : ∀ x ∈ L, x.size ≤ 1048576) (hkk : k ≤ 1048576) (hmx : ∃ m : Int, w.cell? ⟨2, 0, none⟩ = some (.int .i64 m)) :
    Calls Tryd.prog 47 #[.slice q k d] w fun e w' => e = .returned (.bool (chkB L)) ∧ Below w.heap.size w w' := by
  obtain ⟨mm, hmm⟩ := hmx
  have HM := hid hmm
  have HK := hid hk
  have HQ := hid hq
  have HZ := hid hz
  obtain ⟨R, hR⟩ : ∃ R, chkB L = R := ⟨_, rfl⟩
  have HR := hid hR
  rw [hR]
  clear hk hR hq hz hmm
  go_enter Tryd.func47, Tryd.ntmps47
  go_wp2
  go_loopg [3, 10] (k + 1) (fun gk s3 s wr => ∃ (i m : Nat), s3 = .int .i64 (m : Int) ∧ s = .int .i64 (i : Int) ∧ i ≤ k ∧ gk = k - i + 1 ∧ Below w.heap.size w wr ∧ m = (elsB (L.take i)).length ∧ allC (elsB (L.take i)))
  case atStart => exact ⟨0, 0, rfl, rfl, by omega, rfl, Below.refl _ _, rfl, fun x hx => by simp [elsB] at hx⟩
  case round =>
    obtain ⟨i, m, rfl, rfl, hin, rfl, hb, hm, hall⟩ := hrel
    rename World => wr
    have HB := hid hb
    have HA := hid hall
    have hmb : m ≤ 1099512676352 := by rw [hm]; exact els_few HZ.out (by omega)
    have HMn := hid hm
    have HMb := hid hmb
    clear hb hall hm hmb
    by_cases hlt : i < k
    · obtain ⟨x, hx⟩ : ∃ x, L[i]? = some x := ⟨L[i]'(by rw [HK.out]; exact hlt), List.getElem?_eq_getElem (by rw [HK.out]; exact hlt)⟩
      have hxs := HZ.out x (List.mem_of_getElem? hx)
      obtain ⟨g, hq, hc1⟩ := HQ.out i x hx
      subst hq
      have hc := cell_keep HB.out hc1
      have hltI : (i : Int) < (k : Int) := by omega
      have HX := hid hx
      have HLi := hid (list_any x mm wr (by omega) (cell_keep HB.out HM.out))
      have HZ2 := hid (show ∀ y ∈ listS x, y.size ≤ 1048576 from fun y hy => Nat.le_trans (listS_small hy) hxs)
      have hJn : (listS x).length ≤ 1048577 := Nat.le_trans (listS_many x) (by omega)
      obtain ⟨J, hJ⟩ : ∃ J, listS x = J := ⟨_, rfl⟩
      have HJ := hid hJ
      rw [hJ] at HLi HZ2 hJn
      obtain ⟨n2, hn2⟩ : ∃ n2, J.length = n2 := ⟨_, rfl⟩
      rw [hn2] at hJn
      have HN2 := hid hn2
      clear hx hc1 hJ hn2
      go_wp2_with (go_at_call 66; (with_reducible refine HLi.out.mono ?_); rintro e w2 ⟨v, rfl, ho, hb⟩; obtain ⟨q2, d2, rfl, hq2⟩ := row_see ho n2 HN2.out; have HB2 := hid hb; have HQ2 := hid hq2; clear hb ho hq2 hc HLi)
      go_loopg [3, 17] (n2 + 1) (fun gk s3 s wr2 => ∃ (j m2 : Nat), s3 = .int .i64 (m2 : Int) ∧ s = .int .i64 (j : Int) ∧ j ≤ n2 ∧ gk = n2 - j + 1 ∧ Below w2.heap.size w2 wr2 ∧ m2 = m + j ∧ allC (elsB (L.take i) ++ J.take j))
      case atStart => exact ⟨0, m, rfl, rfl, by omega, rfl, Below.refl _ _, rfl, (by simpa using HA.out)⟩
      case round =>
        obtain ⟨j, m2, rfl, rfl, hjn, rfl, hb, hm2, hall⟩ := hrel
        rename World => wv
        have HB3 := hid hb
        have HA3 := hid hall
        have HBa := hid (show Below w.heap.size w wv from below_out (below_out HB.out HB2.out) hb)
        have HM2 := hid hm2
        have hm2b : (m2 : Int) ≤ 2199023255552 := by have := HMb.out; omega
        obtain ⟨MB, hMB⟩ : ∃ MB : Int, (2199023255552 : Int) = MB ∧ MB + 1 < 9223372036854775807 := ⟨_, rfl, by decide⟩
        have hm2c : IntKind.i64.wrap ((m2 : Int) + 1) = (m2 : Int) + 1 := by rw [IntKind.wrap_i64]; omega
        clear hb hall hm2 hm2b hMB
        by_cases hlt2 : j < n2
        · obtain ⟨y, hy⟩ : ∃ y, J[j]? = some y := ⟨J[j]'(by rw [HN2.out]; exact hlt2), List.getElem?_eq_getElem (by rw [HN2.out]; exact hlt2)⟩
          have hys := HZ2.out y (List.mem_of_getElem? hy)
          obtain ⟨g2, hq2, hc2⟩ := HQ2.out j y hy
          subst hq2
          have hc := cell_keep HB3.out hc2
          have hltI2 : (j : Int) < (n2 : Int) := by omega
          have HSm := hid (show ∀ W : World, _ from fun W => same_bel y chN W (by omega) (by decide))
          cases hS : sameB y chN with
          | true =>
            have HT := hid (show allC (elsB (L.take i) ++ J.take (j + 1)) from by rw [take_mem hy, ← List.append_assoc]; exact allC_snoc HA3.out hS)
            rw [hS] at HSm
            unfold chN at HSm
            clear hy hS hc2
            go_wp2_with (go_at_call 58; (with_reducible refine (HSm.out _).mono ?_); rintro e w5 ⟨rfl, hb⟩; have HB5 := hid (below_out HB3.out hb); clear hb HSm)
            go_roundg (n2 - (j + 1) + 1)
            case measure => omega
            case rel => exact ⟨j + 1, m2 + 1, by go_num, by go_num, by omega, rfl, HB5.out, by rw [HM2.out]; omega, HT.out⟩
          | false =>
            have HT := hid (show R = false from by rw [← HR.out]; exact chkB_bad (els_mem HX.out (by rw [HJ.out]; exact List.mem_of_getElem? hy)) hS)
            rw [hS] at HSm
            unfold chN at HSm
            clear hy hS hc2
            go_wp2_with (go_at_call 58; (with_reducible refine (HSm.out _).mono ?_); rintro e w5 ⟨rfl, hb⟩; have HB5 := hid (below_out HBa.out hb); clear hb HSm)
            (try simp only [Exit.inBlock, Exit.then])
            go_ret
            exact ⟨(by rw [HT.out]; rfl), HB5.out⟩
        · obtain rfl : j = n2 := by omega
          have hltI2 : ¬ (j : Int) < (j : Int) := by omega
          have HE := hid (els_take HX.out)
          have HT := hid (show allC (elsB (L.take (i + 1))) from by
            rw [HE.out, HJ.out]
            have h9 := HA3.out
            rw [List.take_of_length_le (l := J) (by rw [HN2.out]; exact Nat.le_refl _)] at h9
            exact h9)
          have HC := hid (show m2 = (elsB (L.take (i + 1))).length from by rw [HE.out, HJ.out, List.length_append, HN2.out, ← HMn.out]; exact HM2.out)
          clear hlt2 hm2c
          go_wp2
          go_roundg (k - (i + 1) + 1)
          case measure => omega
          case rel => exact ⟨i + 1, m2, rfl, by go_num, by omega, rfl, below_out (below_out HB.out HB2.out) HB3.out, HC.out, HT.out⟩
    · obtain rfl : i = k := by omega
      have hltI : ¬ (i : Int) < (i : Int) := by omega
      have HT := hid (show R = decide (m = 1) from by
        have h9 := HA.out
        have h8 := HMn.out
        rw [List.take_of_length_le (by rw [HK.out]; exact Nat.le_refl _)] at h9 h8
        rw [← HR.out, chkB_good h9, h8])
      have HD := hid (show ((m : Int) == 1) = decide (m = 1) from by rw [Bool.eq_iff_iff]; simp; omega)
      clear hlt
      go_wp2
      go_ret
      exact ⟨(by rw [HT.out]; exact ret_bool HD.out), HB.out⟩
set_option maxRecDepth 20000 in
set_option maxHeartbeats 8000000 in
theorem pchunked (fs : List (B × B)) (p : Option Addr) (n c : Nat) (hn : fs.length = n) (w : World) (hF : FAt w p fs) (hsz : szB fs) (hnn : n ≤ 1048576) (hmx : ∃ m : Int, w.cell? ⟨2, 0, none⟩ = some (.int .i64 m)) :
    Calls Tryd.prog 20 #[.slice p n c] w fun e w' => e = .returned (.tuple #[.bool (chkF fs).1, errOf (chkF fs).2]) ∧ Below w.heap.size w w' := by
  obtain ⟨mm, hmm⟩ := hmx
  have HV := hid (show ∀ _ : Unit, _ from fun _ => pvals fs p n c hn teN w hF hsz (by decide) hnn)
  have HZ := hid (show ∀ x ∈ valsB fs teN, x.size ≤ 1048576 from fun x hx => vals_small hsz hx)
  have hLn : (valsB fs teN).length ≤ 1048576 := Nat.le_trans (vals_le fs teN) (by omega)
  unfold chkF
  unfold teN at HZ hLn HV ⊢
  obtain ⟨L, hL⟩ : ∃ L, valsB fs ⟨#[84, 114, 97, 110, 115, 102, 101, 114, 45, 69, 110, 99, 111, 100, 105, 110, 103]⟩ = L := ⟨_, rfl⟩
  rw [hL] at HV HZ hLn
  rw [hL]
  have HM := hid hmm
  clear hL hF hsz hn hmm
  obtain ⟨T, hT⟩ : ∃ T, chkT L = T := ⟨_, rfl⟩
  have HT := hid hT.symm
  rw [hT]
  clear hT
  obtain ⟨k, hk⟩ : ∃ k, L.length = k := ⟨_, rfl⟩
  rw [hk] at hLn
  have HK := hid hk
  clear hk
  by_cases hk0 : k = 0
  · subst hk0
    have HX := hid (show T = (false, 0) from by rw [HT.out]; unfold chkT; rw [if_pos (List.length_eq_zero_iff.1 HK.out)])
    go_enter Tryd.func20, Tryd.ntmps20
    go_wp2_with (go_at_call 42; (with_reducible refine (HV.out ()).mono ?_); rintro e w1 ⟨v, rfl, ho, hb⟩; obtain ⟨q, d, rfl, hq⟩ := row_see ho 0 HK.out; have HB1 := hid hb; clear hb ho hq HV)
    go_ret2
    exact ⟨(by rw [HX.out]; rfl), HB1.out⟩
  have hk1 : ¬ (k : Int) = 0 := by omega
  have hk2 : ((k : Int) == 0) = false := by simpa using hk0
  have HNe := hid (show ¬ L = [] from fun e => hk0 (by rw [← HK.out, e]; rfl))
  have HOc := hid (show ∀ (W : World) (q : Option Addr) (d : Nat), Below w.heap.size w W → (∀ j x, L[j]? = some x → ∃ g, q = some ⟨g, 0, none⟩ ∧ W.cell? ⟨g, j, none⟩ = some (.string x)) → _ from fun W q d hb2 hq => onlychunked L q k d HK.out W hq HZ.out hLn ⟨mm, cell_keep hb2 HM.out⟩)
  cases hC : chkB L with
  | true =>
    have HX := hid (show T = (true, 0) from by rw [HT.out]; unfold chkT; rw [if_neg HNe.out, if_pos hC])
    rw [hC] at HOc
    clear hC
    go_enter Tryd.func20, Tryd.ntmps20
    go_wp2_with (first | (go_at_call 42; (with_reducible refine (HV.out ()).mono ?_); rintro e w1 ⟨v, rfl, ho, hb⟩; obtain ⟨q, d, rfl, hq⟩ := row_see ho k HK.out; have HB1 := hid hb; have HQ := hid hq; clear hb ho hq HV) | (go_at_call 47; (with_reducible refine (HOc.out _ _ _ HB1.out HQ.out).mono ?_); rintro e w2 ⟨rfl, hb⟩; have HB2 := hid (below_out HB1.out hb); clear hb HOc))
    go_ret2
    exact ⟨(by rw [HX.out]; rfl), HB2.out⟩
  | false =>
    have HX := hid (show T = (false, 3) from by rw [HT.out]; unfold chkT; rw [if_neg HNe.out, if_neg (by rw [hC]; decide)])
    rw [hC] at HOc
    clear hC
    go_enter Tryd.func20, Tryd.ntmps20
    go_wp2_with (first | (go_at_call 42; (with_reducible refine (HV.out ()).mono ?_); rintro e w1 ⟨v, rfl, ho, hb⟩; obtain ⟨q, d, rfl, hq⟩ := row_see ho k HK.out; have HB1 := hid hb; have HQ := hid hq; clear hb ho hq HV) | (go_at_call 47; (with_reducible refine (HOc.out _ _ _ HB1.out HQ.out).mono ?_); rintro e w2 ⟨rfl, hb⟩; have HB2 := hid (below_out HB1.out hb); clear hb HOc))
    go_ret2
    exact ⟨(by rw [HX.out]; rfl), HB2.out⟩
theorem wpList_append_empty {P : Program} (w : World) {ops : Array Oper} {rest : List Oper} {o : Oper} {a : Act} {Q : Exit → Act → World → Prop} (hgd : o.guard = none) (s x : Operand) (t : TypeId)
    (ho : o.op = .call { callee := .builtin .append, args := #[s, x], argTypes := #[t, t] })
    (base : Nat) (e : TypeId) (i : TypeInfo) (z : Value) (size bytes : Nat) (ht : P.underlying t = some (.slice e)) (hi : P.info? e = some i) (hz : i.zero = some z)
    (hsize : i.size = size) (hby : i.bytes = bytes) (hzs : z.cells.size = size) (hsz : 0 < size)
    (v : Value) (n : Nat) (xs : List Value) (hs : a.eval s = v) (hown : w.ownsRow base e size v n xs)
    (q : Option Addr) (d : Nat) (hx : a.eval x = .slice q 0 d) (hq : (q = none ∧ d = 0) ∨ ∃ ad, q = some ad)
    (h63 : n ≤ maxLen) (hbytes : n * bytes ≤ 140737488355328) (hbase : base ≤ w.heap.size)
    (h : ∀ v' w', w'.ownsRow base e size v' n xs → w.grownBy w' v.ownBlock → wpList P ops Q rest (a.put o.dst v') w') : wpList P ops Q (o :: rest) a w := by
  rcases hq with ⟨rfl, rfl⟩ | ⟨ad, rfl⟩
  · exact wpList_append_own_none hgd s x t ho base e i size ht hi v n xs hs hown hx (h v w hown (World.grownBy.refl w _))
  · refine wpList_append_own_at w hgd s x t ho base e i z size bytes ht hi hz hsize hby hzs hsz v n xs hs hown ad 0 d [] hx (by simp) (fun j u hj => by simp at hj) (fun u hu => by simp at hu) (by simpa using h63) (by simpa using hbytes) hbase ?_
    intro v' w' h1 h2 _ _
    rw [Nat.add_zero, List.append_nil] at h1
    exact h v' w' h1 h2
theorem row_empty {W : World} {b : Nat} {v : Value} (h : RowB W b v []) : ∃ q d, v = .slice q 0 d ∧ ((q = none ∧ d = 0) ∨ ∃ ad, q = some ad) := by
  rcases h.2 with ⟨h1, _⟩ | ⟨g, cap, cur, h1, _⟩
  · exact ⟨none, 0, h1, .inl ⟨rfl, rfl⟩⟩
  · exact ⟨_, _, h1, .inr ⟨_, rfl⟩⟩
theorem row_news {W : World} {b : Nat} {v : Value} {L : List ByteArray} (h : RowB W b v L) (n : Nat) (hn : L.length = n) (h0 : 0 < n) : ∃ g d, v = .slice (some ⟨g, 0, none⟩) n d ∧ ∀ j u, (L.map strVL)[j]? = some u → W.cell? ((⟨g, 0, none⟩ : Addr).add j) = some u := by
  unfold RowB at h
  obtain ⟨g, cap, e, hc⟩ := own_cellL h (by rw [hn]; exact h0)
  refine ⟨g, cap, by rw [e, hn], fun j u hj => ?_⟩
  rw [add_off]
  rw [List.getElem?_map] at hj
  cases hL : L[j]? with
  | none => rw [hL] at hj; cases hj
  | some x =>
    rw [hL] at hj
    simp at hj
    rw [hc j x hL, ← hj]
    rfl
theorem strVL_one (L : List ByteArray) : ∀ u ∈ L.map strVL, u.oneCell' = true := by
  intro u hu
  obtain ⟨x, _, rfl⟩ := List.mem_map.1 hu
  rfl
theorem RowB.app {W : World} {b : Nat} {v : Value} {A J : List ByteArray} {m n2 : Nat} (hm : m = A.length) (hJ : J.length = n2) (h : W.ownsRow b 9 1 v (m + n2) (A.map strVL ++ J.map strVL)) : RowB W b v (A ++ J) := by
  unfold RowB
  rw [List.length_append, ← hm, hJ, List.map_append]
  exact h
theorem app_belowN {w wr w1 : World} {v : Value} {e : TypeId} {b size k : Nat} {xs : List Value} (hbel : Below w.heap.size w wr) (hw : w.heap.size ≤ b) (_hb : b ≤ wr.heap.size) (hown : wr.ownsRow b e size v k xs) (hg : wr.grownBy w1 v.ownBlock) : Below w.heap.size w w1 :=
  hbel.grown hg hbel.size (fun k hk => by have := (hown.lt k hk).1; omega)
set_option maxRecDepth 20000 in
set_option maxHeartbeats 8000000 in
theorem dchunked (fs : List (B × B)) (p : Option Addr) (n c : Nat) (hn : fs.length = n) (w : World) (hF : FAt w p fs) (hsz : szB fs) (hnn : n ≤ 1048576) :
    Calls Tryd.prog 21 #[.slice p n c] w fun e w' => e = .returned (.tuple #[.bool (chkF fs).1, .int .i64 ((chkF fs).2 : Int)]) ∧ Below w.heap.size w w' := by
  obtain ⟨i0, hi, hz0, hz1, hz2⟩ := info_parts info9
  have HV := hid (show ∀ _ : Unit, _ from fun _ => dvals fs p n c hn teN w hF hsz (by decide) hnn)
  have HZ := hid (show ∀ x ∈ valsB fs teN, x.size ≤ 1048576 from fun x hx => vals_small hsz hx)
  have hLn : (valsB fs teN).length ≤ 1048576 := Nat.le_trans (vals_le fs teN) (by omega)
  unfold chkF
  unfold teN at HZ hLn HV ⊢
  obtain ⟨L, hL⟩ : ∃ L, valsB fs ⟨#[84, 114, 97, 110, 115, 102, 101, 114, 45, 69, 110, 99, 111, 100, 105, 110, 103]⟩ = L := ⟨_, rfl⟩
  rw [hL] at HV HZ hLn
  rw [hL]
  clear hL hF hsz hn
  obtain ⟨T, hT⟩ : ∃ T, chkT L = T := ⟨_, rfl⟩
  have HT := hid hT.symm
  rw [hT]
  clear hT
  obtain ⟨k, hk⟩ : ∃ k, L.length = k := ⟨_, rfl⟩
  rw [hk] at hLn
  have HK := hid hk
  clear hk
  by_cases hk0 : k = 0
  · subst hk0
    have HX := hid (show T = (false, 0) from by rw [HT.out]; unfold chkT; rw [if_pos (List.length_eq_zero_iff.1 HK.out)])
    go_enter Tryd.func21, Tryd.ntmps21
    go_wp2_with (go_at_call 44; (with_reducible refine (HV.out ()).mono ?_); rintro e w1 ⟨v, rfl, ho, hb⟩; obtain ⟨q, d, rfl, hq⟩ := row_see ho 0 HK.out; have HB1 := hid hb; clear hb ho hq HV)
    go_ret2
    exact ⟨(by rw [HX.out]; rfl), HB1.out⟩
  have hk1 : ¬ (k : Int) = 0 := by omega
  have hk2 : ((k : Int) == 0) = false := by simpa using hk0
  have HNe := hid (show ¬ L = [] from fun e => hk0 (by rw [← HK.out, e]; rfl))
  go_enter Tryd.func21, Tryd.ntmps21
  go_wp2_with (go_at_call 44; (with_reducible refine (HV.out ()).mono ?_); rintro e w1 ⟨v, rfl, ho, hb⟩; obtain ⟨q, d, rfl, hq⟩ := row_see ho k HK.out; have HB1 := hid hb; have HQ := hid hq; clear hb ho hq HV)
  go_loopg [5, 6] (k + 1) (fun gk s5 s wr => ∃ (i m : Nat) (q5 : Option Addr) (d5 : Nat), s5 = .slice q5 m d5 ∧ s = .int .i64 (i : Int) ∧ i ≤ k ∧ gk = k - i + 1 ∧ Below w1.heap.size w1 wr ∧ m = (elsB (L.take i)).length ∧ RowB wr w1.heap.size (.slice q5 m d5) (elsB (L.take i)))
  case atStart => exact ⟨0, 0, none, 0, rfl, rfl, by omega, rfl, Below.refl _ _, rfl, RowB.nil _ _⟩
  case round =>
    obtain ⟨i, m, q5, d5, rfl, rfl, hin, rfl, hb, hm, hro⟩ := hrel
    rename World => wr
    have HB := hid hb
    have HBa := hid (show Below w.heap.size w wr from below_out HB1.out hb)
    have HR := hid hro
    have hmb : m ≤ 1099512676352 := by rw [hm]; exact els_few HZ.out (by omega)
    have HMn := hid hm
    have HMb := hid hmb
    clear hb hro hm hmb
    by_cases hlt : i < k
    · obtain ⟨x, hx⟩ : ∃ x, L[i]? = some x := ⟨L[i]'(by rw [HK.out]; exact hlt), List.getElem?_eq_getElem (by rw [HK.out]; exact hlt)⟩
      have hxs := HZ.out x (List.mem_of_getElem? hx)
      obtain ⟨g, hq, hc1⟩ := HQ.out i x hx
      subst hq
      have hc := cell_keep HB.out hc1
      have hltI : (i : Int) < (k : Int) := by omega
      have HE := hid (els_take hx)
      have HLi := hid (rlist_any x wr (by omega))
      have hJn : (listS x).length ≤ 1048577 := Nat.le_trans (listS_many x) (by omega)
      obtain ⟨J, hJ⟩ : ∃ J, listS x = J := ⟨_, rfl⟩
      rw [hJ] at HLi hJn HE
      obtain ⟨n2, hn2⟩ : ∃ n2, J.length = n2 := ⟨_, rfl⟩
      rw [hn2] at hJn
      have HN2 := hid hn2
      have HJn := hid hJn
      clear hx hc1 hJ hn2 hJn
      by_cases hn0 : n2 = 0
      · have hJ0 : J = [] := List.length_eq_zero_iff.1 (by rw [HN2.out]; exact hn0)
        subst hJ0
        have HE2 := hid (show elsB (L.take (i + 1)) = elsB (L.take i) from by rw [HE.out, List.append_nil])
        clear hn0
        go_wp2_with (first | (go_at_call 45; (with_reducible refine HLi.out.mono ?_); rintro e w2 ⟨v, rfl, ho, hb⟩; obtain ⟨q2, d2, rfl, hq2⟩ := row_empty ho; have HB2 := hid (below_out HB.out hb); have HQ2 := hid hq2; have HO2 := hid (show w2.ownsRow w1.heap.size 9 1 (.slice q5 m d5) m ((elsB (L.take i)).map strVL) from by have h9 := HR.out.keep hb; unfold RowB at h9; rw [← HMn.out] at h9; exact h9); clear hb ho hq2 hc HLi) | (at_builtin; refine wpList_append_empty _ rfl (.tmp 18) (.tmp 23) 79 rfl w1.heap.size 9 i0 _ 1 16 Tryd.underlying79 hi hz0 hz1 hz2 rfl (by decide) (.slice q5 m d5) m ((elsB (L.take i)).map strVL) (by go_simp) HO2.out q2 d2 (by go_simp) HQ2.out (by have := HMb.out; unfold maxLen; omega) (by have := HMb.out; omega) HB2.out.size ?_; intro v' w4 hown' hgrow; have HB4 := hid (app_belowN HB2.out (Nat.le_refl _) HB2.out.size HO2.out hgrow); obtain ⟨q', d', rfl⟩ := own_slice hown'; have HO4 := hid hown'; clear hown' hgrow))
        go_roundg (k - (i + 1) + 1)
        case measure => omega
        case rel => exact ⟨i + 1, m, q', d', rfl, by go_num, by omega, rfl, HB4.out, (by rw [HE2.out]; exact HMn.out), (by unfold RowB; rw [HE2.out, ← HMn.out]; exact HO4.out)⟩
      · have hn4 : 0 < n2 := by omega
        have HP := hid hn4
        clear hn0 hn4
        go_wp2_with (first | (go_at_call 45; (with_reducible refine HLi.out.mono ?_); rintro e w2 ⟨v, rfl, ho, hb⟩; obtain ⟨g2, d2, rfl, hq2⟩ := row_news ho n2 HN2.out HP.out; have HB2 := hid (below_out HB.out hb); have HQ2 := hid hq2; have HO2 := hid (show w2.ownsRow w1.heap.size 9 1 (.slice q5 m d5) m ((elsB (L.take i)).map strVL) from by have h9 := HR.out.keep hb; unfold RowB at h9; rw [← HMn.out] at h9; exact h9); clear hb ho hq2 hc HLi) | (at_builtin; refine wpList_append_own_at _ rfl (.tmp 18) (.tmp 23) 79 rfl w1.heap.size 9 i0 _ 1 16 Tryd.underlying79 hi hz0 hz1 hz2 rfl (by decide) (.slice q5 m d5) m ((elsB (L.take i)).map strVL) (by go_simp) HO2.out ⟨g2, 0, none⟩ n2 d2 (J.map strVL) (by go_simp) (by rw [List.length_map, HN2.out, Nat.mul_one]) HQ2.out (strVL_one J) (by have := HMb.out; have := HJn.out; unfold maxLen; omega) (by have := HMb.out; have := HJn.out; omega) HB2.out.size ?_; intro v' w4 hown' hgrow _ _; have HB4 := hid (app_belowN HB2.out (Nat.le_refl _) HB2.out.size HO2.out hgrow); obtain ⟨q', d', rfl⟩ := own_slice hown'; have HO4 := hid hown'; clear hown' hgrow))
        go_roundg (k - (i + 1) + 1)
        case measure => omega
        case rel => exact ⟨i + 1, m + n2, q', d', rfl, by go_num, by omega, rfl, HB4.out, (by rw [HE.out, List.length_append, ← HMn.out, HN2.out]), (by rw [HE.out]; exact RowB.app HMn.out HN2.out HO4.out)⟩
    · obtain rfl : i = k := by omega
      have hltI : ¬ (i : Int) < (i : Int) := by omega
      have HTk := hid (show L.take i = L from List.take_of_length_le (by rw [HK.out]; exact Nat.le_refl _))
      have HE := hid (show RowB wr w1.heap.size (.slice q5 m d5) (elsB L) ∧ m = (elsB L).length from ⟨by have h9 := HR.out; rw [HTk.out] at h9; exact h9, by have h9 := HMn.out; rw [HTk.out] at h9; exact h9⟩)
      have HEs := hid (show ∀ x ∈ elsB L, x.size ≤ 1048576 from fun x hx => by
        obtain ⟨v, hv, hx2⟩ := List.mem_flatMap.1 hx
        exact Nat.le_trans (listS_small hx2) (HZ.out v hv))
      obtain ⟨E, hE⟩ : ∃ E, elsB L = E := ⟨_, rfl⟩
      rw [hE] at HE HEs
      have HCh := hid (show T = if chkE E = true then (true, 0) else (false, 3) from by rw [HT.out]; unfold chkT chkB; rw [if_neg HNe.out, hE])
      clear hlt hE HR HMn HMb
      rcases E with _ | ⟨x, _ | ⟨y, r⟩⟩
      · have hm0 : m = 0 := HE.out.2
        subst hm0
        have HX := hid (show T = (false, 3) from by rw [HCh.out]; rfl)
        go_wp2
        go_ret2
        exact ⟨(by rw [HX.out]; rfl), HBa.out⟩
      · have hm0 : m = 1 := HE.out.2
        subst hm0
        have hxs : x.size ≤ 1048576 := HEs.out x (by simp)
        obtain ⟨q6, d6, e6, hq6⟩ := row_see HE.out.1 1 rfl
        obtain ⟨g6, hg6, hc6⟩ := hq6 0 x rfl
        obtain ⟨rfl, _, rfl⟩ : q5 = q6 ∧ 1 = 1 ∧ d5 = d6 := by cases e6; exact ⟨rfl, rfl, rfl⟩
        subst hg6
        have HSm := hid (show ∀ W : World, _ from fun W => rsame_any x chN W (by omega) (by decide))
        unfold chN at HSm
        obtain ⟨S, hS⟩ : ∃ S, sameB x ⟨#[99, 104, 117, 110, 107, 101, 100]⟩ = S := ⟨_, rfl⟩
        rw [hS] at HSm
        have HCS := hid (show T = if S = true then (true, 0) else (false, 3) from by rw [HCh.out, ← hS]; rfl)
        clear hS HCh e6 hq6
        cases S with
        | true =>
          have HX := hid (show T = (true, 0) from HCS.out)
          go_wp2_with (go_at_call 35; (with_reducible refine (HSm.out _).mono ?_); rintro e w5 ⟨rfl, hb⟩; have HB5 := hid (below_out HBa.out hb); clear hb HSm)
          go_ret2
          exact ⟨(by rw [HX.out]; rfl), HB5.out⟩
        | false =>
          have HX := hid (show T = (false, 3) from HCS.out)
          go_wp2_with (go_at_call 35; (with_reducible refine (HSm.out _).mono ?_); rintro e w5 ⟨rfl, hb⟩; have HB5 := hid (below_out HBa.out hb); clear hb HSm)
          go_ret2
          exact ⟨(by rw [HX.out]; rfl), HB5.out⟩
      · have h2 : 2 ≤ m := by rw [HE.out.2]; simp
        have hm1 : ((m : Int) == 1) = false := by simp; omega
        have hm2 : ((m : Int) != 1) = true := by simp; omega
        have hm3 : ¬ (m : Int) = 1 := by omega
        have HX := hid (show T = (false, 3) from by rw [HCh.out]; rfl)
        go_wp2
        go_ret2
        exact ⟨(by rw [HX.out]; rfl), HBa.out⟩
end Go.Proofs.YthakldcfpndabaaDoor
