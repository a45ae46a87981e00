/- The document's answers: whether a value with no parts may be. -/
import Derived.Test.YtkoeihliaandeaaGreatDoorRefD
import Derived.Test.YtkoeihliaandeaaGreatDoorRefM
namespace Go.Proofs.YtkoeihliaandeaaGreatDoor
open Go.RowKit

theorem sameL_nil {ls : List JV} (h : ls.length ≠ 0) : sameL ls [] = false := by
  cases ls with
  | nil => exact absurd rfl h
  | cons x xs => rfl
theorem names_nil {ns : List B} (h : ns.length ≠ 0) : (ns == []) = false := by
  cases ns with
  | nil => exact absurd rfl h
  | cons x xs => rfl
theorem text_nil {t : B} (h : t ≠ []) : (t == []) = false := by simpa using h
/-- A value with no parts, told whether it may be. -/
def ToldSo (f : Bool) (w : World) (e : Ending) (w' : World) : Prop := e = .returned (.tuple #[.bool f, .bool false]) ∧ Below w.heap.size w w'
theorem str_ne {t : B} (h : t ≠ []) : ¬ (⟨#[]⟩ : ByteArray).toList = (str t).toList := fun e => h (by rw [ByteArray.toList_eq, ByteArray.toList_eq] at e; simpa using e.symm)
theorem formed3 {b : Bool} {t : B} {n : Int} {h : Bool} {ls : List JV} {ns : List B} : formed (.mk 3 b t n h ls ns) = (isNum t && sameV (.mk 3 b t n h ls ns) (numV t)) := by
  simp only [formed]
  rw [if_neg (by decide), if_neg (by decide), if_pos trivial]
theorem toList_nil : (⟨#[]⟩ : ByteArray).toList = [] := by rw [ByteArray.toList_eq]
set_option maxRecDepth 20000 in
set_option maxHeartbeats 8000000 in
theorem sound1 (b : Bool) (tx : B) (n : Int) (hh : Bool) (ls : List JV) (ns : List B) (w : World) (cs : List Value) (hv : ValOn w (.mk 1 b tx n hh ls ns) cs) : Calls Tryz.prog 26 #[.agg cs.toArray] w fun e w' => ToldSo (formed (.mk 1 b tx n hh ls ns)) w e w' := by
  obtain ⟨p1, c1, p2, c2, rfl, _, _⟩ := hv.open
  obtain ⟨n1, e1⟩ : ∃ n1, ls.length = n1 := ⟨_, rfl⟩
  obtain ⟨n2, e2⟩ : ∃ n2, ns.length = n2 := ⟨_, rfl⟩
  rw [e1, e2]
  clear hv
  cases b with
  | true =>
    have HR := hid (show formed (.mk 1 true tx n hh ls ns) = false from by simp [formed, sameV])
    rw [HR.out]
    clear e1 e2
    go_enter Tryz.func26, Tryz.ntmps26
    go_wp2
    go_ret2
    refine ⟨rfl, ?_⟩
    repeat refine Below.setCell ?_ (show w.heap.size ≤ w.heap.size + 1 by omega) _
    exact two_box _ _ _
  | false =>
    by_cases ht : tx = []
    case neg =>
      have HR := hid (show formed (.mk 1 false tx n hh ls ns) = false from by simp [formed, sameV, text_nil ht])
      have q1 := str_ne ht
      have q2 : ((⟨#[]⟩ : ByteArray).toList == (str tx).toList) = false := beq_eq_false_iff_ne.2 q1
      rw [toList_nil] at q1 q2
      generalize str tx = TT at q1 q2 ⊢
      rw [HR.out]
      clear e1 e2 ht
      go_enter Tryz.func26, Tryz.ntmps26
      go_wp2
      go_ret2
      refine ⟨rfl, ?_⟩
      repeat refine Below.setCell ?_ (show w.heap.size ≤ w.heap.size + 1 by omega) _
      exact two_box _ _ _
    subst ht
    by_cases hn : n = 0
    case neg =>
      have HR := hid (show formed (.mk 1 false [] n hh ls ns) = false from by simp [formed, sameV, hn])
      have q1 : ((0 : Int) == n) = false := by simp only [beq_eq_false_iff_ne, ne_eq]; omega
      rw [HR.out]
      clear e1 e2 hn
      go_enter Tryz.func26, Tryz.ntmps26
      go_wp2
      go_ret2
      refine ⟨rfl, ?_⟩
      repeat refine Below.setCell ?_ (show w.heap.size ≤ w.heap.size + 1 by omega) _
      exact two_box _ _ _
    subst hn
    cases hh with
    | true =>
      have HR := hid (show formed (.mk 1 false [] 0 true ls ns) = false from by simp [formed, sameV])
      rw [HR.out]
      clear e1 e2
      go_enter Tryz.func26, Tryz.ntmps26
      go_wp2
      go_ret2
      refine ⟨rfl, ?_⟩
      repeat refine Below.setCell ?_ (show w.heap.size ≤ w.heap.size + 1 by omega) _
      exact two_box _ _ _
    | false =>
      by_cases hl : n1 = 0
      case neg =>
        have HR := hid (show formed (.mk 1 false [] 0 false ls ns) = false from by simp [formed, sameV, sameL_nil (show ls.length ≠ 0 by omega)])
        have q1 : ((n1 : Int) == 0) = false := by simp only [beq_eq_false_iff_ne, ne_eq]; omega
        rw [HR.out]
        clear e1 e2 hl
        go_enter Tryz.func26, Tryz.ntmps26
        go_wp2
        go_ret2
        refine ⟨rfl, ?_⟩
        repeat refine Below.setCell ?_ (show w.heap.size ≤ w.heap.size + 1 by omega) _
        exact two_box _ _ _
      by_cases hm : n2 = 0
      case neg =>
        have HR := hid (show formed (.mk 1 false [] 0 false ls ns) = false from by simp [formed, sameV, names_nil (show ns.length ≠ 0 by omega)])
        have q1 : ((n2 : Int) == 0) = false := by simp only [beq_eq_false_iff_ne, ne_eq]; omega
        subst hl
        rw [HR.out]
        clear e1 e2 hm
        go_enter Tryz.func26, Tryz.ntmps26
        go_wp2
        go_ret2
        refine ⟨rfl, ?_⟩
        repeat refine Below.setCell ?_ (show w.heap.size ≤ w.heap.size + 1 by omega) _
        exact two_box _ _ _
      have hls : ls = [] := List.eq_nil_of_length_eq_zero (by omega)
      have hns : ns = [] := List.eq_nil_of_length_eq_zero (by omega)
      subst hls hns hl hm
      have HR := hid (show formed (.mk 1 false [] 0 false [] []) = true from by simp [formed, sameV, sameL])
      rw [HR.out]
      clear e1 e2
      go_enter Tryz.func26, Tryz.ntmps26
      go_wp2
      go_ret2
      refine ⟨rfl, ?_⟩
      repeat refine Below.setCell ?_ (show w.heap.size ≤ w.heap.size + 1 by omega) _
      exact two_box _ _ _
set_option maxRecDepth 20000 in
set_option maxHeartbeats 8000000 in
theorem sound2 (b : Bool) (tx : B) (n : Int) (hh : Bool) (ls : List JV) (ns : List B) (w : World) (cs : List Value) (hv : ValOn w (.mk 2 b tx n hh ls ns) cs) : Calls Tryz.prog 26 #[.agg cs.toArray] w fun e w' => ToldSo (formed (.mk 2 b tx n hh ls ns)) w e w' := by
  obtain ⟨p1, c1, p2, c2, rfl, _, _⟩ := hv.open
  obtain ⟨n1, e1⟩ : ∃ n1, ls.length = n1 := ⟨_, rfl⟩
  obtain ⟨n2, e2⟩ : ∃ n2, ns.length = n2 := ⟨_, rfl⟩
  rw [e1, e2]
  clear hv
  by_cases ht : tx = []
  case neg =>
    have HR := hid (show formed (.mk 2 b tx n hh ls ns) = false from by simp [formed, sameV, text_nil ht])
    have q1 := str_ne ht
    have q2 : ((⟨#[]⟩ : ByteArray).toList == (str tx).toList) = false := beq_eq_false_iff_ne.2 q1
    rw [toList_nil] at q1 q2
    generalize str tx = TT at q1 q2 ⊢
    rw [HR.out]
    clear e1 e2 ht
    go_enter Tryz.func26, Tryz.ntmps26
    go_wp2
    go_ret2
    refine ⟨rfl, ?_⟩
    repeat refine Below.setCell ?_ (show w.heap.size ≤ w.heap.size + 1 by omega) _
    exact two_box _ _ _
  subst ht
  by_cases hn : n = 0
  case neg =>
    have HR := hid (show formed (.mk 2 b [] n hh ls ns) = false from by simp [formed, sameV, hn])
    have q1 : ((0 : Int) == n) = false := by simp only [beq_eq_false_iff_ne, ne_eq]; omega
    rw [HR.out]
    clear e1 e2 hn
    go_enter Tryz.func26, Tryz.ntmps26
    go_wp2
    go_ret2
    refine ⟨rfl, ?_⟩
    repeat refine Below.setCell ?_ (show w.heap.size ≤ w.heap.size + 1 by omega) _
    exact two_box _ _ _
  subst hn
  cases hh with
  | true =>
    have HR := hid (show formed (.mk 2 b [] 0 true ls ns) = false from by simp [formed, sameV])
    rw [HR.out]
    clear e1 e2
    go_enter Tryz.func26, Tryz.ntmps26
    go_wp2
    go_ret2
    refine ⟨rfl, ?_⟩
    repeat refine Below.setCell ?_ (show w.heap.size ≤ w.heap.size + 1 by omega) _
    exact two_box _ _ _
  | false =>
    by_cases hl : n1 = 0
    case neg =>
      have HR := hid (show formed (.mk 2 b [] 0 false ls ns) = false from by simp [formed, sameV, sameL_nil (show ls.length ≠ 0 by omega)])
      have q1 : ((n1 : Int) == 0) = false := by simp only [beq_eq_false_iff_ne, ne_eq]; omega
      rw [HR.out]
      clear e1 e2 hl
      go_enter Tryz.func26, Tryz.ntmps26
      go_wp2
      go_ret2
      refine ⟨rfl, ?_⟩
      repeat refine Below.setCell ?_ (show w.heap.size ≤ w.heap.size + 1 by omega) _
      exact two_box _ _ _
    by_cases hm : n2 = 0
    case neg =>
      have HR := hid (show formed (.mk 2 b [] 0 false ls ns) = false from by simp [formed, sameV, names_nil (show ns.length ≠ 0 by omega)])
      have q1 : ((n2 : Int) == 0) = false := by simp only [beq_eq_false_iff_ne, ne_eq]; omega
      subst hl
      rw [HR.out]
      clear e1 e2 hm
      go_enter Tryz.func26, Tryz.ntmps26
      go_wp2
      go_ret2
      refine ⟨rfl, ?_⟩
      repeat refine Below.setCell ?_ (show w.heap.size ≤ w.heap.size + 1 by omega) _
      exact two_box _ _ _
    have hls : ls = [] := List.eq_nil_of_length_eq_zero (by omega)
    have hns : ns = [] := List.eq_nil_of_length_eq_zero (by omega)
    subst hls hns hl hm
    have HR := hid (show formed (.mk 2 b [] 0 false [] []) = true from by simp [formed, sameV, sameL])
    rw [HR.out]
    clear e1 e2
    go_enter Tryz.func26, Tryz.ntmps26
    go_wp2
    go_ret2
    refine ⟨rfl, ?_⟩
    repeat refine Below.setCell ?_ (show w.heap.size ≤ w.heap.size + 1 by omega) _
    exact two_box _ _ _
set_option maxRecDepth 20000 in
set_option maxHeartbeats 8000000 in
theorem sound4 (b : Bool) (tx : B) (n : Int) (hh : Bool) (ls : List JV) (ns : List B) (w : World) (cs : List Value) (htl : tx.length ≤ 140737488355328) (hv : ValOn w (.mk 4 b tx n hh ls ns) cs) : Calls Tryz.prog 26 #[.agg cs.toArray] w fun e w' => ToldSo (formed (.mk 4 b tx n hh ls ns)) w e w' := by
  obtain ⟨p1, c1, p2, c2, rfl, _, _⟩ := hv.open
  obtain ⟨n1, e1⟩ : ∃ n1, ls.length = n1 := ⟨_, rfl⟩
  obtain ⟨n2, e2⟩ : ∃ n2, ns.length = n2 := ⟨_, rfl⟩
  rw [e1, e2]
  clear hv
  have hU8 := utf8_any (str tx) (by rw [str_size]; omega)
  rw [show (str tx).data.toList = tx from by simp] at hU8
  cases hval : Lib.validD tx with
  | false =>
    have HR := hid (show formed (.mk 4 b tx n hh ls ns) = false from by simp [formed, hval])
    rw [hval] at hU8
    have HU8 := hid hU8
    rw [HR.out]
    clear e1 e2 hval hU8
    go_enter Tryz.func26, Tryz.ntmps26
    go_wp2_with (go_at_call 45; (with_reducible refine (HU8.out _).mono ?_); rintro e w1 ⟨rfl, hw1⟩; have hw2 := hw1.symm; subst hw2; clear hw1)
    go_ret2
    refine ⟨rfl, ?_⟩
    repeat refine Below.setCell ?_ (show w.heap.size ≤ w.heap.size + 1 by omega) _
    exact two_box _ _ _
  | true =>
    rw [hval] at hU8
    have HU8 := hid hU8
    clear hU8
    cases b with
    | true =>
      have HR := hid (show formed (.mk 4 true tx n hh ls ns) = false from by simp [formed, sameV, hval])
      rw [HR.out]
      clear e1 e2
      go_enter Tryz.func26, Tryz.ntmps26
      go_wp2_with (go_at_call 45; (with_reducible refine (HU8.out _).mono ?_); rintro e w1 ⟨rfl, hw1⟩; have hw2 := hw1.symm; subst hw2; clear hw1)
      go_ret2
      refine ⟨rfl, ?_⟩
      repeat refine Below.setCell ?_ (show w.heap.size ≤ w.heap.size + 1 by omega) _
      exact two_box _ _ _
    | false =>
      by_cases hn : n = 0
      case neg =>
        have HR := hid (show formed (.mk 4 false tx n hh ls ns) = false from by simp [formed, sameV, hval, hn])
        have q1 : ((0 : Int) == n) = false := by simp only [beq_eq_false_iff_ne, ne_eq]; omega
        rw [HR.out]
        clear e1 e2 hn
        go_enter Tryz.func26, Tryz.ntmps26
        go_wp2_with (go_at_call 45; (with_reducible refine (HU8.out _).mono ?_); rintro e w1 ⟨rfl, hw1⟩; have hw2 := hw1.symm; subst hw2; clear hw1)
        go_ret2
        refine ⟨rfl, ?_⟩
        repeat refine Below.setCell ?_ (show w.heap.size ≤ w.heap.size + 1 by omega) _
        exact two_box _ _ _
      subst hn
      cases hh with
      | true =>
        have HR := hid (show formed (.mk 4 false tx 0 true ls ns) = false from by simp [formed, sameV, hval])
        rw [HR.out]
        clear e1 e2
        go_enter Tryz.func26, Tryz.ntmps26
        go_wp2_with (go_at_call 45; (with_reducible refine (HU8.out _).mono ?_); rintro e w1 ⟨rfl, hw1⟩; have hw2 := hw1.symm; subst hw2; clear hw1)
        go_ret2
        refine ⟨rfl, ?_⟩
        repeat refine Below.setCell ?_ (show w.heap.size ≤ w.heap.size + 1 by omega) _
        exact two_box _ _ _
      | false =>
        by_cases hl : n1 = 0
        case neg =>
          have HR := hid (show formed (.mk 4 false tx 0 false ls ns) = false from by simp [formed, sameV, hval, sameL_nil (show ls.length ≠ 0 by omega)])
          have q1 : ((n1 : Int) == 0) = false := by simp only [beq_eq_false_iff_ne, ne_eq]; omega
          rw [HR.out]
          clear e1 e2 hl
          go_enter Tryz.func26, Tryz.ntmps26
          go_wp2_with (go_at_call 45; (with_reducible refine (HU8.out _).mono ?_); rintro e w1 ⟨rfl, hw1⟩; have hw2 := hw1.symm; subst hw2; clear hw1)
          go_ret2
          refine ⟨rfl, ?_⟩
          repeat refine Below.setCell ?_ (show w.heap.size ≤ w.heap.size + 1 by omega) _
          exact two_box _ _ _
        by_cases hm : n2 = 0
        case neg =>
          have HR := hid (show formed (.mk 4 false tx 0 false ls ns) = false from by simp [formed, sameV, hval, names_nil (show ns.length ≠ 0 by omega)])
          have q1 : ((n2 : Int) == 0) = false := by simp only [beq_eq_false_iff_ne, ne_eq]; omega
          subst hl
          rw [HR.out]
          clear e1 e2 hm
          go_enter Tryz.func26, Tryz.ntmps26
          go_wp2_with (go_at_call 45; (with_reducible refine (HU8.out _).mono ?_); rintro e w1 ⟨rfl, hw1⟩; have hw2 := hw1.symm; subst hw2; clear hw1)
          go_ret2
          refine ⟨rfl, ?_⟩
          repeat refine Below.setCell ?_ (show w.heap.size ≤ w.heap.size + 1 by omega) _
          exact two_box _ _ _
        have hls : ls = [] := List.eq_nil_of_length_eq_zero (by omega)
        have hns : ns = [] := List.eq_nil_of_length_eq_zero (by omega)
        subst hls hns hl hm
        have HR := hid (show formed (.mk 4 false tx 0 false [] []) = true from by simp [formed, sameV, sameL, hval])
        rw [HR.out]
        clear e1 e2
        go_enter Tryz.func26, Tryz.ntmps26
        go_wp2_with (go_at_call 45; (with_reducible refine (HU8.out _).mono ?_); rintro e w1 ⟨rfl, hw1⟩; have hw2 := hw1.symm; subst hw2; clear hw1)
        go_ret2
        refine ⟨rfl, ?_⟩
        repeat refine Below.setCell ?_ (show w.heap.size ≤ w.heap.size + 1 by omega) _
        exact two_box _ _ _
set_option maxRecDepth 20000 in
set_option maxHeartbeats 8000000 in
theorem sound3 (b : Bool) (tx : B) (n : Int) (hh : Bool) (ls : List JV) (ns : List B) (w : World) (cs : List Value) (htl : tx.length ≤ 140737488355328) (hv : ValOn w (.mk 3 b tx n hh ls ns) cs) : Calls Tryz.prog 26 #[.agg cs.toArray] w fun e w' => ToldSo (formed (.mk 3 b tx n hh ls ns)) w e w' := by
  obtain ⟨p1, c1, p2, c2, rfl, _, _⟩ := hv.open
  obtain ⟨n1, e1⟩ : ∃ n1, ls.length = n1 := ⟨_, rfl⟩
  obtain ⟨n2, e2⟩ : ∃ n2, ns.length = n2 := ⟨_, rfl⟩
  rw [e1, e2]
  clear hv
  have HTl := hid (show (str tx).size ≤ 140737488355328 by rw [str_size]; exact htl)
  have hdt : (str tx).data.toList.drop 0 = tx := by simp
  have hsz : (str tx).size = tx.length := str_size tx
  cases hnu0 : number tx with
  | err k u =>
    have hk := number_err hnu0
    have HNu := hid (show number ((str tx).data.toList.drop 0) = .err k u from by rw [hdt]; exact hnu0)
    have hin : isNum tx = false := by unfold isNum; rw [hnu0]
    have HR := hid (show formed (.mk 3 b tx n hh ls ns) = false from by simp [formed, hin])
    have q1 : ((k : Int) != 0) = true := by simp only [bne_iff_ne, ne_eq]; omega
    rw [HR.out]
    by_cases ht : tx = []
    · have q3 : (str tx).toList = [] := by rw [ht]; exact toList_nil
      have q4 : ((str tx).toList == []) = true := by rw [q3]; rfl
      have q6 : List.isEmpty tx = true := by rw [ht]; rfl
      clear hdt hsz hnu0 hin hk ht q3 q4
      go_enter Tryz.func26, Tryz.ntmps26
      go_wp2_with (go_at_call 37; have hcall : Calls Tryz.prog 37 #[.agg #[.string (str tx), .int .i64 0, .int .i64 0]] ((w.alloc (C7 3 b tx n hh p1 n1 c1 p2 n2 c2)).alloc (.cells #[.int .i64 3, .bool false, .string ⟨#[]⟩, .int .i64 0, .bool false, .slice none 0 0, .slice none 0 0] 25 (0, 0))) _ := rnumber_any (str tx) 0 (Nat.zero_le _) HTl.out _; rw [HNu.out] at hcall; (with_reducible refine hcall.mono ?_); clear hcall; rintro e w1 ⟨P, _, hPs, hdP, rfl, hb⟩; clear hdP; have HBx := hid (two_at (w := w) (o1 := (C7 3 b tx n hh p1 n1 c1 p2 n2 c2)) (o2 := (.cells #[.int .i64 3, .bool false, .string ⟨#[]⟩, .int .i64 0, .bool false, .slice none 0 0, .slice none 0 0] 25 (0, 0))) rfl); have HBy := hid (two_at (w := w1) (o1 := (.cells #[.string (str tx), .int .i64 (P : Int), .int .i64 (k : Int)] 49 (0, 0))) (o2 := (.cells #[.int .i64 0, .bool false, .string ⟨#[]⟩, .int .i64 0, .bool false, .slice none 0 0, .slice none 0 0] 25 (0, 0))) rfl); have HX1 := hid (keep7 (keep7 HBx.out.1 hb) HBy.out.2.2); have HK1 := hid (keep7 (keep7 HBx.out.2.1 hb) HBy.out.2.2); have HB1 := hid (below_out HBx.out.2.2 (below_out hb HBy.out.2.2)); clear hb; obtain ⟨r0, r1, r2, _⟩ := three HBy.out.1; obtain ⟨y0, y1, y2, y3, y4, y5, y6, yz⟩ := seven HBy.out.2.1; have yz0 := yz 0; have yz1 := yz 1; have yz2 := yz 2; have yz3 := yz 3; have yz4 := yz 4; have yz5 := yz 5; have yz6 := yz 6; clear yz; obtain ⟨x0, x1, x2, x3, x4, x5, x6, xz⟩ := seven HX1.out; have xz0 := xz 0; have xz1 := xz 1; have xz2 := xz 2; have xz3 := xz 3; have xz4 := xz 4; have xz5 := xz 5; have xz6 := xz 6; clear xz; obtain ⟨k0, k1, k2, k3, k4, k5, k6, kz⟩ := seven HK1.out; have kz0 := kz 0; have kz1 := kz 1; have kz2 := kz 2; have kz3 := kz 3; have kz4 := kz 4; have kz5 := kz 5; have kz6 := kz 6; clear kz)
      go_ret2
      exact ⟨rfl, HB1.out⟩
    · have q2 := str_ne ht
      rw [toList_nil] at q2
      have q3 : ¬ (str tx).toList = [] := fun e => q2 e.symm
      have q4 : ((str tx).toList == []) = false := beq_eq_false_iff_ne.2 q3
      have q6 : List.isEmpty tx = false := by simpa using ht
      clear hdt hsz hnu0 hin hk q2 q3 q4 ht
      go_enter Tryz.func26, Tryz.ntmps26
      go_wp2_with (go_at_call 37; have hcall : Calls Tryz.prog 37 #[.agg #[.string (str tx), .int .i64 0, .int .i64 0]] ((w.alloc (C7 3 b tx n hh p1 n1 c1 p2 n2 c2)).alloc (.cells #[.int .i64 3, .bool false, .string ⟨#[]⟩, .int .i64 0, .bool false, .slice none 0 0, .slice none 0 0] 25 (0, 0))) _ := rnumber_any (str tx) 0 (Nat.zero_le _) HTl.out _; rw [HNu.out] at hcall; (with_reducible refine hcall.mono ?_); clear hcall; rintro e w1 ⟨P, _, hPs, hdP, rfl, hb⟩; clear hdP; have HBx := hid (two_at (w := w) (o1 := (C7 3 b tx n hh p1 n1 c1 p2 n2 c2)) (o2 := (.cells #[.int .i64 3, .bool false, .string ⟨#[]⟩, .int .i64 0, .bool false, .slice none 0 0, .slice none 0 0] 25 (0, 0))) rfl); have HBy := hid (two_at (w := w1) (o1 := (.cells #[.string (str tx), .int .i64 (P : Int), .int .i64 (k : Int)] 49 (0, 0))) (o2 := (.cells #[.int .i64 0, .bool false, .string ⟨#[]⟩, .int .i64 0, .bool false, .slice none 0 0, .slice none 0 0] 25 (0, 0))) rfl); have HX1 := hid (keep7 (keep7 HBx.out.1 hb) HBy.out.2.2); have HK1 := hid (keep7 (keep7 HBx.out.2.1 hb) HBy.out.2.2); have HB1 := hid (below_out HBx.out.2.2 (below_out hb HBy.out.2.2)); clear hb; obtain ⟨r0, r1, r2, _⟩ := three HBy.out.1; obtain ⟨y0, y1, y2, y3, y4, y5, y6, yz⟩ := seven HBy.out.2.1; have yz0 := yz 0; have yz1 := yz 1; have yz2 := yz 2; have yz3 := yz 3; have yz4 := yz 4; have yz5 := yz 5; have yz6 := yz 6; clear yz; obtain ⟨x0, x1, x2, x3, x4, x5, x6, xz⟩ := seven HX1.out; have xz0 := xz 0; have xz1 := xz 1; have xz2 := xz 2; have xz3 := xz 3; have xz4 := xz 4; have xz5 := xz 5; have xz6 := xz 6; clear xz; obtain ⟨k0, k1, k2, k3, k4, k5, k6, kz⟩ := seven HK1.out; have kz0 := kz 0; have kz1 := kz 1; have kz2 := kz 2; have kz3 := kz 3; have kz4 := kz 4; have kz5 := kz 5; have kz6 := kz 6; clear kz)
      go_ret2
      exact ⟨rfl, HB1.out⟩
  | ok y u =>
    have ht : tx ≠ [] := fun e => by subst e; cases hnu0
    have HNu := hid (show number ((str tx).data.toList.drop 0) = .ok y u from by rw [hdt]; exact hnu0)
    have q2 := str_ne ht
    rw [toList_nil] at q2
    have q3 : ¬ (str tx).toList = [] := fun e => q2 e.symm
    have q4 : ((str tx).toList == []) = false := beq_eq_false_iff_ne.2 q3
    have q7 : List.isEmpty tx = false := by simpa using ht
    clear q2 q3 q4
    by_cases hu : u = []
    case neg =>
      have hin : isNum tx = false := by
        unfold isNum
        rw [hnu0]
        cases u with
        | nil => exact absurd rfl hu
        | cons c t => rfl
      have HR := hid (show formed (.mk 3 b tx n hh ls ns) = false from by simp [formed, hin])
      have HPn := hid (show ∀ P, P ≤ (str tx).size → (str tx).data.toList.drop P = u → ((P : Int) != ((str tx).size : Int)) = true from fun P h1 h2 => by
        simp only [bne_iff_ne, ne_eq]
        intro e
        apply hu
        rw [← h2]
        exact List.drop_of_length_le (show (str tx).size ≤ P by omega))
      rw [HR.out]
      clear hdt hnu0 hin hu ht
      go_enter Tryz.func26, Tryz.ntmps26
      go_wp2_with (go_at_call 37; have hcall : Calls Tryz.prog 37 #[.agg #[.string (str tx), .int .i64 0, .int .i64 0]] ((w.alloc (C7 3 b tx n hh p1 n1 c1 p2 n2 c2)).alloc (.cells #[.int .i64 3, .bool false, .string ⟨#[]⟩, .int .i64 0, .bool false, .slice none 0 0, .slice none 0 0] 25 (0, 0))) _ := rnumber_any (str tx) 0 (Nat.zero_le _) HTl.out _; rw [HNu.out] at hcall; (with_reducible refine hcall.mono ?_); clear hcall; rintro e w1 ⟨P, _, _, hPs, hdP, rfl, hb⟩; have hPn := HPn.out P hPs hdP; obtain ⟨nbb, ni, hnn⟩ : ∃ nbb ni, numN (((str tx).data.toList.drop 0).take (P - 0)) = (nbb, ni) := ⟨_, _, rfl⟩; obtain ⟨SS, hSS⟩ : ∃ SS, (str tx).extract 0 P = SS := ⟨_, rfl⟩; rw [hnn, hSS]; clear hnn hSS hdP; have HBx := hid (two_at (w := w) (o1 := (C7 3 b tx n hh p1 n1 c1 p2 n2 c2)) (o2 := (.cells #[.int .i64 3, .bool false, .string ⟨#[]⟩, .int .i64 0, .bool false, .slice none 0 0, .slice none 0 0] 25 (0, 0))) rfl); have HBy := hid (two_at (w := w1) (o1 := (.cells #[.string (str tx), .int .i64 (P : Int), .int .i64 0] 49 (0, 0))) (o2 := (.cells #[.int .i64 3, .bool false, .string SS, .int .i64 ni, .bool nbb, .slice none 0 0, .slice none 0 0] 25 (0, 0))) rfl); have HX1 := hid (keep7 (keep7 HBx.out.1 hb) HBy.out.2.2); have HK1 := hid (keep7 (keep7 HBx.out.2.1 hb) HBy.out.2.2); have HB1 := hid (below_out HBx.out.2.2 (below_out hb HBy.out.2.2)); clear hb; obtain ⟨r0, r1, r2, _⟩ := three HBy.out.1; obtain ⟨y0, y1, y2, y3, y4, y5, y6, yz⟩ := seven HBy.out.2.1; have yz0 := yz 0; have yz1 := yz 1; have yz2 := yz 2; have yz3 := yz 3; have yz4 := yz 4; have yz5 := yz 5; have yz6 := yz 6; clear yz; obtain ⟨x0, x1, x2, x3, x4, x5, x6, xz⟩ := seven HX1.out; have xz0 := xz 0; have xz1 := xz 1; have xz2 := xz 2; have xz3 := xz 3; have xz4 := xz 4; have xz5 := xz 5; have xz6 := xz 6; clear xz; obtain ⟨k0, k1, k2, k3, k4, k5, k6, kz⟩ := seven HK1.out; have kz0 := kz 0; have kz1 := kz 1; have kz2 := kz 2; have kz3 := kz 3; have kz4 := kz 4; have kz5 := kz 5; have kz6 := kz 6; clear kz)
      go_ret2
      exact ⟨rfl, HB1.out⟩
    subst hu
    have hin : isNum tx = true := by unfold isNum; rw [hnu0]
    have hnv := num_text hin
    obtain ⟨NB, NI, hNN⟩ : ∃ NB NI, numN tx = (NB, NI) := ⟨_, _, rfl⟩
    rw [hNN] at hnv
    have HNN := hid hNN
    have HPe := hid (show ∀ P, P ≤ (str tx).size → (str tx).data.toList.drop P = [] → P = tx.length from fun P h1 h2 => by
      have e := congrArg List.length h2
      rw [List.length_drop] at e
      have : (str tx).data.toList.length = tx.length := by simp
      simp only [List.length_nil] at e
      omega)
    have HExt := hid (show (str tx).extract 0 tx.length = str tx from by
      symm
      apply str_of
      rw [ext_list, hdt]
      simp)
    have HTk := hid (show ((str tx).data.toList.drop 0).take (tx.length - 0) = tx from by rw [hdt]; simp)
    obtain ⟨LL, hLL⟩ : ∃ LL, tx.length = LL := ⟨_, rfl⟩
    rw [hLL] at HPe HExt HTk hsz
    clear hdt hnu0 ht hLL
    cases b with
    | true =>
      have HR := hid (show formed (.mk 3 true tx n hh ls ns) = false from by rw [formed3, hin, hnv, Bool.true_and]; simp [sameV])
      rw [HR.out]
      clear hin hnv e1 e2 htl 
      go_enter Tryz.func26, Tryz.ntmps26
      go_wp2_with (go_at_call 37; have hcall : Calls Tryz.prog 37 #[.agg #[.string (str tx), .int .i64 0, .int .i64 0]] ((w.alloc (C7 3 true tx n hh p1 n1 c1 p2 n2 c2)).alloc (.cells #[.int .i64 3, .bool false, .string ⟨#[]⟩, .int .i64 0, .bool false, .slice none 0 0, .slice none 0 0] 25 (0, 0))) _ := rnumber_any (str tx) 0 (Nat.zero_le _) HTl.out _; rw [HNu.out] at hcall; (with_reducible refine hcall.mono ?_); clear hcall; rintro e w1 ⟨P, _, _, hPs, hdP, rfl, hb⟩; have hPL := (HPe.out P hPs hdP).symm; subst hPL; rw [HTk.out, HNN.out, HExt.out]; clear hdP; have HBx := hid (two_at (w := w) (o1 := (C7 3 true tx n hh p1 n1 c1 p2 n2 c2)) (o2 := (.cells #[.int .i64 3, .bool false, .string ⟨#[]⟩, .int .i64 0, .bool false, .slice none 0 0, .slice none 0 0] 25 (0, 0))) rfl); have HBy := hid (two_at (w := w1) (o1 := (.cells #[.string (str tx), .int .i64 (LL : Int), .int .i64 0] 49 (0, 0))) (o2 := (.cells #[.int .i64 3, .bool false, .string (str tx), .int .i64 NI, .bool NB, .slice none 0 0, .slice none 0 0] 25 (0, 0))) rfl); have HX1 := hid (keep7 (keep7 HBx.out.1 hb) HBy.out.2.2); have HK1 := hid (keep7 (keep7 HBx.out.2.1 hb) HBy.out.2.2); have HB1 := hid (below_out HBx.out.2.2 (below_out hb HBy.out.2.2)); clear hb; obtain ⟨r0, r1, r2, _⟩ := three HBy.out.1; obtain ⟨y0, y1, y2, y3, y4, y5, y6, yz⟩ := seven HBy.out.2.1; have yz0 := yz 0; have yz1 := yz 1; have yz2 := yz 2; have yz3 := yz 3; have yz4 := yz 4; have yz5 := yz 5; have yz6 := yz 6; clear yz; obtain ⟨x0, x1, x2, x3, x4, x5, x6, xz⟩ := seven HX1.out; have xz0 := xz 0; have xz1 := xz 1; have xz2 := xz 2; have xz3 := xz 3; have xz4 := xz 4; have xz5 := xz 5; have xz6 := xz 6; clear xz; obtain ⟨k0, k1, k2, k3, k4, k5, k6, kz⟩ := seven HK1.out; have kz0 := kz 0; have kz1 := kz 1; have kz2 := kz 2; have kz3 := kz 3; have kz4 := kz 4; have kz5 := kz 5; have kz6 := kz 6; clear kz; have HK2 := hid (seven_put (has_seven HK1.out) (.int .i64 3) (.bool false) (.string (str tx)) (.int .i64 NI) (.bool NB) (.slice none 0 0) (.slice none 0 0)); have HX2 := hid ((seven_other (U := ((w1.alloc (.cells #[.string (str tx), .int .i64 (LL : Int), .int .i64 0] 49 (0, 0))).alloc (.cells #[.int .i64 3, .bool false, .string (str tx), .int .i64 NI, .bool NB, .slice none 0 0, .slice none 0 0] 25 (0, 0)))) (show w.heap.size ≠ w.heap.size + 1 by omega) (.int .i64 3) (.bool false) (.string (str tx)) (.int .i64 NI) (.bool NB) (.slice none 0 0) (.slice none 0 0)).trans HX1.out); obtain ⟨s0, s1, s2, s3, s4, s5, s6, _⟩ := seven HK2.out; obtain ⟨t0, t1, t2, t3, t4, t5, t6, _⟩ := seven HX2.out)
      go_ret2
      refine ⟨rfl, ?_⟩
      iterate 7 refine Below.setCell ?_ (show w.heap.size ≤ w.heap.size + 1 by omega) _
      exact HB1.out
    | false =>
      by_cases hn : n = NI
      case neg =>
        have HR := hid (show formed (.mk 3 false tx n hh ls ns) = false from by rw [formed3, hin, hnv, Bool.true_and]; simp [sameV, hn])
        have q6 : (NI == n) = false := by simp only [beq_eq_false_iff_ne, ne_eq]; omega
        rw [HR.out]
        clear hin hnv e1 e2 htl hn
        go_enter Tryz.func26, Tryz.ntmps26
        go_wp2_with (go_at_call 37; have hcall : Calls Tryz.prog 37 #[.agg #[.string (str tx), .int .i64 0, .int .i64 0]] ((w.alloc (C7 3 false tx n hh p1 n1 c1 p2 n2 c2)).alloc (.cells #[.int .i64 3, .bool false, .string ⟨#[]⟩, .int .i64 0, .bool false, .slice none 0 0, .slice none 0 0] 25 (0, 0))) _ := rnumber_any (str tx) 0 (Nat.zero_le _) HTl.out _; rw [HNu.out] at hcall; (with_reducible refine hcall.mono ?_); clear hcall; rintro e w1 ⟨P, _, _, hPs, hdP, rfl, hb⟩; have hPL := (HPe.out P hPs hdP).symm; subst hPL; rw [HTk.out, HNN.out, HExt.out]; clear hdP; have HBx := hid (two_at (w := w) (o1 := (C7 3 false tx n hh p1 n1 c1 p2 n2 c2)) (o2 := (.cells #[.int .i64 3, .bool false, .string ⟨#[]⟩, .int .i64 0, .bool false, .slice none 0 0, .slice none 0 0] 25 (0, 0))) rfl); have HBy := hid (two_at (w := w1) (o1 := (.cells #[.string (str tx), .int .i64 (LL : Int), .int .i64 0] 49 (0, 0))) (o2 := (.cells #[.int .i64 3, .bool false, .string (str tx), .int .i64 NI, .bool NB, .slice none 0 0, .slice none 0 0] 25 (0, 0))) rfl); have HX1 := hid (keep7 (keep7 HBx.out.1 hb) HBy.out.2.2); have HK1 := hid (keep7 (keep7 HBx.out.2.1 hb) HBy.out.2.2); have HB1 := hid (below_out HBx.out.2.2 (below_out hb HBy.out.2.2)); clear hb; obtain ⟨r0, r1, r2, _⟩ := three HBy.out.1; obtain ⟨y0, y1, y2, y3, y4, y5, y6, yz⟩ := seven HBy.out.2.1; have yz0 := yz 0; have yz1 := yz 1; have yz2 := yz 2; have yz3 := yz 3; have yz4 := yz 4; have yz5 := yz 5; have yz6 := yz 6; clear yz; obtain ⟨x0, x1, x2, x3, x4, x5, x6, xz⟩ := seven HX1.out; have xz0 := xz 0; have xz1 := xz 1; have xz2 := xz 2; have xz3 := xz 3; have xz4 := xz 4; have xz5 := xz 5; have xz6 := xz 6; clear xz; obtain ⟨k0, k1, k2, k3, k4, k5, k6, kz⟩ := seven HK1.out; have kz0 := kz 0; have kz1 := kz 1; have kz2 := kz 2; have kz3 := kz 3; have kz4 := kz 4; have kz5 := kz 5; have kz6 := kz 6; clear kz; have HK2 := hid (seven_put (has_seven HK1.out) (.int .i64 3) (.bool false) (.string (str tx)) (.int .i64 NI) (.bool NB) (.slice none 0 0) (.slice none 0 0)); have HX2 := hid ((seven_other (U := ((w1.alloc (.cells #[.string (str tx), .int .i64 (LL : Int), .int .i64 0] 49 (0, 0))).alloc (.cells #[.int .i64 3, .bool false, .string (str tx), .int .i64 NI, .bool NB, .slice none 0 0, .slice none 0 0] 25 (0, 0)))) (show w.heap.size ≠ w.heap.size + 1 by omega) (.int .i64 3) (.bool false) (.string (str tx)) (.int .i64 NI) (.bool NB) (.slice none 0 0) (.slice none 0 0)).trans HX1.out); obtain ⟨s0, s1, s2, s3, s4, s5, s6, _⟩ := seven HK2.out; obtain ⟨t0, t1, t2, t3, t4, t5, t6, _⟩ := seven HX2.out)
        go_ret2
        refine ⟨rfl, ?_⟩
        iterate 7 refine Below.setCell ?_ (show w.heap.size ≤ w.heap.size + 1 by omega) _
        exact HB1.out
      subst hn
      by_cases hw : hh = NB
      case neg =>
        have HR := hid (show formed (.mk 3 false tx n hh ls ns) = false from by rw [formed3, hin, hnv, Bool.true_and]; simp [sameV, hw])
        obtain rfl : hh = !NB := by cases hh <;> cases NB <;> simp_all
        rw [HR.out]
        clear hin hnv e1 e2 htl hw
        go_enter Tryz.func26, Tryz.ntmps26
        go_wp2_with (go_at_call 37; have hcall : Calls Tryz.prog 37 #[.agg #[.string (str tx), .int .i64 0, .int .i64 0]] ((w.alloc (C7 3 false tx n (!NB) p1 n1 c1 p2 n2 c2)).alloc (.cells #[.int .i64 3, .bool false, .string ⟨#[]⟩, .int .i64 0, .bool false, .slice none 0 0, .slice none 0 0] 25 (0, 0))) _ := rnumber_any (str tx) 0 (Nat.zero_le _) HTl.out _; rw [HNu.out] at hcall; (with_reducible refine hcall.mono ?_); clear hcall; rintro e w1 ⟨P, _, _, hPs, hdP, rfl, hb⟩; have hPL := (HPe.out P hPs hdP).symm; subst hPL; rw [HTk.out, HNN.out, HExt.out]; clear hdP; have HBx := hid (two_at (w := w) (o1 := (C7 3 false tx n (!NB) p1 n1 c1 p2 n2 c2)) (o2 := (.cells #[.int .i64 3, .bool false, .string ⟨#[]⟩, .int .i64 0, .bool false, .slice none 0 0, .slice none 0 0] 25 (0, 0))) rfl); have HBy := hid (two_at (w := w1) (o1 := (.cells #[.string (str tx), .int .i64 (LL : Int), .int .i64 0] 49 (0, 0))) (o2 := (.cells #[.int .i64 3, .bool false, .string (str tx), .int .i64 n, .bool NB, .slice none 0 0, .slice none 0 0] 25 (0, 0))) rfl); have HX1 := hid (keep7 (keep7 HBx.out.1 hb) HBy.out.2.2); have HK1 := hid (keep7 (keep7 HBx.out.2.1 hb) HBy.out.2.2); have HB1 := hid (below_out HBx.out.2.2 (below_out hb HBy.out.2.2)); clear hb; obtain ⟨r0, r1, r2, _⟩ := three HBy.out.1; obtain ⟨y0, y1, y2, y3, y4, y5, y6, yz⟩ := seven HBy.out.2.1; have yz0 := yz 0; have yz1 := yz 1; have yz2 := yz 2; have yz3 := yz 3; have yz4 := yz 4; have yz5 := yz 5; have yz6 := yz 6; clear yz; obtain ⟨x0, x1, x2, x3, x4, x5, x6, xz⟩ := seven HX1.out; have xz0 := xz 0; have xz1 := xz 1; have xz2 := xz 2; have xz3 := xz 3; have xz4 := xz 4; have xz5 := xz 5; have xz6 := xz 6; clear xz; obtain ⟨k0, k1, k2, k3, k4, k5, k6, kz⟩ := seven HK1.out; have kz0 := kz 0; have kz1 := kz 1; have kz2 := kz 2; have kz3 := kz 3; have kz4 := kz 4; have kz5 := kz 5; have kz6 := kz 6; clear kz; have HK2 := hid (seven_put (has_seven HK1.out) (.int .i64 3) (.bool false) (.string (str tx)) (.int .i64 n) (.bool NB) (.slice none 0 0) (.slice none 0 0)); have HX2 := hid ((seven_other (U := ((w1.alloc (.cells #[.string (str tx), .int .i64 (LL : Int), .int .i64 0] 49 (0, 0))).alloc (.cells #[.int .i64 3, .bool false, .string (str tx), .int .i64 n, .bool NB, .slice none 0 0, .slice none 0 0] 25 (0, 0)))) (show w.heap.size ≠ w.heap.size + 1 by omega) (.int .i64 3) (.bool false) (.string (str tx)) (.int .i64 n) (.bool NB) (.slice none 0 0) (.slice none 0 0)).trans HX1.out); obtain ⟨s0, s1, s2, s3, s4, s5, s6, _⟩ := seven HK2.out; obtain ⟨t0, t1, t2, t3, t4, t5, t6, _⟩ := seven HX2.out)
        go_ret2
        refine ⟨rfl, ?_⟩
        iterate 7 refine Below.setCell ?_ (show w.heap.size ≤ w.heap.size + 1 by omega) _
        exact HB1.out
      subst hw
      by_cases hl : n1 = 0
      case neg =>
        have HR := hid (show formed (.mk 3 false tx n hh ls ns) = false from by rw [formed3, hin, hnv, Bool.true_and]; simp [sameV, sameL_nil (show ls.length ≠ 0 by omega)])
        have q6 : ((n1 : Int) == 0) = false := by simp only [beq_eq_false_iff_ne, ne_eq]; omega
        rw [HR.out]
        clear hin hnv e1 e2 htl hl
        go_enter Tryz.func26, Tryz.ntmps26
        go_wp2_with (go_at_call 37; have hcall : Calls Tryz.prog 37 #[.agg #[.string (str tx), .int .i64 0, .int .i64 0]] ((w.alloc (C7 3 false tx n hh p1 n1 c1 p2 n2 c2)).alloc (.cells #[.int .i64 3, .bool false, .string ⟨#[]⟩, .int .i64 0, .bool false, .slice none 0 0, .slice none 0 0] 25 (0, 0))) _ := rnumber_any (str tx) 0 (Nat.zero_le _) HTl.out _; rw [HNu.out] at hcall; (with_reducible refine hcall.mono ?_); clear hcall; rintro e w1 ⟨P, _, _, hPs, hdP, rfl, hb⟩; have hPL := (HPe.out P hPs hdP).symm; subst hPL; rw [HTk.out, HNN.out, HExt.out]; clear hdP; have HBx := hid (two_at (w := w) (o1 := (C7 3 false tx n hh p1 n1 c1 p2 n2 c2)) (o2 := (.cells #[.int .i64 3, .bool false, .string ⟨#[]⟩, .int .i64 0, .bool false, .slice none 0 0, .slice none 0 0] 25 (0, 0))) rfl); have HBy := hid (two_at (w := w1) (o1 := (.cells #[.string (str tx), .int .i64 (LL : Int), .int .i64 0] 49 (0, 0))) (o2 := (.cells #[.int .i64 3, .bool false, .string (str tx), .int .i64 n, .bool hh, .slice none 0 0, .slice none 0 0] 25 (0, 0))) rfl); have HX1 := hid (keep7 (keep7 HBx.out.1 hb) HBy.out.2.2); have HK1 := hid (keep7 (keep7 HBx.out.2.1 hb) HBy.out.2.2); have HB1 := hid (below_out HBx.out.2.2 (below_out hb HBy.out.2.2)); clear hb; obtain ⟨r0, r1, r2, _⟩ := three HBy.out.1; obtain ⟨y0, y1, y2, y3, y4, y5, y6, yz⟩ := seven HBy.out.2.1; have yz0 := yz 0; have yz1 := yz 1; have yz2 := yz 2; have yz3 := yz 3; have yz4 := yz 4; have yz5 := yz 5; have yz6 := yz 6; clear yz; obtain ⟨x0, x1, x2, x3, x4, x5, x6, xz⟩ := seven HX1.out; have xz0 := xz 0; have xz1 := xz 1; have xz2 := xz 2; have xz3 := xz 3; have xz4 := xz 4; have xz5 := xz 5; have xz6 := xz 6; clear xz; obtain ⟨k0, k1, k2, k3, k4, k5, k6, kz⟩ := seven HK1.out; have kz0 := kz 0; have kz1 := kz 1; have kz2 := kz 2; have kz3 := kz 3; have kz4 := kz 4; have kz5 := kz 5; have kz6 := kz 6; clear kz; have HK2 := hid (seven_put (has_seven HK1.out) (.int .i64 3) (.bool false) (.string (str tx)) (.int .i64 n) (.bool hh) (.slice none 0 0) (.slice none 0 0)); have HX2 := hid ((seven_other (U := ((w1.alloc (.cells #[.string (str tx), .int .i64 (LL : Int), .int .i64 0] 49 (0, 0))).alloc (.cells #[.int .i64 3, .bool false, .string (str tx), .int .i64 n, .bool hh, .slice none 0 0, .slice none 0 0] 25 (0, 0)))) (show w.heap.size ≠ w.heap.size + 1 by omega) (.int .i64 3) (.bool false) (.string (str tx)) (.int .i64 n) (.bool hh) (.slice none 0 0) (.slice none 0 0)).trans HX1.out); obtain ⟨s0, s1, s2, s3, s4, s5, s6, _⟩ := seven HK2.out; obtain ⟨t0, t1, t2, t3, t4, t5, t6, _⟩ := seven HX2.out)
        go_ret2
        refine ⟨rfl, ?_⟩
        iterate 7 refine Below.setCell ?_ (show w.heap.size ≤ w.heap.size + 1 by omega) _
        exact HB1.out
      by_cases hm : n2 = 0
      case neg =>
        have HR := hid (show formed (.mk 3 false tx n hh ls ns) = false from by rw [formed3, hin, hnv, Bool.true_and]; simp [sameV, names_nil (show ns.length ≠ 0 by omega)])
        have q6 : ((n2 : Int) == 0) = false := by simp only [beq_eq_false_iff_ne, ne_eq]; omega
        subst hl
        rw [HR.out]
        clear hin hnv e1 e2 htl hm
        go_enter Tryz.func26, Tryz.ntmps26
        go_wp2_with (go_at_call 37; have hcall : Calls Tryz.prog 37 #[.agg #[.string (str tx), .int .i64 0, .int .i64 0]] ((w.alloc (C7 3 false tx n hh p1 0 c1 p2 n2 c2)).alloc (.cells #[.int .i64 3, .bool false, .string ⟨#[]⟩, .int .i64 0, .bool false, .slice none 0 0, .slice none 0 0] 25 (0, 0))) _ := rnumber_any (str tx) 0 (Nat.zero_le _) HTl.out _; rw [HNu.out] at hcall; (with_reducible refine hcall.mono ?_); clear hcall; rintro e w1 ⟨P, _, _, hPs, hdP, rfl, hb⟩; have hPL := (HPe.out P hPs hdP).symm; subst hPL; rw [HTk.out, HNN.out, HExt.out]; clear hdP; have HBx := hid (two_at (w := w) (o1 := (C7 3 false tx n hh p1 0 c1 p2 n2 c2)) (o2 := (.cells #[.int .i64 3, .bool false, .string ⟨#[]⟩, .int .i64 0, .bool false, .slice none 0 0, .slice none 0 0] 25 (0, 0))) rfl); have HBy := hid (two_at (w := w1) (o1 := (.cells #[.string (str tx), .int .i64 (LL : Int), .int .i64 0] 49 (0, 0))) (o2 := (.cells #[.int .i64 3, .bool false, .string (str tx), .int .i64 n, .bool hh, .slice none 0 0, .slice none 0 0] 25 (0, 0))) rfl); have HX1 := hid (keep7 (keep7 HBx.out.1 hb) HBy.out.2.2); have HK1 := hid (keep7 (keep7 HBx.out.2.1 hb) HBy.out.2.2); have HB1 := hid (below_out HBx.out.2.2 (below_out hb HBy.out.2.2)); clear hb; obtain ⟨r0, r1, r2, _⟩ := three HBy.out.1; obtain ⟨y0, y1, y2, y3, y4, y5, y6, yz⟩ := seven HBy.out.2.1; have yz0 := yz 0; have yz1 := yz 1; have yz2 := yz 2; have yz3 := yz 3; have yz4 := yz 4; have yz5 := yz 5; have yz6 := yz 6; clear yz; obtain ⟨x0, x1, x2, x3, x4, x5, x6, xz⟩ := seven HX1.out; have xz0 := xz 0; have xz1 := xz 1; have xz2 := xz 2; have xz3 := xz 3; have xz4 := xz 4; have xz5 := xz 5; have xz6 := xz 6; clear xz; obtain ⟨k0, k1, k2, k3, k4, k5, k6, kz⟩ := seven HK1.out; have kz0 := kz 0; have kz1 := kz 1; have kz2 := kz 2; have kz3 := kz 3; have kz4 := kz 4; have kz5 := kz 5; have kz6 := kz 6; clear kz; have HK2 := hid (seven_put (has_seven HK1.out) (.int .i64 3) (.bool false) (.string (str tx)) (.int .i64 n) (.bool hh) (.slice none 0 0) (.slice none 0 0)); have HX2 := hid ((seven_other (U := ((w1.alloc (.cells #[.string (str tx), .int .i64 (LL : Int), .int .i64 0] 49 (0, 0))).alloc (.cells #[.int .i64 3, .bool false, .string (str tx), .int .i64 n, .bool hh, .slice none 0 0, .slice none 0 0] 25 (0, 0)))) (show w.heap.size ≠ w.heap.size + 1 by omega) (.int .i64 3) (.bool false) (.string (str tx)) (.int .i64 n) (.bool hh) (.slice none 0 0) (.slice none 0 0)).trans HX1.out); obtain ⟨s0, s1, s2, s3, s4, s5, s6, _⟩ := seven HK2.out; obtain ⟨t0, t1, t2, t3, t4, t5, t6, _⟩ := seven HX2.out)
        go_ret2
        refine ⟨rfl, ?_⟩
        iterate 7 refine Below.setCell ?_ (show w.heap.size ≤ w.heap.size + 1 by omega) _
        exact HB1.out
      have hls : ls = [] := List.eq_nil_of_length_eq_zero (by omega)
      have hns : ns = [] := List.eq_nil_of_length_eq_zero (by omega)
      subst hls hns hl hm
      have HR := hid (show formed (.mk 3 false tx n hh [] []) = true from by rw [formed3, hin, hnv, Bool.true_and]; exact sameV_refl _)
      rw [HR.out]
      clear hin hnv e1 e2 htl 
      go_enter Tryz.func26, Tryz.ntmps26
      go_wp2_with (go_at_call 37; have hcall : Calls Tryz.prog 37 #[.agg #[.string (str tx), .int .i64 0, .int .i64 0]] ((w.alloc (C7 3 false tx n hh p1 0 c1 p2 0 c2)).alloc (.cells #[.int .i64 3, .bool false, .string ⟨#[]⟩, .int .i64 0, .bool false, .slice none 0 0, .slice none 0 0] 25 (0, 0))) _ := rnumber_any (str tx) 0 (Nat.zero_le _) HTl.out _; rw [HNu.out] at hcall; (with_reducible refine hcall.mono ?_); clear hcall; rintro e w1 ⟨P, _, _, hPs, hdP, rfl, hb⟩; have hPL := (HPe.out P hPs hdP).symm; subst hPL; rw [HTk.out, HNN.out, HExt.out]; clear hdP; have HBx := hid (two_at (w := w) (o1 := (C7 3 false tx n hh p1 0 c1 p2 0 c2)) (o2 := (.cells #[.int .i64 3, .bool false, .string ⟨#[]⟩, .int .i64 0, .bool false, .slice none 0 0, .slice none 0 0] 25 (0, 0))) rfl); have HBy := hid (two_at (w := w1) (o1 := (.cells #[.string (str tx), .int .i64 (LL : Int), .int .i64 0] 49 (0, 0))) (o2 := (.cells #[.int .i64 3, .bool false, .string (str tx), .int .i64 n, .bool hh, .slice none 0 0, .slice none 0 0] 25 (0, 0))) rfl); have HX1 := hid (keep7 (keep7 HBx.out.1 hb) HBy.out.2.2); have HK1 := hid (keep7 (keep7 HBx.out.2.1 hb) HBy.out.2.2); have HB1 := hid (below_out HBx.out.2.2 (below_out hb HBy.out.2.2)); clear hb; obtain ⟨r0, r1, r2, _⟩ := three HBy.out.1; obtain ⟨y0, y1, y2, y3, y4, y5, y6, yz⟩ := seven HBy.out.2.1; have yz0 := yz 0; have yz1 := yz 1; have yz2 := yz 2; have yz3 := yz 3; have yz4 := yz 4; have yz5 := yz 5; have yz6 := yz 6; clear yz; obtain ⟨x0, x1, x2, x3, x4, x5, x6, xz⟩ := seven HX1.out; have xz0 := xz 0; have xz1 := xz 1; have xz2 := xz 2; have xz3 := xz 3; have xz4 := xz 4; have xz5 := xz 5; have xz6 := xz 6; clear xz; obtain ⟨k0, k1, k2, k3, k4, k5, k6, kz⟩ := seven HK1.out; have kz0 := kz 0; have kz1 := kz 1; have kz2 := kz 2; have kz3 := kz 3; have kz4 := kz 4; have kz5 := kz 5; have kz6 := kz 6; clear kz; have HK2 := hid (seven_put (has_seven HK1.out) (.int .i64 3) (.bool false) (.string (str tx)) (.int .i64 n) (.bool hh) (.slice none 0 0) (.slice none 0 0)); have HX2 := hid ((seven_other (U := ((w1.alloc (.cells #[.string (str tx), .int .i64 (LL : Int), .int .i64 0] 49 (0, 0))).alloc (.cells #[.int .i64 3, .bool false, .string (str tx), .int .i64 n, .bool hh, .slice none 0 0, .slice none 0 0] 25 (0, 0)))) (show w.heap.size ≠ w.heap.size + 1 by omega) (.int .i64 3) (.bool false) (.string (str tx)) (.int .i64 n) (.bool hh) (.slice none 0 0) (.slice none 0 0)).trans HX1.out); obtain ⟨s0, s1, s2, s3, s4, s5, s6, _⟩ := seven HK2.out; obtain ⟨t0, t1, t2, t3, t4, t5, t6, _⟩ := seven HX2.out)
      go_ret2
      refine ⟨rfl, ?_⟩
      iterate 7 refine Below.setCell ?_ (show w.heap.size ≤ w.heap.size + 1 by omega) _
      exact HB1.out
end Go.Proofs.YtkoeihliaandeaaGreatDoor
