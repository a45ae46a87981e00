/- Depth; numbers, names, names that are there twice. -/
import Derived.Test.YtkoeihliaandeaaGreatDoorSame
import Derived.LaidEql
namespace Go.Proofs.YtkoeihliaandeaaGreatDoor
open Go.RowKit Go.Maps

theorem wpList_max_as {w : World} {ops : Array Oper} {rest : List Oper} {o : Oper} {a : Act} {Q : Exit → Act → World → Prop} (hgd : o.guard = none) (x y : Operand) (ho : o.op = .call { callee := .builtin .max, args := #[x, y], argTypes := #[3, 3] }) (d e : Nat) (hx : a.eval x = .int .i64 d) (hy : a.eval y = .int .i64 e)
    (h : wpList Tryz.prog ops Q rest (a.put o.dst (.int .i64 (max d e : Nat))) w) : wpList Tryz.prog ops Q (o :: rest) a w := by
  have hr := run_max_int2 (P := Tryz.prog) (w := w) #[3, 3] o.type .i64 .i64 d e
  refine wpList_plain hgd fun K hK => ?_
  unfold Oper.wp
  simp only [execOp, ho, resolve, invoke, builtin]
  simp [hx, hy, hr, Result.andThen]
  by_cases hlt : d < e
  · rw [if_pos hlt]
    rw [show max d e = e by omega] at h
    exact hK _ _ h
  · rw [if_neg hlt]
    rw [show max d e = d by omega] at h
    exact hK _ _ h
theorem fold_top : ∀ (l : List Nat) (a m : Nat), a = m → (∀ x ∈ l, x ≤ m) → l.foldl max a = m
  | [], a, m, h, _ => h
  | y :: l, a, m, h, h2 => fold_top l (max a y) m (by have := h2 y (by simp); omega) (fun x hx => h2 x (by simp [hx]))
theorem fold_max_le : ∀ (l : List Nat) (a m : Nat), a ≤ m → (∀ x ∈ l, x ≤ m) → l.foldl max a ≤ m
  | [], _, _, h, _ => h
  | y :: l, a, m, h, h2 => fold_max_le l (max a y) m (by have := h2 y (by simp); omega) (fun x hx => h2 x (by simp [hx]))
theorem depthN_le : ∀ (m : Nat) (t : JV), depthN m t ≤ m
  | 0, _ => Nat.le_refl _
  | m + 1, .mk k _ _ _ _ ls _ => by
    simp only [depthN]
    split
    · have := fold_max_le (ls.map (depthN m)) 0 m (Nat.zero_le _) (fun x hx => by
        obtain ⟨y, _, rfl⟩ := List.mem_map.1 hx
        exact depthN_le m y)
      omega
    · exact Nat.zero_le _
def DepthOk (m : Nat) : Prop := ∀ (t : JV) (w : World) (cs : List Value), Fits t → ValOn w t cs → Calls Tryz.prog 24 #[.agg cs.toArray, .int .i64 (m : Int)] w fun e w' => e = .returned (.int .i64 ((depthN m t : Nat) : Int)) ∧ Below w.heap.size w w'
set_option maxRecDepth 20000 in
set_option maxHeartbeats 4000000 in
theorem depth_loop {m : Nat} (hm : m < 10000) (ih : DepthOk m) (k : Int) (hk : k = 5 ∨ k = 6) (b : Bool) (t : B) (n : Int) (hh : Bool) (ls : List JV) (ns : List B) (w : World) (cs : List Value) (hf : Fits (.mk k b t n hh ls ns)) (hv : ValOn w (.mk k b t n hh ls ns) cs) :
    Calls Tryz.prog 24 #[.agg cs.toArray, .int .i64 ((m : Int) + 1)] w fun e w' => e = .returned (.int .i64 (((ls.map (depthN m)).foldl max 0 + 1 : Nat) : Int)) ∧ Below w.heap.size w w' := by
  obtain ⟨p1, c1, p2, c2, rfl, hp1, hp2⟩ := hv.open
  simp only [Fits, fitsL_iff] at hf
  have HF := hid hf.2.2.2.2
  have hn := hf.2.1
  unfold maxI at hn
  have H1 := hid (hp1.below (below_new w (C7 k b t n hh p1 ls.length c1 p2 ns.length c2)))
  have HI := hid ih
  have HB0 := hid (below_new w (C7 k b t n hh p1 ls.length c1 p2 ns.length c2))
  obtain ⟨G, hG⟩ : ∃ G, (ls.map (depthN m)).foldl max 0 = G := ⟨_, rfl⟩
  have HG := hid hG
  rw [hG]
  obtain ⟨n1, e1⟩ : ∃ n1, ls.length = n1 := ⟨_, rfl⟩
  obtain ⟨n2, e2⟩ : ∃ n2, ns.length = n2 := ⟨_, rfl⟩
  have HN := hid e1
  have HLE : ∀ x ∈ ls.map (depthN m), x ≤ m := fun x hx => by
    obtain ⟨y, _, rfl⟩ := List.mem_map.1 hx
    exact depthN_le m y
  have HLe := hid HLE
  rw [e1, e2] at H1 HB0 ⊢
  rw [e1] at hn
  clear hf hv hp1 hp2 ih hG e1 e2 HLE
  have hz : ((m : Int) + 1 == 0) = false := by simp only [beq_eq_false_iff_ne, ne_eq]; omega
  rcases hk with rfl | rfl
  all_goals
    go_enter Tryz.func24, Tryz.ntmps24
    go_wp2
    go_loopg [5, 23] (n1 + 1) (fun gk s5 s23 wr => ∃ i a : Nat, i ≤ n1 ∧ gk = n1 - i + 1 ∧ s5 = .int .i64 (a : Int) ∧ s23 = .int .i64 (i : Int) ∧ ((ls.drop i).map (depthN m)).foldl max a = G ∧ a ≤ m ∧ Below w.heap.size w wr ∧ PartsOn wr ls p1)
    case atStart => exact ⟨0, 0, by omega, rfl, rfl, rfl, HG.out, by omega, HB0.out, H1.out⟩
    case round =>
      obtain ⟨i, a, hi, rfl, rfl, rfl, hs, ha, hb, hp⟩ := hrel
      have HB := hid hb
      have HD := hid hs
      clear hs hb
      by_cases hin : i < n1
      · have hi1 : i < ls.length := by rw [HN.out]; exact hin
        obtain ⟨g, o, cs, rfl, hv1, hc1⟩ := hp i ls[i] (List.getElem?_eq_getElem hi1)
        have HP := hid hp
        have HStep := hid (show ((ls.drop i).map (depthN m)).foldl max a = ((ls.drop (i + 1)).map (depthN m)).foldl max (max a (depthN m ls[i])) from by rw [drop_get hi1]; rfl)
        have HC := hid (HI.out ls[i])
        have HFx := hid (HF.out ls[i] (List.getElem_mem hi1))
        have hdle := depthN_le m ls[i]
        generalize ls[i] = x at hv1 HStep HC HFx hdle
        obtain ⟨k1, k2, k3, k4, k5, k6, k7, k8, k9, k10, k11, rfl⟩ := hv1.form
        obtain ⟨a0, a1, a2, a3, a4, a5, a6⟩ := row7 hc1
        have HV := hid (hv1.below (below_new wr (C7 k1 k2 k3 k4 k5 k6 k7 k8 k9 k10 k11)))
        generalize hdx : depthN m x = D at HStep hdle
        have HDx := hid hdx
        clear hc1 hv1 hi1 hp hdx
        by_cases htop : max a D = m
        · have HTop := hid htop
          have q1 : ((m : Int) == (m : Int)) = true := by simp
          clear htop
          go_wp2_with (first
            | (go_at_call 24; have hcall := HC.out _ _ HFx.out HV.out; (with_reducible refine hcall.mono ?_); clear hcall; rintro e w1 ⟨rfl, hb⟩; rw [HDx.out]; have HB1 := hid (HB.out.trans (((below_new wr (C7 k1 k2 k3 k4 k5 k6 k7 k8 k9 k10 k11)).mono HB.out.size).trans (hb.mono (Nat.le_trans HB.out.size (below_new _ _).size)))); have HP1 := hid ((HP.out.below (below_new wr (C7 k1 k2 k3 k4 k5 k6 k7 k8 k9 k10 k11))).below hb); clear hb)
            | (refine wpList_max_as rfl _ _ rfl a D rfl rfl ?_; rw [HTop.out]))
          go_ret
          refine ⟨?_, HB1.out⟩
          rw [← HD.out, HStep.out, fold_top _ _ m HTop.out (fun x hx => HLe.out x (by
            obtain ⟨y, hy, rfl⟩ := List.mem_map.1 hx
            exact List.mem_map.2 ⟨y, List.mem_of_mem_drop hy, rfl⟩))]
          rfl
        · have q1 : (((max a D : Nat) : Int) == (m : Int)) = false := by simp only [beq_eq_false_iff_ne, ne_eq]; omega
          have hle : max a D ≤ m := by omega
          generalize hM : max a D = M at HStep q1 htop hle
          have HM := hid hM
          have q2 : ((M : Int) == (m : Int)) = false := q1
          clear hM htop
          go_wp2_with (first
            | (go_at_call 24; have hcall := HC.out _ _ HFx.out HV.out; (with_reducible refine hcall.mono ?_); clear hcall; rintro e w1 ⟨rfl, hb⟩; rw [HDx.out]; have HB1 := hid (HB.out.trans (((below_new wr (C7 k1 k2 k3 k4 k5 k6 k7 k8 k9 k10 k11)).mono HB.out.size).trans (hb.mono (Nat.le_trans HB.out.size (below_new _ _).size)))); have HP1 := hid ((HP.out.below (below_new wr (C7 k1 k2 k3 k4 k5 k6 k7 k8 k9 k10 k11))).below hb); clear hb)
            | (refine wpList_max_as rfl _ _ rfl a D rfl rfl ?_; rw [HM.out]))
          go_roundg (n1 - (i + 1) + 1)
          case measure => omega
          case rel => exact ⟨i + 1, M, by omega, rfl, rfl, by push_cast; rfl, by rw [← HD.out, HStep.out], hle, HB1.out, HP1.out⟩
      · obtain rfl : i = n1 := by omega
        go_wp2
        go_ret
        refine ⟨?_, HB.out⟩
        have e1 : ls.drop i = [] := List.drop_of_length_le (by rw [HN.out]; exact Nat.le_refl _)
        rw [← HD.out, e1]
        simp
set_option maxRecDepth 20000 in
set_option maxHeartbeats 4000000 in
theorem depth_any : ∀ m, m ≤ 10000 → DepthOk m := by
  intro m
  induction m with
  | zero =>
    intro _ t w cs _ hv
    obtain ⟨k, b, t, n, hh, ls, ns⟩ := t
    obtain ⟨p1, c1, p2, c2, rfl, _, _⟩ := hv.open
    obtain ⟨n1, e1⟩ : ∃ n1, ls.length = n1 := ⟨_, rfl⟩
    obtain ⟨n2, e2⟩ : ∃ n2, ns.length = n2 := ⟨_, rfl⟩
    rw [e1, e2]
    clear hv e1 e2
    show Calls Tryz.prog 24 #[.agg _, .int .i64 0] w _
    go_enter Tryz.func24, Tryz.ntmps24
    go_wp2
    go_ret
    exact ⟨rfl, below_new _ _⟩
  | succ m ih =>
    intro hm t w cs hf hv
    obtain ⟨k, b, t, n, hh, ls, ns⟩ := t
    have hcast : ((m + 1 : Nat) : Int) = (m : Int) + 1 := by push_cast; rfl
    rw [hcast]
    by_cases hk : k = 5 ∨ k = 6
    · have := depth_loop (by omega) (ih (by omega)) k hk b t n hh ls ns w cs hf hv
      simp only [depthN, if_pos hk]
      exact this
    · simp only [depthN, if_neg hk]
      have h5 : (k == 5) = false := by simp only [beq_eq_false_iff_ne, ne_eq]; omega
      have h6 : (k == 6) = false := by simp only [beq_eq_false_iff_ne, ne_eq]; omega
      have g5 : (k != 5) = true := by simpa using (show ¬ k = 5 by omega)
      have g6 : (k != 6) = true := by simpa using (show ¬ k = 6 by omega)
      obtain ⟨p1, c1, p2, c2, rfl, _, _⟩ := hv.open
      obtain ⟨n1, e1⟩ : ∃ n1, ls.length = n1 := ⟨_, rfl⟩
      obtain ⟨n2, e2⟩ : ∃ n2, ns.length = n2 := ⟨_, rfl⟩
      rw [e1, e2]
      have hz : ((m : Int) + 1 == 0) = false := by simp only [beq_eq_false_iff_ne, ne_eq]; omega
      clear hv e1 e2 hk hf ih hcast
      go_enter Tryz.func24, Tryz.ntmps24
      go_wp2
      go_ret
      exact ⟨rfl, below_new _ _⟩
/-! ### Numbers, names -/
theorem num_len {t u : B} {x : Unit} (h : number t = .ok x u) : u.length ≤ t.length := Nat.le_of_lt (number_short h)
set_option maxRecDepth 20000 in
set_option maxHeartbeats 4000000 in
theorem isNumber_any (t : B) (ht : t.length ≤ 140737488355328) (w : World) : Calls Tryz.prog 63 #[.string (str t)] w fun e w' => e = .returned (.bool (isNum t)) ∧ Below w.heap.size w w' := by
  obtain ⟨S, hS⟩ : ∃ S, str t = S := ⟨_, rfl⟩
  have hs : S.size ≤ 140737488355328 := by rw [← hS]; simpa [ByteArray.size] using ht
  have hd : S.data.toList = t := by rw [← hS]
  rw [hS]
  have HD := hid hd
  have R0 := hid (show Rd (w.alloc (.cells #[.string S, .int .i64 0, .int .i64 0] 45 (0, 0))) w.heap.size S t 0 from ⟨⟨0, Nat.zero_le _, hd, heap_alloc_new _ _⟩, hs⟩)
  have HB0 := hid (below_new w (.cells #[.string S, .int .i64 0, .int .i64 0] 45 (0, 0)))
  clear hd hS ht
  cases hn : number t with
  | err k u =>
    have HN := hid hn
    have HR : Hid (isNum t = false) := by unfold Hid isNum; rw [hn]
    rw [HR.out]
    clear hn
    go_enter Tryz.func63, Tryz.ntmps63
    go_wp2_with (go_at_call 53; (with_reducible refine (number_any R0.out).mono ?_); intro e w1 hq; obtain ⟨rfl, hz⟩ := Told.no hq HN.out; have HB := hid (HB0.out.trans (hz.2.below HB0.out.size (Nat.le_refl _))); clear hz hq)
    go_ret
    exact ⟨rfl, HB.out⟩
  | ok x u =>
    have HN := hid hn
    have HL := hid (num_len hn)
    have HR : Hid (isNum t = decide (u.length = 0)) := by
      unfold Hid isNum
      rw [hn]
      cases u with
      | nil => rfl
      | cons c r => simp
    rw [HR.out]
    clear hn
    by_cases hu : u.length = 0
    · have HU := hid hu
      rw [decide_eq_true hu]
      clear hu
      go_enter Tryz.func63, Tryz.ntmps63
      go_wp2_with (go_at_call 53; (with_reducible refine (number_any R0.out).mono ?_); intro e w1 hq; obtain ⟨rfl, hz⟩ := Told.yes hq HN.out; have HB := hid (HB0.out.trans (hz.2.below HB0.out.size (Nat.le_refl _))); obtain ⟨q, hA⟩ := hz.1.at; have c1 := hA.c1; have hq1 : q = S.size := (by have a1 := hA.len; have a2 := hA.le; have a3 := HU.out; omega); clear hz hq hA; rw [hq1] at c1)
      go_ret
      exact ⟨rfl, HB.out⟩
    · have HU := hid hu
      rw [decide_eq_false hu]
      clear hu
      go_enter Tryz.func63, Tryz.ntmps63
      go_wp2_with (go_at_call 53; (with_reducible refine (number_any R0.out).mono ?_); intro e w1 hq; obtain ⟨rfl, hz⟩ := Told.yes hq HN.out; have HB := hid (HB0.out.trans (hz.2.below HB0.out.size (Nat.le_refl _))); obtain ⟨q, hA⟩ := hz.1.at; have c1 := hA.c1; have hq1 : ((q : Int) == (S.size : Int)) = false := (by simp only [beq_eq_false_iff_ne, ne_eq]; have a1 := hA.len; have a2 := hA.le; have a3 := HU.out; omega); have hq2 : (q == S.size) = false := (by simp only [beq_eq_false_iff_ne, ne_eq]; have a1 := hA.len; have a2 := hA.le; have a3 := HU.out; omega); clear hz hq hA)
      go_ret
      exact ⟨rfl, HB.out⟩
set_option maxRecDepth 20000 in
set_option maxHeartbeats 4000000 in
theorem allValid_any {w : World} {ns : List B} {p : Option Addr} {c : Nat} (hE : Env w) (h : NamesOn w ns p) (hn : ns.length ≤ maxI) (hz : ∀ z ∈ ns, z.length ≤ maxI) :
    Calls Tryz.prog 65 #[.slice p ns.length c] w fun e w' => e = .returned (.bool (ns.all Lib.validD)) ∧ Below w.heap.size w w' := by
  unfold maxI at hn hz
  obtain ⟨n, e1⟩ : ∃ n, ns.length = n := ⟨_, rfl⟩
  have HN := hid e1
  have HE := hid hE
  have HZ := hid hz
  have H1 := hid h
  obtain ⟨G, hG⟩ : ∃ G, ns.all Lib.validD = G := ⟨_, rfl⟩
  have HG := hid hG
  rw [e1] at hn ⊢
  rw [hG]
  clear hE hz h e1 hG
  go_enter Tryz.func65, Tryz.ntmps65
  go_wp2
  go_loopg [7] (n + 1) (fun gk s7 wr => ∃ i : Nat, i ≤ n ∧ gk = n - i + 1 ∧ s7 = .int .i64 (i : Int) ∧ (ns.drop i).all Lib.validD = G ∧ Below w.heap.size w wr)
  case atStart => exact ⟨0, by omega, rfl, rfl, HG.out, Below.refl _ _⟩
  case round =>
    obtain ⟨i, hi, rfl, rfl, hs, hb⟩ := hrel
    have HB := hid hb
    have HD := hid hs
    clear hs hb
    by_cases hin : i < n
    · have hi1 : i < ns.length := by rw [HN.out]; exact hin
      obtain ⟨g, o, rfl, hc⟩ := H1.out.below HB.out i ns[i] (List.getElem?_eq_getElem hi1)
      have HStep := hid (show (ns.drop i).all Lib.validD = (Lib.validD ns[i] && (ns.drop (i + 1)).all Lib.validD) from by rw [drop_get hi1]; rfl)
      have HZx := hid (HZ.out ns[i] (List.getElem_mem hi1))
      generalize ns[i] = x at hc HStep HZx
      obtain ⟨S, hS⟩ : ∃ S, str x = S := ⟨_, rfl⟩
      rw [hS] at hc
      have HS := hid (show S.size ≤ 9223372036854775807 ∧ S.data.toList = x from by rw [← hS]; exact ⟨by have := HZx.out; show x.toArray.size ≤ _; simp; omega, by simp⟩)
      clear hi1 H1 hS
      cases hv : Lib.validD x with
      | true =>
        have HV := hid hv
        clear hv
        go_wp2_with (go_at_call 64; refine (Tryz.utf8_ValidString S _ HS.out.1 (HE.out.below HB.out).tabs).mono ?_; rintro e w1 ⟨rfl, hb⟩; rw [HS.out.2, HV.out]; have HB1 := hid (HB.out.trans (hb.mono HB.out.size)); clear hb)
        go_roundg (n - (i + 1) + 1)
        case measure => omega
        case rel =>
          refine ⟨i + 1, by omega, rfl, by push_cast; rfl, ?_, HB1.out⟩
          rw [← HD.out, HStep.out, HV.out]
          rfl
      | false =>
        have HV := hid hv
        clear hv
        go_wp2_with (go_at_call 64; refine (Tryz.utf8_ValidString S _ HS.out.1 (HE.out.below HB.out).tabs).mono ?_; rintro e w1 ⟨rfl, hb⟩; rw [HS.out.2, HV.out]; have HB1 := hid (HB.out.trans (hb.mono HB.out.size)); clear hb)
        go_ret
        refine ⟨?_, HB1.out⟩
        rw [← HD.out, HStep.out, HV.out]
        rfl
    · obtain rfl : i = n := by omega
      go_wp2
      go_ret
      refine ⟨?_, HB.out⟩
      have e1 : ns.drop i = [] := List.drop_of_length_le (by rw [HN.out]; exact Nat.le_refl _)
      rw [← HD.out, e1]
      rfl
theorem once_fold : ∀ (l seen : List B), ((l.map Lit.string).foldl addKey (seen.map Lit.string)) = (once seen l).map Lit.string
  | [], seen => rfl
  | x :: l, seen => by
    have hany : ∀ s : List B, (s.map Lit.string).any (fun y => y.sameKey (Lit.string x)) = s.contains x := by
      intro s
      induction s with
      | nil => rfl
      | cons a s ih =>
        rw [List.map_cons, List.any_cons, ih, List.contains_cons]
        congr 1
        show (a == x) = (x == a)
        exact Bool.eq_iff_iff.2 ⟨fun h => by rw [beq_iff_eq] at h ⊢; exact h.symm, fun h => by rw [beq_iff_eq] at h ⊢; exact h.symm⟩
    simp only [List.map_cons, List.foldl_cons, once]
    rw [← once_fold l]
    congr 1
    unfold addKey
    rw [hany]
    split
    · rfl
    · simp
theorem size_once (ns : List B) : Maps.size (Maps.setOf (H := Unit) (.agg []) (ns.map Lit.string)) = (once [] ns).length := by
  rw [size_setOf]
  · have := once_fold ns []
    simp only [List.map_nil] at this
    rw [this, List.length_map]
  · intro x hx
    obtain ⟨t, _, rfl⟩ := List.mem_map.1 hx
    trivial
theorem once_le : ∀ (l seen : List B), (once seen l).length ≤ seen.length + l.length
  | [], seen => by simp [once]
  | x :: l, seen => by
    simp only [once]
    have := once_le l (if seen.contains x then seen else seen ++ [x])
    split at this
    · rename_i h
      rw [if_pos h]
      simp only [List.length_cons]
      omega
    · rename_i h
      rw [if_neg h]
      simp only [List.length_append, List.length_cons, List.length_nil] at this ⊢
      omega
set_option maxRecDepth 20000 in
set_option maxHeartbeats 4000000 in
theorem twice_any {w : World} {ns : List B} {p : Option Addr} {c : Nat} (h : NamesOn w ns p) (hn : ns.length ≤ maxI) (hz : ∀ z ∈ ns, z.length ≤ maxI) :
    Calls Tryz.prog 44 #[.slice p ns.length c] w fun e w' => e = .returned (.bool (twice ns)) ∧ Below w.heap.size w w' := by
  unfold maxI at hn hz
  obtain ⟨n, e1⟩ : ∃ n, ns.length = n := ⟨_, rfl⟩
  have HN := hid e1
  have HZ := hid hz
  have H1 := hid h
  have HM0 := hid (show SetAt (w.alloc (.map #[] 0)) w.heap.size [] from World.ownsMap_made w Tryz.prog 9 (unitElem (H := Unit)))
  have HB0 := hid (below_new w (.map #[] 0))
  have hmm := @run_makeMap Tryz.prog
  rw [e1] at hn ⊢
  clear hz h e1
  go_enter Tryz.func44, Tryz.ntmps44
  go_wp2
  clear hmm
  go_loopg [9] (n + 1) (fun gk s9 wr => ∃ i : Nat, i ≤ n ∧ gk = n - i + 1 ∧ s9 = .int .i64 (i : Int) ∧ SetAt wr w.heap.size (ns.take i) ∧ Below w.heap.size w wr)
  case atStart => exact ⟨0, by omega, rfl, rfl, HM0.out, HB0.out⟩
  case round =>
    obtain ⟨i, hi, rfl, rfl, hs, hb⟩ := hrel
    have HB := hid hb
    have HS := hid hs
    clear hs hb
    by_cases hin : i < n
    · have hi1 : i < ns.length := by rw [HN.out]; exact hin
      obtain ⟨g, o, rfl, hc⟩ := H1.out.below HB.out i ns[i] (List.getElem?_eq_getElem hi1)
      have HTk := hid (show ns.take (i + 1) = ns.take i ++ [ns[i]] from by rw [List.take_add_one, List.getElem?_eq_getElem hi1]; rfl)
      have HZx := hid (HZ.out ns[i] (List.getElem_mem hi1))
      have HLen := hid (show (ns.take i).length = i from by rw [List.length_take]; omega)
      generalize ns[i] = x at hc HTk HZx
      have HKey := hid (Go.WideMaps.keyOf_string_mk (k := 9) Tryz.underlying9 (s := str x) (show x.toArray.size ≤ maxLen by have := HZx.out; unfold maxLen; simp; omega))
      clear hi1 H1
      go_wp2_with (at_mapUpdate; refine wpList_mapUpdate_own _ rfl _ _ _ 89 rfl 9 90 law Tryz.underlying89 (unitElem (H := Unit)) w.heap.size _ _ rfl HS.out (by unfold maxLen; rw [HLen.out]; omega) _ _ _ rfl rfl HKey.out _ [] unitElem_mk ?_; intro w2 hown hgrow; have HB2 := hid (HB.out.trans (show Below w.heap.size wr w2 from ⟨hgrow.os, hgrow.tape, hgrow.output, hgrow.size, fun k hk => hgrow.block k (Nat.lt_of_lt_of_le hk HB.out.size) (by simp; omega)⟩)); have HS2 := hid (show SetAt w2 w.heap.size (ns.take (i + 1)) from (by rw [HTk.out]; unfold SetAt; rw [List.map_append, List.map_cons, List.map_nil, Maps.setOf_snoc, List.length_append]; exact hown)); clear hown hgrow)
      go_roundg (n - (i + 1) + 1)
      case measure => omega
      case rel => exact ⟨i + 1, by omega, rfl, by push_cast; rfl, HS2.out, HB2.out⟩
    · obtain rfl : i = n := by omega
      have e1 : ns.take i = ns := List.take_of_length_le (by rw [HN.out]; exact Nat.le_refl _)
      rw [e1] at HS
      have HR := hid (show twice ns = decide ((once [] ns).length < i) from by unfold twice; rw [HN.out])
      have HSz := hid (size_once ns)
      generalize (once [] ns).length = K at HSz HR
      clear e1
      go_wp2_with (at_len; refine wpList_len_own _ rfl _ 89 rfl 9 90 Tryz.underlying89 (unitElem (H := Unit)) w.heap.size _ _ rfl HS.out ?_; rw [HSz.out])
      go_ret
      rw [HR.out]
      exact ⟨by simp, HB.out⟩
end Go.Proofs.YtkoeihliaandeaaGreatDoor
namespace Go.Proofs.YtkoeihliaandeaaGreatDoor
open Go.RowKit

theorem fits_flat {k : Int} {b : Bool} {t : B} {n : Int} {h : Bool} (ht : t.length ≤ maxI) : Fits (.mk k b t n h [] []) := by
  simp only [Fits, FitsL]
  exact ⟨ht, Nat.zero_le _, Nat.zero_le _, fun z hz => by simp at hz, trivial⟩
theorem isNum_len {t : B} (h : isNum t = true) : t.length ≤ 64 := by
  unfold isNum at h
  split at h
  · rename_i x e
    unfold number at e
    split at e
    · cases e
    · rename_i hn
      rw [e] at hn
      simp only [Res.left, List.length_nil] at hn
      omega
  · cases h
/-- Same of this value and another that has no parts. -/
theorem ValOn.noList {w : World} {k : Int} {b : Bool} {t : B} {n : Int} {hh : Bool} {ls : List JV} {ns : List B} {p1 p2 : Option Addr} {c1 c2 : Nat} (h : ValOn w (.mk k b t n hh ls ns) [.int .i64 k, .bool b, .string (str t), .int .i64 n, .bool hh, .slice p1 ls.length c1, .slice p2 ns.length c2]) :
    ValOn w (.mk k b t n hh [] ns) [.int .i64 k, .bool b, .string (str t), .int .i64 n, .bool hh, .slice none 0 0, .slice p2 ns.length c2] := by
  obtain ⟨F, h0, h⟩ := h
  refine ⟨F, h0, ?_⟩
  simp only [ValIs] at h ⊢
  obtain ⟨lv, nv, e, h1, h2⟩ := h
  simp only [vcells, List.cons.injEq, and_true, true_and] at e
  obtain ⟨rfl, rfl⟩ := e
  exact ⟨_, _, rfl, ⟨none, 0, rfl, Nat.le_refl _, fun h => absurd h (by simp)⟩, h2⟩
def FormedOk (t : JV) : Prop := ∀ (w : World) (cs : List Value), Env w → Fits t → ValOn w t cs → Calls Tryz.prog 43 #[.agg cs.toArray] w fun e w' => e = .returned (.bool (formed t)) ∧ Below w.heap.size w w'
theorem below_out {w W w' : World} (h1 : Below w.heap.size w W) (h2 : Below W.heap.size W w') : Below w.heap.size w w' := h1.trans (h2.mono h1.size)
set_option maxRecDepth 20000 in
set_option maxHeartbeats 4000000 in
theorem formed_one (b : Bool) (t : B) (n : Int) (hh : Bool) (ls : List JV) (ns : List B) : FormedOk (.mk 1 b t n hh ls ns) := by
  intro w cs hE hf hv
  obtain ⟨p1, c1, p2, c2, rfl, hp1, hp2⟩ := hv.open
  have hf2 := hf
  simp only [Fits, fitsL_iff] at hf2
  have HF := hid hf2
  have HFt := hid hf
  have HE := hid hE
  have HV := hid hv
  have HP := hid (And.intro hp1 hp2)
  obtain ⟨n1, e1⟩ : ∃ n1, ls.length = n1 := ⟨_, rfl⟩
  obtain ⟨n2, e2⟩ : ∃ n2, ns.length = n2 := ⟨_, rfl⟩
  have HN := hid (And.intro e1 e2)
  rw [e1, e2] at HV
  rw [e1, e2]
  clear hE hf hv hf2 hp1 hp2 e1 e2
  have HR := hid (show formed (.mk 1 b t n hh ls ns) = sameV (.mk 1 b t n hh ls ns) (.mk 1 false [] 0 false [] []) from rfl)
  rw [HR.out]
  go_enter Tryz.func43, Tryz.ntmps43
  go_wp2_with (go_at_call 17; have hcall := same_any (.mk 1 b t n hh ls ns) (.mk 1 false [] 0 false [] []) _ _ _ HFt.out (fits_flat (Nat.zero_le _)) (HV.out.below (below_new w (C7 1 b t n hh p1 n1 c1 p2 n2 c2))) ValOn.close; (with_reducible refine hcall.mono ?_); clear hcall; rintro e w1 ⟨rfl, hb⟩; have HB := hid (below_out (below_new w _) hb); clear hb)
  go_ret
  exact ⟨rfl, HB.out⟩
set_option maxRecDepth 20000 in
set_option maxHeartbeats 4000000 in
theorem formed_two (b : Bool) (t : B) (n : Int) (hh : Bool) (ls : List JV) (ns : List B) : FormedOk (.mk 2 b t n hh ls ns) := by
  intro w cs hE hf hv
  obtain ⟨p1, c1, p2, c2, rfl, hp1, hp2⟩ := hv.open
  have hf2 := hf
  simp only [Fits, fitsL_iff] at hf2
  have HF := hid hf2
  have HFt := hid hf
  have HE := hid hE
  have HV := hid hv
  have HP := hid (And.intro hp1 hp2)
  obtain ⟨n1, e1⟩ : ∃ n1, ls.length = n1 := ⟨_, rfl⟩
  obtain ⟨n2, e2⟩ : ∃ n2, ns.length = n2 := ⟨_, rfl⟩
  have HN := hid (And.intro e1 e2)
  rw [e1, e2] at HV
  rw [e1, e2]
  clear hE hf hv hf2 hp1 hp2 e1 e2
  have HR := hid (show formed (.mk 2 b t n hh ls ns) = sameV (.mk 2 b t n hh ls ns) (.mk 2 b [] 0 false [] []) from rfl)
  rw [HR.out]
  go_enter Tryz.func43, Tryz.ntmps43
  go_wp2_with (go_at_call 17; have hcall := same_any (.mk 2 b t n hh ls ns) (.mk 2 b [] 0 false [] []) _ _ _ HFt.out (fits_flat (Nat.zero_le _)) (HV.out.below (below_new w (C7 2 b t n hh p1 n1 c1 p2 n2 c2))) ValOn.close; (with_reducible refine hcall.mono ?_); clear hcall; rintro e w1 ⟨rfl, hb⟩; have HB := hid (below_out (below_new w _) hb); clear hb)
  go_ret
  exact ⟨rfl, HB.out⟩
set_option maxRecDepth 20000 in
set_option maxHeartbeats 4000000 in
theorem formed_none (k : Int) (b : Bool) (t : B) (n : Int) (hh : Bool) (ls : List JV) (ns : List B) (hk : k ≠ 1 ∧ k ≠ 2 ∧ k ≠ 3 ∧ k ≠ 4 ∧ k ≠ 5 ∧ k ≠ 6) : FormedOk (.mk k b t n hh ls ns) := by
  intro w cs hE hf hv
  obtain ⟨p1, c1, p2, c2, rfl, hp1, hp2⟩ := hv.open
  have hf2 := hf
  simp only [Fits, fitsL_iff] at hf2
  have HF := hid hf2
  have HFt := hid hf
  have HE := hid hE
  have HV := hid hv
  have HP := hid (And.intro hp1 hp2)
  obtain ⟨n1, e1⟩ : ∃ n1, ls.length = n1 := ⟨_, rfl⟩
  obtain ⟨n2, e2⟩ : ∃ n2, ns.length = n2 := ⟨_, rfl⟩
  have HN := hid (And.intro e1 e2)
  rw [e1, e2] at HV
  rw [e1, e2]
  clear hE hf hv hf2 hp1 hp2 e1 e2
  have HR := hid (show formed (.mk k b t n hh ls ns) = false from by simp only [formed]; rw [if_neg hk.1, if_neg hk.2.1, if_neg hk.2.2.1, if_neg hk.2.2.2.1, if_neg hk.2.2.2.2.1, if_neg hk.2.2.2.2.2])
  rw [HR.out]
  have q1 : (k == 1) = false := by simp only [beq_eq_false_iff_ne, ne_eq]; omega
  have q2 : (k == 2) = false := by simp only [beq_eq_false_iff_ne, ne_eq]; omega
  have q3 : (k == 3) = false := by simp only [beq_eq_false_iff_ne, ne_eq]; omega
  have q4 : (k == 4) = false := by simp only [beq_eq_false_iff_ne, ne_eq]; omega
  have q5 : (k == 5) = false := by simp only [beq_eq_false_iff_ne, ne_eq]; omega
  have q6 : (k == 6) = false := by simp only [beq_eq_false_iff_ne, ne_eq]; omega
  clear hk
  go_enter Tryz.func43, Tryz.ntmps43
  go_wp2
  go_ret
  exact ⟨rfl, below_new _ _⟩
set_option maxRecDepth 20000 in
set_option maxHeartbeats 4000000 in
theorem formed_four (b : Bool) (t : B) (n : Int) (hh : Bool) (ls : List JV) (ns : List B) : FormedOk (.mk 4 b t n hh ls ns) := by
  intro w cs hE hf hv
  obtain ⟨p1, c1, p2, c2, rfl, hp1, hp2⟩ := hv.open
  have hf2 := hf
  simp only [Fits, fitsL_iff] at hf2
  have HF := hid hf2
  have HFt := hid hf
  have HE := hid hE
  have HV := hid hv
  have HP := hid (And.intro hp1 hp2)
  obtain ⟨n1, e1⟩ : ∃ n1, ls.length = n1 := ⟨_, rfl⟩
  obtain ⟨n2, e2⟩ : ∃ n2, ns.length = n2 := ⟨_, rfl⟩
  have HN := hid (And.intro e1 e2)
  rw [e1, e2] at HV
  rw [e1, e2]
  clear hE hf hv hf2 hp1 hp2 e1 e2
  have HR := hid (show formed (.mk 4 b t n hh ls ns) = (Lib.validD t && sameV (.mk 4 b t n hh ls ns) (.mk 4 false t 0 false [] [])) from rfl)
  rw [HR.out]
  have HSz := hid (show t.toArray.size ≤ 9223372036854775807 by have := HF.out.1; unfold maxI at this; simp; omega)
  have HTl := hid (show (str t).data.toList = t from by simp)
  cases hv : Lib.validD t with
  | false =>
    have HVd := hid hv
    clear hv
    go_enter Tryz.func43, Tryz.ntmps43
    go_wp2_with (go_at_call 64; refine (Tryz.utf8_ValidString (str t) _ HSz.out (HE.out.below (below_new _ _)).tabs).mono ?_; rintro e w1 ⟨rfl, hb⟩; rw [HTl.out, HVd.out]; have HB0 := hid hb; have HB := hid (below_out (below_new w _) hb); clear hb)
    go_ret
    exact ⟨rfl, HB.out⟩
  | true =>
    have HVd := hid hv
    clear hv
    go_enter Tryz.func43, Tryz.ntmps43
    go_wp2_with (first
      | (go_at_call 64; refine (Tryz.utf8_ValidString (str t) _ HSz.out (HE.out.below (below_new _ _)).tabs).mono ?_; rintro e w1 ⟨rfl, hb⟩; rw [HTl.out, HVd.out]; have HB0 := hid hb; have HB := hid (below_out (below_new w _) hb); have HX := hid ((hb.block w.heap.size (by simp)).trans (heap_alloc_new w (C7 4 b t n hh p1 n1 c1 p2 n2 c2))); have s2 := seven HX.out; obtain ⟨x0, x1, x2, x3, x4, x5, x6, _⟩ := s2; clear hb)
      | (go_at_call 17; have hcall := same_any (.mk 4 b t n hh ls ns) (.mk 4 false t 0 false [] []) _ _ _ HFt.out (fits_flat HF.out.1) (HV.out.below HB.out) ValOn.close; (with_reducible refine hcall.mono ?_); clear hcall; rintro e w2 ⟨rfl, hb⟩; have HB2 := hid (below_out HB.out hb); clear hb))
    go_ret
    exact ⟨by simp, HB2.out⟩
set_option maxRecDepth 20000 in
set_option maxHeartbeats 4000000 in
theorem formed_five (b : Bool) (t : B) (n : Int) (hh : Bool) (ls : List JV) (ns : List B) : FormedOk (.mk 5 b t n hh ls ns) := by
  intro w cs hE hf hv
  obtain ⟨p1, c1, p2, c2, rfl, hp1, hp2⟩ := hv.open
  have hf2 := hf
  simp only [Fits, fitsL_iff] at hf2
  have HF := hid hf2
  have HFt := hid hf
  have HE := hid hE
  have HV := hid hv
  have HP := hid (And.intro hp1 hp2)
  obtain ⟨n1, e1⟩ : ∃ n1, ls.length = n1 := ⟨_, rfl⟩
  obtain ⟨n2, e2⟩ : ∃ n2, ns.length = n2 := ⟨_, rfl⟩
  have HN := hid (And.intro e1 e2)
  rw [e1, e2] at HV
  rw [e1, e2]
  clear hE hf hv hf2 hp1 hp2 e1 e2
  have HR := hid (show formed (.mk 5 b t n hh ls ns) = sameV (.mk 5 b t n hh [] ns) (.mk 5 false [] 0 false [] []) from rfl)
  rw [HR.out]
  have HFt2 := hid (show Fits (.mk 5 b t n hh [] ns) from by simp only [Fits, FitsL]; exact ⟨HF.out.1, Nat.zero_le _, HF.out.2.2.1, HF.out.2.2.2.1, trivial⟩)
  have HV2 := hid (show ValOn w (.mk 5 b t n hh [] ns) [.int .i64 5, .bool b, .string (str t), .int .i64 n, .bool hh, .slice none 0 0, .slice p2 n2 c2] from by
    have h := HV.out
    rw [← HN.out.1, ← HN.out.2] at h
    have := h.noList
    rw [HN.out.2] at this
    exact this)
  go_enter Tryz.func43, Tryz.ntmps43
  go_wp2_with (go_at_call 17; have hcall := same_any (.mk 5 b t n hh [] ns) (.mk 5 false [] 0 false [] []) _ _ _ HFt2.out (fits_flat (Nat.zero_le _)) (HV2.out.below (below_new w (C7 5 b t n hh none 0 0 p2 n2 c2))) ValOn.close; (with_reducible refine hcall.mono ?_); clear hcall; rintro e w1 ⟨rfl, hb⟩; have HB := hid (below_out (below_new w _) hb); clear hb)
  go_ret
  exact ⟨rfl, HB.out⟩
set_option maxRecDepth 20000 in
set_option maxHeartbeats 4000000 in
theorem formed_six (b : Bool) (t : B) (n : Int) (hh : Bool) (ls : List JV) (ns : List B) : FormedOk (.mk 6 b t n hh ls ns) := by
  intro w cs hE hf hv
  obtain ⟨p1, c1, p2, c2, rfl, hp1, hp2⟩ := hv.open
  have hf2 := hf
  simp only [Fits, fitsL_iff] at hf2
  have HF := hid hf2
  have HFt := hid hf
  have HE := hid hE
  have HV := hid hv
  have HP := hid (And.intro hp1 hp2)
  obtain ⟨n1, e1⟩ : ∃ n1, ls.length = n1 := ⟨_, rfl⟩
  obtain ⟨n2, e2⟩ : ∃ n2, ns.length = n2 := ⟨_, rfl⟩
  have HN := hid (And.intro e1 e2)
  rw [e1, e2] at HV
  rw [e1, e2]
  clear hE hf hv hf2 hp1 hp2 e1 e2
  have HR := hid (show formed (.mk 6 b t n hh ls ns) = (decide (ns.length = ls.length) && (ns.all Lib.validD && sameV (.mk 6 b t n hh [] []) (.mk 6 false [] 0 false [] []))) from rfl)
  rw [HR.out, HN.out.1, HN.out.2]
  have HB0 := hid (below_new w (C7 6 b t n hh p1 n1 c1 p2 n2 c2))
  by_cases hl : n2 = n1
  · subst hl
    cases hv : ns.all Lib.validD with
    | false =>
      have HVd := hid hv
      clear hv
      go_enter Tryz.func43, Tryz.ntmps43
      go_wp2_with (go_at_call 65; have hcall := allValid_any (c := c2) (HE.out.below HB0.out) (HP.out.2.below HB0.out) HF.out.2.2.1 HF.out.2.2.2.1; rw [HN.out.2, HVd.out] at hcall; refine hcall.mono ?_; clear hcall; rintro e w1 ⟨rfl, hb⟩; have HB := hid (below_out HB0.out hb); clear hb)
      go_ret
      exact ⟨by simp, HB.out⟩
    | true =>
      have HVd := hid hv
      clear hv
      go_enter Tryz.func43, Tryz.ntmps43
      go_wp2_with (first
        | (go_at_call 65; have hcall := allValid_any (c := c2) (HE.out.below HB0.out) (HP.out.2.below HB0.out) HF.out.2.2.1 HF.out.2.2.2.1; rw [HN.out.2, HVd.out] at hcall; refine hcall.mono ?_; clear hcall; rintro e w1 ⟨rfl, hb⟩; have HB := hid (below_out HB0.out hb); have HX := hid ((hb.block w.heap.size (by simp)).trans (heap_alloc_new w (C7 6 b t n hh p1 n2 c1 p2 n2 c2))); have s2 := seven HX.out; obtain ⟨x0, x1, x2, x3, x4, x5, x6, xz⟩ := s2; have xz5 := xz 5; have xz6 := xz 6; clear xz; clear hb)
        | (go_at_call 17; go_loud (have hcall := same_any (.mk 6 b t n hh [] []) (.mk 6 false [] 0 false [] []) ((w1.setCell ⟨w.heap.size, 5, none⟩ (.slice none 0 0)).setCell ⟨w.heap.size, 6, none⟩ (.slice none 0 0)) _ _ (fits_flat HF.out.1) (fits_flat (Nat.zero_le _)) ValOn.close ValOn.close; (with_reducible refine hcall.mono ?_); clear hcall; rintro e w2 ⟨rfl, hb⟩; have HB2 := hid (below_out (Below.setCell (Below.setCell HB.out (Nat.le_refl _) _) (Nat.le_refl _) _) hb); clear hb)))
      go_ret
      exact ⟨by simp, HB2.out⟩
  · have q1 : ((n2 : Int) == (n1 : Int)) = false := by simp only [beq_eq_false_iff_ne, ne_eq]; omega
    have q2 : (n2 == n1) = false := by simp only [beq_eq_false_iff_ne, ne_eq]; omega
    have q3 : ((n2 : Int) != (n1 : Int)) = true := by simpa using (show ¬ (n2 : Int) = (n1 : Int) by omega)
    have q4 : (n2 != n1) = true := by simpa using hl
    have HD := hid (decide_eq_false hl)
    rw [HD.out]
    clear hl
    go_enter Tryz.func43, Tryz.ntmps43
    go_wp2
    go_ret
    exact ⟨rfl, HB0.out⟩
end Go.Proofs.YtkoeihliaandeaaGreatDoor
namespace Go.Proofs.YtkoeihliaandeaaGreatDoor
open Go.RowKit

theorem late_skip {P : Program} {ops : Array Oper} {Q : Exit → Act → World → Prop} {md : Region.Mode} {S : World → Prop} {D : Nat → Bool} {i : Nat} {oi : Oper} {fuel : Nat} {listed : Array Bool} {a : Act} {w : World} (d : Option Tmp) (hi : ops[i]? = some oi) (hd : oi.dst = d)
    (hs : Region.noSelect ops = true) (hf : Region.free md ops listed i = true) (hr : (Region.ready md ops listed).contains i = true) (hD : lateB md ops D i = true) (hn : noneLateB D listed = true)
    (hQ : ∀ c a w, Q (.panic c) (a.put d undef) w → Q (.panic c) a w) (hw : Region.wanted oi (yielded ops a.tmps) = false) (hS : S w)
    (h : wpAnyD P md ops Q S D fuel (listed.setIfInBounds i true) (a.put d undef) w) : wpAnyD P md ops Q S D (fuel + 1) listed a w := by
  subst hd; exact wpAnyD_take hi hs hf hr hD hn hQ (Or.inr ⟨hw, rfl⟩) hS h
theorem new_drew (w : World) (o : Obj) : Below w.heap.size w (w.alloc o).drew := ⟨rfl, rfl, rfl, (below_new w o).size, fun k hk => (below_new w o).block k hk⟩
set_option maxRecDepth 20000 in
set_option maxHeartbeats 4000000 in
theorem formed_three (b : Bool) (t : B) (n : Int) (hh : Bool) (ls : List JV) (ns : List B) : FormedOk (.mk 3 b t n hh ls ns) := by
  intro w cs hE hf hv
  obtain ⟨p1, c1, p2, c2, rfl, hp1, hp2⟩ := hv.open
  have hf2 := hf
  simp only [Fits, fitsL_iff] at hf2
  have HF := hid hf2
  have HFt := hid hf
  have HE := hid hE
  have HV := hid hv
  obtain ⟨n1, e1⟩ : ∃ n1, ls.length = n1 := ⟨_, rfl⟩
  obtain ⟨n2, e2⟩ : ∃ n2, ns.length = n2 := ⟨_, rfl⟩
  rw [e1, e2] at HV
  rw [e1, e2]
  clear hE hf hv hf2 hp1 hp2 e1 e2
  have HR := hid (show formed (.mk 3 b t n hh ls ns) = (isNum t && sameV (.mk 3 b t n hh ls ns) (numV t)) from rfl)
  rw [HR.out]
  cases hv : isNum t with
  | false =>
    have HVd := hid hv
    clear hv
    go_enter Tryz.func43, Tryz.ntmps43
    go_wp2
    refine wp_region_noPanic ?_
    refine any_begin 11 (by kernel_rfl) (by kernel_rfl) ?_
    refine late_begin (fun U => U.heap[w.heap.size]? = some (C7 3 b t n hh p1 n1 c1 p2 n2 c2)) (fun _ => false) (heap_alloc_new w _) (fun hS => ?_)
    have HBV := hid (show Below w.heap.size w (w.alloc (C7 3 b t n hh p1 n1 c1 p2 n2 c2)).drew from new_drew w _)
    have HLt := hid (lt_of_heap hS)
    generalize (w.alloc (C7 3 b t n hh p1 n1 c1 p2 n2 c2)).drew = V at hS HBV HLt ⊢
    refine late_take (i := 0) (some 23) rfl rfl (by kernel_rfl) (by kernel_rfl) (by kernel_rfl) (by kernel_rfl) (by kernel_rfl) (fun _ _ _ h => h) (by rfl) (v := ?v0f) ?hy0f hS ?rest0f
    case hy0f => intro w0 hSw; obtain ⟨x0, x1, x2, x3, x4, x5, x6, _⟩ := seven hSw; go_simp; try with_reducible rfl
    simp only [Act.put, List.setIfInBounds_toArray, List.set_cons_zero, List.set_cons_succ]
    refine late_take (i := 1) (some 24) rfl rfl (by kernel_rfl) (by kernel_rfl) (by kernel_rfl) (by kernel_rfl) (by kernel_rfl) (fun _ _ _ h => h) (by rfl) (v := ?v1f) ?hy1f hS ?rest1f
    case hy1f => intro w0 hSw; obtain ⟨x0, x1, x2, x3, x4, x5, x6, _⟩ := seven hSw; go_simp; try with_reducible rfl
    simp only [Act.put, List.setIfInBounds_toArray, List.set_cons_zero, List.set_cons_succ]
    refine wpAnyD_one (i := 2) (by kernel_rfl) rfl (fun K hK => ?_)
    go_simp
    go_at_call 63
    refine (isNumber_any t HF.out.1 V).mono ?_
    rintro e w1 ⟨rfl, hb⟩
    rw [HVd.out]
    have HB1 := hid (below_out HBV.out hb)
    have hS1 := (hb.block _ HLt.out).trans hS
    clear hb
    refine hK _ _ ⟨fun _ => hS1, ?_⟩
    clear hK K
    replace hS := hS1
    clear hS1
    refine late_take (i := 3) (some 26) rfl rfl (by kernel_rfl) (by kernel_rfl) (by kernel_rfl) (by kernel_rfl) (by kernel_rfl) (fun _ _ _ h => h) (by rfl) (v := ?v3f) ?hy3f hS ?rest3f
    case hy3f => intro w0 hSw; obtain ⟨x0, x1, x2, x3, x4, x5, x6, _⟩ := seven hSw; go_simp; try with_reducible rfl
    simp only [Act.put, List.setIfInBounds_toArray, List.set_cons_zero, List.set_cons_succ]
    refine late_skip (i := 4) (some 27) rfl rfl (by kernel_rfl) (by kernel_rfl) (by kernel_rfl) (by kernel_rfl) (by kernel_rfl) (fun _ _ _ h => h) (by rfl) hS ?_
    simp only [Act.put, List.setIfInBounds_toArray, List.set_cons_zero, List.set_cons_succ]
    refine late_skip (i := 5) (some 28) rfl rfl (by kernel_rfl) (by kernel_rfl) (by kernel_rfl) (by kernel_rfl) (by kernel_rfl) (fun _ _ _ h => h) (by rfl) hS ?_
    simp only [Act.put, List.setIfInBounds_toArray, List.set_cons_zero, List.set_cons_succ]
    refine late_skip (i := 6) (some 29) rfl rfl (by kernel_rfl) (by kernel_rfl) (by kernel_rfl) (by kernel_rfl) (by kernel_rfl) (fun _ _ _ h => h) (by rfl) hS ?_
    simp only [Act.put, List.setIfInBounds_toArray, List.set_cons_zero, List.set_cons_succ]
    refine late_skip (i := 7) (some 30) rfl rfl (by kernel_rfl) (by kernel_rfl) (by kernel_rfl) (by kernel_rfl) (by kernel_rfl) (fun _ _ _ h => h) (by rfl) hS ?_
    simp only [Act.put, List.setIfInBounds_toArray, List.set_cons_zero, List.set_cons_succ]
    refine late_skip (i := 8) (some 31) rfl rfl (by kernel_rfl) (by kernel_rfl) (by kernel_rfl) (by kernel_rfl) (by kernel_rfl) (fun _ _ _ h => h) (by rfl) hS ?_
    simp only [Act.put, List.setIfInBounds_toArray, List.set_cons_zero, List.set_cons_succ]
    refine late_take (i := 9) (some 32) rfl rfl (by kernel_rfl) (by kernel_rfl) (by kernel_rfl) (by kernel_rfl) (by kernel_rfl) (fun _ _ _ h => h) (by rfl) (v := ?v9f) ?hy9f hS ?rest9f
    case hy9f => intro w0 hSw; obtain ⟨x0, x1, x2, x3, x4, x5, x6, _⟩ := seven hSw; go_simp; try with_reducible rfl
    simp only [Act.put, List.setIfInBounds_toArray, List.set_cons_zero, List.set_cons_succ]
    refine late_take (i := 10) (some 2) rfl rfl (by kernel_rfl) (by kernel_rfl) (by kernel_rfl) (by kernel_rfl) (by kernel_rfl) (fun _ _ _ h => h) (by rfl) (v := ?v10f) ?hy10f hS ?rest10f
    case hy10f => intro w0 hSw; obtain ⟨x0, x1, x2, x3, x4, x5, x6, _⟩ := seven hSw; go_simp; try with_reducible rfl
    simp only [Act.put, List.setIfInBounds_toArray, List.set_cons_zero, List.set_cons_succ]
    refine late_done (by kernel_rfl) ?_ _
    refine NoPanic.normal ?_
    clear hS
    go_wp2
    go_ret
    exact ⟨by simp, HB1.out⟩
  | true =>
    have HVd := hid hv
    clear hv
    have HLn := hid (show t.length ≤ 1048576 from Nat.le_trans (isNum_len HVd.out) (by decide))
    go_enter Tryz.func43, Tryz.ntmps43
    go_wp2
    refine wp_region_noPanic ?_
    refine any_begin 11 (by kernel_rfl) (by kernel_rfl) ?_
    refine late_begin (fun U => U.heap[w.heap.size]? = some (C7 3 b t n hh p1 n1 c1 p2 n2 c2)) (fun _ => false) (heap_alloc_new w _) (fun hS => ?_)
    have HBV := hid (show Below w.heap.size w (w.alloc (C7 3 b t n hh p1 n1 c1 p2 n2 c2)).drew from new_drew w _)
    have HLt := hid (lt_of_heap hS)
    generalize (w.alloc (C7 3 b t n hh p1 n1 c1 p2 n2 c2)).drew = V at hS HBV HLt ⊢
    refine late_take (i := 0) (some 23) rfl rfl (by kernel_rfl) (by kernel_rfl) (by kernel_rfl) (by kernel_rfl) (by kernel_rfl) (fun _ _ _ h => h) (by rfl) (v := ?v0t) ?hy0t hS ?rest0t
    case hy0t => intro w0 hSw; obtain ⟨x0, x1, x2, x3, x4, x5, x6, _⟩ := seven hSw; go_simp; try with_reducible rfl
    simp only [Act.put, List.setIfInBounds_toArray, List.set_cons_zero, List.set_cons_succ]
    refine late_take (i := 1) (some 24) rfl rfl (by kernel_rfl) (by kernel_rfl) (by kernel_rfl) (by kernel_rfl) (by kernel_rfl) (fun _ _ _ h => h) (by rfl) (v := ?v1t) ?hy1t hS ?rest1t
    case hy1t => intro w0 hSw; obtain ⟨x0, x1, x2, x3, x4, x5, x6, _⟩ := seven hSw; go_simp; try with_reducible rfl
    simp only [Act.put, List.setIfInBounds_toArray, List.set_cons_zero, List.set_cons_succ]
    refine wpAnyD_one (i := 2) (by kernel_rfl) rfl (fun K hK => ?_)
    go_simp
    go_at_call 63
    refine (isNumber_any t HF.out.1 V).mono ?_
    rintro e w1 ⟨rfl, hb⟩
    rw [HVd.out]
    have HB1 := hid (below_out HBV.out hb)
    have hS1 := (hb.block _ HLt.out).trans hS
    clear hb
    refine hK _ _ ⟨fun _ => hS1, ?_⟩
    clear hK K
    replace hS := hS1
    clear hS1
    refine late_take (i := 3) (some 26) rfl rfl (by kernel_rfl) (by kernel_rfl) (by kernel_rfl) (by kernel_rfl) (by kernel_rfl) (fun _ _ _ h => h) (by rfl) (v := ?v3t) ?hy3t hS ?rest3t
    case hy3t => intro w0 hSw; obtain ⟨x0, x1, x2, x3, x4, x5, x6, _⟩ := seven hSw; go_simp; try with_reducible rfl
    simp only [Act.put, List.setIfInBounds_toArray, List.set_cons_zero, List.set_cons_succ]
    refine late_take (i := 4) (some 27) rfl rfl (by kernel_rfl) (by kernel_rfl) (by kernel_rfl) (by kernel_rfl) (by kernel_rfl) (fun _ _ _ h => h) (by rfl) (v := ?v4t) ?hy4t hS ?rest4t
    case hy4t => intro w0 hSw; obtain ⟨x0, x1, x2, x3, x4, x5, x6, _⟩ := seven hSw; go_simp; try with_reducible rfl
    simp only [Act.put, List.setIfInBounds_toArray, List.set_cons_zero, List.set_cons_succ]
    refine late_take (i := 5) (some 28) rfl rfl (by kernel_rfl) (by kernel_rfl) (by kernel_rfl) (by kernel_rfl) (by kernel_rfl) (fun _ _ _ h => h) (by rfl) (v := ?v5t) ?hy5t hS ?rest5t
    case hy5t => intro w0 hSw; obtain ⟨x0, x1, x2, x3, x4, x5, x6, _⟩ := seven hSw; go_simp; try with_reducible rfl
    simp only [Act.put, List.setIfInBounds_toArray, List.set_cons_zero, List.set_cons_succ]
    refine late_take (i := 6) (some 29) rfl rfl (by kernel_rfl) (by kernel_rfl) (by kernel_rfl) (by kernel_rfl) (by kernel_rfl) (fun _ _ _ h => h) (by rfl) (v := ?v6t) ?hy6t hS ?rest6t
    case hy6t => intro w0 hSw; obtain ⟨x0, x1, x2, x3, x4, x5, x6, _⟩ := seven hSw; go_simp; try with_reducible rfl
    simp only [Act.put, List.setIfInBounds_toArray, List.set_cons_zero, List.set_cons_succ]
    have HLt1 := hid (lt_of_heap hS)
    have hnum := num_any t HLn.out w1 (HE.out.below HB1.out)
    simp only [vcells] at hnum
    have HNm := hid hnum
    clear hnum
    refine wpAnyD_one (i := 7) (by kernel_rfl) rfl (fun K hK => ?_)
    go_simp
    go_at_call 54
    refine HNm.out.mono ?_
    rintro e w2 ⟨rfl, hb⟩
    have HB2 := hid (below_out HB1.out hb)
    have hS2 := (hb.block _ HLt1.out).trans hS
    clear hb
    refine hK _ _ ⟨fun _ => hS2, ?_⟩
    clear hK K
    replace hS := hS2
    clear hS2
    have HLt2 := hid (lt_of_heap hS)
    refine wpAnyD_one (i := 8) (by kernel_rfl) rfl (fun K hK => ?_)
    go_simp
    go_at_call 17
    have hcall := same_any (.mk 3 b t n hh ls ns) (numV t) w2 _ _ HFt.out (by rw [num_parts]; exact fits_flat HF.out.1) (HV.out.below HB2.out) (by rw [num_parts]; exact ValOn.close)
    refine hcall.mono ?_
    clear hcall
    rintro e w3 ⟨rfl, hb⟩
    have HB3 := hid (below_out HB2.out hb)
    have hS3 := (hb.block _ HLt2.out).trans hS
    clear hb
    refine hK _ _ ⟨fun _ => hS3, ?_⟩
    clear hK K
    replace hS := hS3
    clear hS3
    refine late_take (i := 9) (some 32) rfl rfl (by kernel_rfl) (by kernel_rfl) (by kernel_rfl) (by kernel_rfl) (by kernel_rfl) (fun _ _ _ h => h) (by rfl) (v := ?v9t) ?hy9t hS ?rest9t
    case hy9t => intro w0 hSw; obtain ⟨x0, x1, x2, x3, x4, x5, x6, _⟩ := seven hSw; go_simp; try with_reducible rfl
    simp only [Act.put, List.setIfInBounds_toArray, List.set_cons_zero, List.set_cons_succ]
    refine late_take (i := 10) (some 2) rfl rfl (by kernel_rfl) (by kernel_rfl) (by kernel_rfl) (by kernel_rfl) (by kernel_rfl) (fun _ _ _ h => h) (by rfl) (v := ?v10t) ?hy10t hS ?rest10t
    case hy10t => intro w0 hSw; obtain ⟨x0, x1, x2, x3, x4, x5, x6, _⟩ := seven hSw; go_simp; try with_reducible rfl
    simp only [Act.put, List.setIfInBounds_toArray, List.set_cons_zero, List.set_cons_succ]
    refine late_done (by kernel_rfl) ?_ _
    refine NoPanic.normal ?_
    clear hS
    go_wp2
    go_ret
    exact ⟨by simp, HB3.out⟩
theorem formed_any : ∀ t : JV, FormedOk t
  | .mk k b t n hh ls ns => by
    by_cases h1 : k = 1
    · subst h1; exact formed_one b t n hh ls ns
    by_cases h2 : k = 2
    · subst h2; exact formed_two b t n hh ls ns
    by_cases h3 : k = 3
    · subst h3; exact formed_three b t n hh ls ns
    by_cases h4 : k = 4
    · subst h4; exact formed_four b t n hh ls ns
    by_cases h5 : k = 5
    · subst h5; exact formed_five b t n hh ls ns
    by_cases h6 : k = 6
    · subst h6; exact formed_six b t n hh ls ns
    exact formed_none k b t n hh ls ns ⟨h1, h2, h3, h4, h5, h6⟩
/-! ### fault -/
def FaultOk (t : JV) : Prop := ∀ (w : World) (cs : List Value), Env w → Fits t → ValOn w t cs → Calls Tryz.prog 25 #[.agg cs.toArray] w fun e w' => e = .returned (errOf (fault t)) ∧ Below w.heap.size w w'
theorem faults_cases : ∀ (ls : List JV) (f : Nat), (f = 0 ∨ f = 6) → (∀ x ∈ ls, fault x = 0 ∨ fault x = 3 ∨ fault x = 6) → faults f ls = 0 ∨ faults f ls = 3 ∨ faults f ls = 6
  | [], f, h, _ => by simp only [faults]; omega
  | x :: xs, f, h, hx => by
    have h1 := hx x (by simp)
    simp only [faults]
    split
    · exact .inr (.inl rfl)
    · refine faults_cases xs _ ?_ (fun y hy => hx y (by simp [hy]))
      split <;> omega
mutual
theorem fault_cases : ∀ t : JV, fault t = 0 ∨ fault t = 3 ∨ fault t = 6
  | .mk k b t n hh ls ns => by
    simp only [fault]
    split
    · exact .inr (.inl rfl)
    · exact faults_cases ls _ (by split <;> simp) (fault_all ls)
theorem fault_all : ∀ ls : List JV, ∀ x ∈ ls, fault x = 0 ∨ fault x = 3 ∨ fault x = 6
  | [], x, h => by simp at h
  | y :: ys, x, h => by
    simp only [List.mem_cons] at h
    rcases h with rfl | h
    · exact fault_cases x
    · exact fault_all ys x h
end
theorem eql_errs (w : World) (a b : Int) : (binOp .eql 27 (.iface 43 (.int .i64 a)) (.iface 43 (.int .i64 b))).run Tryz.prog w = .ok (.bool (a == b)) w := by
  obtain ⟨i, hi, hc⟩ : ∃ i, Tryz.prog.info? 43 = some i ∧ i.comparable = true := by
    have h : (Tryz.prog.info? 43).map (·.comparable) = some true := by kernel_rfl
    cases e : Tryz.prog.info? 43 with
    | none => rw [e] at h; cases h
    | some i => rw [e] at h; exact ⟨i, rfl, by simpa using h⟩
  have h : ∀ d, (Op.equalIn (d + 2) 27 (.iface 43 (.int .i64 a)) (.iface 43 (.int .i64 b))).run Tryz.prog w = .ok (a == b) w := fun d => by
    simp [Op.equalIn, run_underlying Tryz.underlying27, run_underlying Tryz.underlying43, typeInfo, hi, hc]
  simp only [binOp]
  simp [Op.equal, Op.maxDepth, h 9998]
theorem eql_none (w : World) (v : Value) : (binOp .eql 27 .nilIface (.iface 43 v)).run Tryz.prog w = .ok (.bool false) w := run_eql_iface_nil_left w 43 v Tryz.underlying27
theorem errOf_num (k : Nat) : errOf k = if k = 0 then .nilIface else errV k := rfl
set_option maxRecDepth 20000 in
set_option maxHeartbeats 4000000 in
theorem fault_one {k : Int} {b : Bool} {t : B} {n : Int} {hh : Bool} {ls : List JV} {ns : List B} (hS : ∀ x ∈ ls, FaultOk x) : FaultOk (.mk k b t n hh ls ns) := by
  intro w cs hE hf hv
  obtain ⟨p1, c1, p2, c2, rfl, hp1, hp2⟩ := hv.open
  have hf2 := hf
  simp only [Fits, fitsL_iff] at hf2
  have hn := hf2.2.1
  unfold maxI at hn
  have HF := hid hf2
  have HFt := hid hf
  have HE := hid hE
  have HV := hid hv
  have HP := hid (And.intro hp1 hp2)
  have HSO := hid hS
  obtain ⟨n1, e1⟩ : ∃ n1, ls.length = n1 := ⟨_, rfl⟩
  obtain ⟨n2, e2⟩ : ∃ n2, ns.length = n2 := ⟨_, rfl⟩
  have HN := hid (And.intro e1 e2)
  rw [e1, e2] at HV
  rw [e1] at hn
  rw [e1, e2]
  clear hE hf hv hf2 hp1 hp2 e1 e2 hS
  have HB0 := hid (below_new w (C7 k b t n hh p1 n1 c1 p2 n2 c2))
  have r0 := fun W => eql_none W (.int .i64 3)
  have r3 := fun W => eql_errs W 3 3
  have r6 := fun W => eql_errs W 6 3
  cases hfm : formed (.mk k b t n hh ls ns) with
  | false =>
    have HFm := hid hfm
    have HR := hid (show fault (.mk k b t n hh ls ns) = 3 from by simp only [fault]; rw [hfm]; rfl)
    rw [HR.out]
    clear hfm
    go_enter Tryz.func25, Tryz.ntmps25
    go_wp2_with (go_at_call 43; have hcall := formed_any (.mk k b t n hh ls ns) _ _ (HE.out.below HB0.out) HFt.out (HV.out.below HB0.out); (with_reducible refine hcall.mono ?_); clear hcall; rintro e w1 ⟨rfl, hb⟩; rw [HFm.out]; have HB := hid (below_out HB0.out hb); clear hb)
    go_ret
    exact ⟨rfl, HB.out⟩
  | true =>
    have HFm := hid hfm
    obtain ⟨G, hG⟩ : ∃ G, fault (.mk k b t n hh ls ns) = G := ⟨_, rfl⟩
    have HG := hid (show faults (if twice ns then 6 else 0) ls = G from by rw [← hG]; simp only [fault]; rw [hfm]; rfl)
    rw [hG]
    clear hfm hG
    obtain ⟨f0, hf0, hf06⟩ : ∃ f0, (if twice ns then 6 else 0) = f0 ∧ (f0 = 0 ∨ f0 = 6) := ⟨_, rfl, by split <;> simp⟩
    have HF0 := hid hf0
    rw [hf0] at HG
    obtain ⟨tw, htw⟩ : ∃ tw, twice ns = tw := ⟨_, rfl⟩
    have HTw := hid htw
    clear htw
    rcases hf06 with rfl | rfl
    · obtain rfl : tw = false := by
        have := HF0.out
        rw [HTw.out] at this
        cases tw <;> simp_all
      clear HF0 hf0
      go_enter Tryz.func25, Tryz.ntmps25
      go_wp2_with (first | (go_at_call 43; have hcall := formed_any (.mk k b t n hh ls ns) _ _ (HE.out.below HB0.out) HFt.out (HV.out.below HB0.out); (with_reducible refine hcall.mono ?_); clear hcall; rintro e w1 ⟨rfl, hb⟩; rw [HFm.out]; have HB1 := hid (below_out HB0.out hb); have HX := hid ((hb.block w.heap.size (by simp)).trans (heap_alloc_new w (C7 k b t n hh p1 n1 c1 p2 n2 c2))); have s2 := seven HX.out; obtain ⟨x0, x1, x2, x3, x4, x5, x6, _⟩ := s2; clear hb) | (go_at_call 44; have hcall := twice_any (c := c2) (HP.out.2.below HB1.out) HF.out.2.2.1 HF.out.2.2.2.1; rw [HN.out.2, HTw.out] at hcall; refine hcall.mono ?_; clear hcall; rintro e w2 ⟨rfl, hb⟩; have HB2 := hid (below_out HB1.out hb); have HX2 := hid ((hb.block w.heap.size (lt_of_heap HX.out)).trans HX.out); have s3 := seven HX2.out; obtain ⟨y0, y1, y2, y3, y4, y5, y6, _⟩ := s3; clear hb))
      go_loopg [3, 18] (n1 + 1) (fun gk s3 s18 wr => ∃ i f : Nat, i ≤ n1 ∧ gk = n1 - i + 1 ∧ s3 = errOf f ∧ (f = 0 ∨ f = 6) ∧ s18 = .int .i64 (i : Int) ∧ faults f (ls.drop i) = G ∧ Below w.heap.size w wr)
      case atStart => exact ⟨0, 0, by omega, rfl, rfl, by simp, rfl, HG.out, HB2.out⟩
      case round =>
        obtain ⟨i, f, hi, rfl, rfl, hf6, rfl, hs, hb⟩ := hrel
        have HB := hid hb
        have HD := hid hs
        clear hs hb
        by_cases hin : i < n1
        · have hi1 : i < ls.length := by rw [HN.out.1]; exact hin
          obtain ⟨g, o, cs, rfl, hv1, hc1⟩ := HP.out.1.below HB.out i ls[i] (List.getElem?_eq_getElem hi1)
          have HStep := hid (show faults f (ls.drop i) = if fault ls[i] = 3 then 3 else faults (if fault ls[i] = 0 then f else fault ls[i]) (ls.drop (i + 1)) from by rw [drop_get hi1]; simp only [faults])
          have HC := hid (HSO.out ls[i] (List.getElem_mem hi1))
          have HFx := hid (HF.out.2.2.2.2 ls[i] (List.getElem_mem hi1))
          have hfc := fault_cases ls[i]
          generalize ls[i] = x at hv1 HStep HC HFx hfc
          obtain ⟨k1, k2, k3, k4, k5, k6, k7, k8, k9, k10, k11, rfl⟩ := hv1.form
          obtain ⟨a0, a1, a2, a3, a4, a5, a6⟩ := row7 hc1
          have HV1 := hid (hv1.below (below_new wr (C7 k1 k2 k3 k4 k5 k6 k7 k8 k9 k10 k11)))
          have HBn := hid (below_out HB.out (below_new wr (C7 k1 k2 k3 k4 k5 k6 k7 k8 k9 k10 k11)))
          clear hc1 hv1 hi1
          rcases hfc with hfx | hfx | hfx
          · have HFv := hid hfx
            clear hfx
            go_wp2_with (go_at_call 25; have hcall := HC.out _ _ (HE.out.below HBn.out) HFx.out HV1.out; rw [HFv.out, show errOf 0 = Value.nilIface from rfl] at hcall; (with_reducible refine hcall.mono ?_); clear hcall; rintro e w3 ⟨rfl, hb⟩; have HB3 := hid (below_out HBn.out hb); clear hb)
            go_roundg (n1 - (i + 1) + 1)
            case measure => omega
            case rel => exact ⟨i + 1, f, by omega, rfl, rfl, hf6, by push_cast; rfl, by rw [← HD.out, HStep.out, HFv.out]; rfl, HB3.out⟩
          · have HFv := hid hfx
            clear hfx
            go_wp2_with (go_at_call 25; have hcall := HC.out _ _ (HE.out.below HBn.out) HFx.out HV1.out; rw [HFv.out, show errOf 3 = .iface 43 (.int .i64 3) from rfl] at hcall; (with_reducible refine hcall.mono ?_); clear hcall; rintro e w3 ⟨rfl, hb⟩; have HB3 := hid (below_out HBn.out hb); clear hb)
            go_ret
            refine ⟨?_, HB3.out⟩
            rw [← HD.out, HStep.out, HFv.out]
            rfl
          · have HFv := hid hfx
            clear hfx
            go_wp2_with (go_at_call 25; have hcall := HC.out _ _ (HE.out.below HBn.out) HFx.out HV1.out; rw [HFv.out, show errOf 6 = .iface 43 (.int .i64 6) from rfl] at hcall; (with_reducible refine hcall.mono ?_); clear hcall; rintro e w3 ⟨rfl, hb⟩; have HB3 := hid (below_out HBn.out hb); clear hb)
            go_roundg (n1 - (i + 1) + 1)
            case measure => omega
            case rel => exact ⟨i + 1, 6, by omega, rfl, rfl, by simp, by push_cast; rfl, by rw [← HD.out, HStep.out, HFv.out]; rfl, HB3.out⟩
        · obtain rfl : i = n1 := by omega
          have e1 : ls.drop i = [] := List.drop_of_length_le (by rw [HN.out.1]; exact Nat.le_refl _)
          have HE1 := hid (show f = G from by rw [← HD.out, e1]; simp only [faults])
          clear e1
          go_wp2
          go_ret
          rw [HE1.out]
          exact ⟨rfl, HB.out⟩
    · obtain rfl : tw = true := by
        have := HF0.out
        rw [HTw.out] at this
        cases tw <;> simp_all
      clear HF0 hf0
      go_enter Tryz.func25, Tryz.ntmps25
      go_wp2_with (first | (go_at_call 43; have hcall := formed_any (.mk k b t n hh ls ns) _ _ (HE.out.below HB0.out) HFt.out (HV.out.below HB0.out); (with_reducible refine hcall.mono ?_); clear hcall; rintro e w1 ⟨rfl, hb⟩; rw [HFm.out]; have HB1 := hid (below_out HB0.out hb); have HX := hid ((hb.block w.heap.size (by simp)).trans (heap_alloc_new w (C7 k b t n hh p1 n1 c1 p2 n2 c2))); have s2 := seven HX.out; obtain ⟨x0, x1, x2, x3, x4, x5, x6, _⟩ := s2; clear hb) | (go_at_call 44; have hcall := twice_any (c := c2) (HP.out.2.below HB1.out) HF.out.2.2.1 HF.out.2.2.2.1; rw [HN.out.2, HTw.out] at hcall; refine hcall.mono ?_; clear hcall; rintro e w2 ⟨rfl, hb⟩; have HB2 := hid (below_out HB1.out hb); have HX2 := hid ((hb.block w.heap.size (lt_of_heap HX.out)).trans HX.out); have s3 := seven HX2.out; obtain ⟨y0, y1, y2, y3, y4, y5, y6, _⟩ := s3; clear hb))
      go_loopg [3, 18] (n1 + 1) (fun gk s3 s18 wr => ∃ i f : Nat, i ≤ n1 ∧ gk = n1 - i + 1 ∧ s3 = errOf f ∧ (f = 0 ∨ f = 6) ∧ s18 = .int .i64 (i : Int) ∧ faults f (ls.drop i) = G ∧ Below w.heap.size w wr)
      case atStart => exact ⟨0, 6, by omega, rfl, rfl, by simp, rfl, HG.out, HB2.out⟩
      case round =>
        obtain ⟨i, f, hi, rfl, rfl, hf6, rfl, hs, hb⟩ := hrel
        have HB := hid hb
        have HD := hid hs
        clear hs hb
        by_cases hin : i < n1
        · have hi1 : i < ls.length := by rw [HN.out.1]; exact hin
          obtain ⟨g, o, cs, rfl, hv1, hc1⟩ := HP.out.1.below HB.out i ls[i] (List.getElem?_eq_getElem hi1)
          have HStep := hid (show faults f (ls.drop i) = if fault ls[i] = 3 then 3 else faults (if fault ls[i] = 0 then f else fault ls[i]) (ls.drop (i + 1)) from by rw [drop_get hi1]; simp only [faults])
          have HC := hid (HSO.out ls[i] (List.getElem_mem hi1))
          have HFx := hid (HF.out.2.2.2.2 ls[i] (List.getElem_mem hi1))
          have hfc := fault_cases ls[i]
          generalize ls[i] = x at hv1 HStep HC HFx hfc
          obtain ⟨k1, k2, k3, k4, k5, k6, k7, k8, k9, k10, k11, rfl⟩ := hv1.form
          obtain ⟨a0, a1, a2, a3, a4, a5, a6⟩ := row7 hc1
          have HV1 := hid (hv1.below (below_new wr (C7 k1 k2 k3 k4 k5 k6 k7 k8 k9 k10 k11)))
          have HBn := hid (below_out HB.out (below_new wr (C7 k1 k2 k3 k4 k5 k6 k7 k8 k9 k10 k11)))
          clear hc1 hv1 hi1
          rcases hfc with hfx | hfx | hfx
          · have HFv := hid hfx
            clear hfx
            go_wp2_with (go_at_call 25; have hcall := HC.out _ _ (HE.out.below HBn.out) HFx.out HV1.out; rw [HFv.out, show errOf 0 = Value.nilIface from rfl] at hcall; (with_reducible refine hcall.mono ?_); clear hcall; rintro e w3 ⟨rfl, hb⟩; have HB3 := hid (below_out HBn.out hb); clear hb)
            go_roundg (n1 - (i + 1) + 1)
            case measure => omega
            case rel => exact ⟨i + 1, f, by omega, rfl, rfl, hf6, by push_cast; rfl, by rw [← HD.out, HStep.out, HFv.out]; rfl, HB3.out⟩
          · have HFv := hid hfx
            clear hfx
            go_wp2_with (go_at_call 25; have hcall := HC.out _ _ (HE.out.below HBn.out) HFx.out HV1.out; rw [HFv.out, show errOf 3 = .iface 43 (.int .i64 3) from rfl] at hcall; (with_reducible refine hcall.mono ?_); clear hcall; rintro e w3 ⟨rfl, hb⟩; have HB3 := hid (below_out HBn.out hb); clear hb)
            go_ret
            refine ⟨?_, HB3.out⟩
            rw [← HD.out, HStep.out, HFv.out]
            rfl
          · have HFv := hid hfx
            clear hfx
            go_wp2_with (go_at_call 25; have hcall := HC.out _ _ (HE.out.below HBn.out) HFx.out HV1.out; rw [HFv.out, show errOf 6 = .iface 43 (.int .i64 6) from rfl] at hcall; (with_reducible refine hcall.mono ?_); clear hcall; rintro e w3 ⟨rfl, hb⟩; have HB3 := hid (below_out HBn.out hb); clear hb)
            go_roundg (n1 - (i + 1) + 1)
            case measure => omega
            case rel => exact ⟨i + 1, 6, by omega, rfl, rfl, by simp, by push_cast; rfl, by rw [← HD.out, HStep.out, HFv.out]; rfl, HB3.out⟩
        · obtain rfl : i = n1 := by omega
          have e1 : ls.drop i = [] := List.drop_of_length_le (by rw [HN.out.1]; exact Nat.le_refl _)
          have HE1 := hid (show f = G from by rw [← HD.out, e1]; simp only [faults])
          clear e1
          go_wp2
          go_ret
          rw [HE1.out]
          exact ⟨rfl, HB.out⟩
mutual
theorem fault_any : ∀ t : JV, FaultOk t
  | .mk _ _ _ _ _ ls _ => fault_one (faults_any ls)
theorem faults_any : ∀ ls : List JV, ∀ x ∈ ls, FaultOk x
  | [], x, h => by simp at h
  | y :: ys, x, h => by
    simp only [List.mem_cons] at h
    rcases h with rfl | h
    · exact fault_any x
    · exact faults_any ys x h
end
set_option maxRecDepth 20000 in
set_option maxHeartbeats 4000000 in
theorem valid_any (t : JV) (w : World) (cs : List Value) (hE : Env w) (hf : Fits t) (hv : ValOn w t cs) :
    Calls Tryz.prog 13 #[.agg cs.toArray] w fun e w' => e = .returned (errOf (validN t)) ∧ Below w.heap.size w w' := by
  obtain ⟨k1, k2, k3, k4, k5, k6, k7, k8, k9, k10, k11, rfl⟩ := hv.form
  have HE := hid hE
  have HF := hid hf
  have HV := hid hv
  have HB0 := hid (below_new w (C7 k1 k2 k3 k4 k5 k6 k7 k8 k9 k10 k11))
  clear hE hf hv
  obtain ⟨D, hD⟩ : ∃ D, depthN 33 t = D := ⟨_, rfl⟩
  have HD := hid hD
  have hd := depthN_le 33 t
  rw [hD] at hd
  clear hD
  have DEP : ∀ W, Below w.heap.size w W → Calls Tryz.prog 24 #[.agg #[.int .i64 k1, .bool k2, .string (str k3), .int .i64 k4, .bool k5, .slice k6 k7 k8, .slice k9 k10 k11], .int .i64 33] W fun e w' => e = .returned (.int .i64 (D : Int)) ∧ Below W.heap.size W w' := fun W hb => by
    have := depth_any 33 (by decide) t W _ HF.out (HV.out.below hb)
    rw [HD.out] at this
    exact this
  have HDep := hid DEP
  clear DEP
  by_cases h32 : 32 < D
  · have HR := hid (show validN t = 5 from by unfold validN; rw [HD.out, if_pos h32])
    rw [HR.out]
    go_enter Tryz.func13, Tryz.ntmps13
    go_wp2_with (go_at_call 24; have hcall := HDep.out _ HB0.out; (with_reducible refine hcall.mono ?_); clear hcall; rintro e w1 ⟨rfl, hb⟩; have HB := hid (below_out HB0.out hb); clear hb)
    go_ret
    exact ⟨rfl, HB.out⟩
  · have HR := hid (show validN t = fault t from by unfold validN; rw [HD.out, if_neg h32])
    rw [HR.out]
    go_enter Tryz.func13, Tryz.ntmps13
    go_wp2_with (first
      | (go_at_call 24; have hcall := HDep.out _ HB0.out; (with_reducible refine hcall.mono ?_); clear hcall; rintro e w1 ⟨rfl, hb⟩; have HB := hid (below_out HB0.out hb); have HX := hid ((hb.block w.heap.size (by simp)).trans (heap_alloc_new w (C7 k1 k2 k3 k4 k5 k6 k7 k8 k9 k10 k11))); have s2 := seven HX.out; obtain ⟨x0, x1, x2, x3, x4, x5, x6, _⟩ := s2; clear hb)
      | (go_at_call 25; have hcall := fault_any t _ _ (HE.out.below HB.out) HF.out (HV.out.below HB.out); (with_reducible refine hcall.mono ?_); clear hcall; rintro e w2 ⟨rfl, hb⟩; have HB2 := hid (below_out HB.out hb); clear hb))
    go_ret
    exact ⟨rfl, HB2.out⟩
end Go.Proofs.YtkoeihliaandeaaGreatDoor
