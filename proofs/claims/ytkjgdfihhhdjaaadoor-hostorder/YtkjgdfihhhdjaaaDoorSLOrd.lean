/- The law HostOrder, walked. -/
import Derived.Test.YtkjgdfihhhdjaaaDoorSOrdP
import Derived.Test.YtkjgdfihhhdjaaaDoorSSame
namespace Go.Proofs.YtkjgdfihhhdjaaaDoor
open Go.RowKit Go.Maps

theorem rem_bd (z : Int) {n : Nat} (hn : 0 < n) : -(n : Int) < z.tmod n ∧ z.tmod n < n := ⟨Int.lt_tmod_of_pos z (by omega), Int.tmod_lt_of_pos z (by omega)⟩
theorem rem_nat {z n : Nat} : ((z : Int)).tmod (n : Int) = ((z % n : Nat) : Int) := by
  rw [Int.tmod_eq_emod_of_nonneg (by omega)]
  rfl
theorem run_remN (z : Int) {n : Nat} (hn : 0 < n) (hn2 : n ≤ 1000) (w : World) : (binOp .rem 3 (.int .i64 z) (.int .i64 (n : Int))).run Tryd.prog w = .ok (.int .i64 (z.tmod n)) w := by
  have := rem_bd z hn
  have h0 : ¬ (n : Int) = 0 := by omega
  have h0n : ¬ n = 0 := by omega
  have e : IntKind.i64.wrap (z.tmod n) = z.tmod n := by rw [IntKind.wrap_i64]; omega
  go_simp
theorem wpList_remN {w : World} {ops : Array Oper} {rest : List Oper} {o : Oper} {a : Act} {Q : Exit → Act → World → Prop} (hgd : o.guard = none) (x y : Operand) (ho : o.op = .binOp .rem 3 x y 3) (z : Int) (n : Nat) (hn : 0 < n) (hn2 : n ≤ 1000) (hx : a.eval x = .int .i64 z) (hy : a.eval y = .int .i64 (n : Int))
    (h : wpList Tryd.prog ops Q rest (a.put o.dst (.int .i64 (z.tmod n))) w) : wpList Tryd.prog ops Q (o :: rest) a w := by
  have hr := run_remN z hn hn2 w
  refine wpList_plain hgd fun K hK => ?_
  unfold Oper.wp
  simp only [execOp, ho]
  simp [hx, hy, eqGuard, hr, Result.andThen]
  exact hK _ _ h
theorem wpList_min_as {w : World} {ops : Array Oper} {rest : List Oper} {o : Oper} {a : Act} {Q : Exit → Act → World → Prop} (hgd : o.guard = none) (x y : Operand) (ho : o.op = .call { callee := .builtin .min, args := #[x, y], argTypes := #[3, 3] }) (d e : Int) (hx : a.eval x = .int .i64 d) (hy : a.eval y = .int .i64 e)
    (h : ∀ n : Int, n = min d e → wpList Tryd.prog ops Q rest (a.put o.dst (.int .i64 n)) w) : wpList Tryd.prog ops Q (o :: rest) a w := by
  have hr := run_min_int2 (P := Tryd.prog) (w := w) #[3, 3] o.type .i64 .i64 d e
  refine wpList_plain hgd fun K hK => ?_
  unfold Oper.wp
  simp only [execOp, ho, resolve, invoke, builtin]
  simp [hx, hy, hr, Result.andThen]
  by_cases hlt : e < d
  · rw [if_pos hlt]
    exact hK _ _ (h _ (by omega))
  · rw [if_neg hlt]
    exact hK _ _ (h _ (by omega))
/-- Two texts that are read; a text and a number. -/
structure TwoL (U : World) (g o i j : Nat) (X Y : ByteArray) : Prop where
  a0 : U.cell? ⟨g, o + i, none⟩ = some (.string X)
  a1 : U.cell? ⟨g, o + j, none⟩ = some (.string Y)
structure OneN (U : World) (g o i g2 : Nat) (X : ByteArray) (V : Int) : Prop where
  a0 : U.cell? ⟨g, o + i, none⟩ = some (.string X)
  a1 : U.cell? ⟨g2, i, none⟩ = some (.int .i64 V)
theorem first_step {f : Nat → B} {i k : Nat} : firstTo f i (k + 1) = if f k = f i then min (firstTo f i k) k else firstTo f i k := rfl
theorem wf_nat {k : Nat} (h : k ≤ 1000) : (Lit.int .i64 (k : Int)).wf = true := WalkArith.wf_i64 (by omega)
theorem findN_two (P : List (B × Int)) (host : B) : (findN P host).2 = 0 ∨ (findN P host).2 = 3 ∨ (findN P host).2 = 8 := by
  unfold findN
  cases labsH false host with
  | none => exact .inr (.inl rfl)
  | some y =>
    dsimp only
    cases bestF y P with
    | none => exact .inr (.inr rfl)
    | some p => exact .inl rfl
set_option maxRecDepth 20000 in
set_option maxHeartbeats 64000000 in
theorem order_law (ps : List B) (pl : Option Addr) (nl cl : Nat) (hnl : ps.length = nl) (hnn : nl ≤ 140737488355328) (hps : ∀ s ∈ ps, s.length ≤ 140737488355328) (host : B) (hh : host.length ≤ 140737488355328) (u : Int) (w : World) (hA : LbAt w pl ps) (hmx : MxAt w) :
    Calls Tryd.prog 6 #[.slice pl nl cl, .string (str host), .int .i64 u] w fun e w' => e = .returned (.bool true) ∧ Below w.heap.size w w' := by
  obtain ⟨i0, hi0, hz0, hz1, hz2⟩ := info_parts infoN
  have HMx := hid hmx
  have HA := hid hA
  have HNl := hid hnl
  have HPs := hid hps
  have HHh := hid hh
  have HW := hid (fun (W : World) (h : MxAt W) => works_any W h)
  have HN1 := hid (new_any w)
  obtain ⟨SH, hSH⟩ : ∃ S, str host = S := ⟨_, rfl⟩
  have HSH := hid hSH
  rw [hSH]
  clear hmx hA hnl hps hh hSH
  by_cases hlen : 1 ≤ nl ∧ nl ≤ 60
  case neg =>
    by_cases h1 : nl < 1
    · have h2 : (nl : Int) < 1 := by omega
      clear hlen h1
      go_enter Tryd.func6, Tryd.ntmps6
      go_wp2_with (first | (go_at_call 20; first | ((with_reducible refine HN1.out.mono ?_); rintro e w1 ⟨rfl, h1, hb1⟩; have HB1 := hid hb1; have HN2 := hid (new_any w1); clear h1 hb1 HN1) | ((with_reducible refine HN2.out.mono ?_); rintro e w2 ⟨rfl, h2, hb2⟩; have HB2 := hid (below_out HB1.out hb2); clear h2 hb2 HN2)) | (go_at_call 15; (with_reducible refine (HW.out _ (HMx.out.next HB2.out)).mono ?_); rintro e w3 ⟨rfl, hb⟩; have HB3 := hid (below_out HB2.out hb); clear hb))
      go_ret
      exact ⟨rfl, HB3.out⟩
    · have h2 : ¬ (nl : Int) < 1 := by omega
      have h3 : (60 : Int) < (nl : Int) := by omega
      clear hlen h1
      go_enter Tryd.func6, Tryd.ntmps6
      go_wp2_with (first | (go_at_call 20; first | ((with_reducible refine HN1.out.mono ?_); rintro e w1 ⟨rfl, h1, hb1⟩; have HB1 := hid hb1; have HN2 := hid (new_any w1); clear h1 hb1 HN1) | ((with_reducible refine HN2.out.mono ?_); rintro e w2 ⟨rfl, h2, hb2⟩; have HB2 := hid (below_out HB1.out hb2); clear h2 hb2 HN2)) | (go_at_call 15; (with_reducible refine (HW.out _ (HMx.out.next HB2.out)).mono ?_); rintro e w3 ⟨rfl, hb⟩; have HB3 := hid (below_out HB2.out hb); clear hb))
      go_ret
      exact ⟨rfl, HB3.out⟩
  obtain ⟨hl1, hl2⟩ := hlen
  have hl3 : ¬ (nl : Int) < 1 := by omega
  have hl4 : ¬ (60 : Int) < (nl : Int) := by omega
  obtain ⟨hu1, hu2⟩ := rem_bd u (show 0 < nl by omega)
  obtain ⟨r1, hr1⟩ : ∃ r, u.tmod (nl : Int) = r := ⟨_, rfl⟩
  have HR1 := hid (show ∀ (ops : Array Oper) (rest : List Oper) (o : Oper) (a : Act) (Q : Exit → Act → World → Prop) (W : World), o.guard = none → o.op = .binOp .rem 3 (.tmp 51) (.tmp 53) 3 → a.eval (.tmp 51) = .int .i64 u → a.eval (.tmp 53) = .int .i64 (nl : Int) → wpList Tryd.prog ops Q rest (a.put o.dst (.int .i64 r1)) W → wpList Tryd.prog ops Q (o :: rest) a W from fun ops rest o a Q W hg ho hx hy h => wpList_remN hg _ _ ho u nl (by omega) (by omega) hx hy (by rw [hr1]; exact h))
  rw [hr1] at hu1 hu2
  clear hr1
  obtain ⟨z1, hz1n⟩ : ∃ z : Nat, r1 + (nl : Int) = (z : Int) := ⟨(r1 + nl).toNat, by omega⟩
  obtain ⟨u2, hu3⟩ : ∃ u2, z1 % nl = u2 := ⟨_, rfl⟩
  have hu4 : u2 < nl := by rw [← hu3]; exact Nat.mod_lt _ (by omega)
  have HR2 := hid (show ∀ (ops : Array Oper) (rest : List Oper) (o : Oper) (a : Act) (Q : Exit → Act → World → Prop) (W : World), o.guard = none → o.op = .binOp .rem 3 (.tmp 57) (.tmp 59) 3 → a.eval (.tmp 57) = .int .i64 (z1 : Int) → a.eval (.tmp 59) = .int .i64 (nl : Int) → wpList Tryd.prog ops Q rest (a.put o.dst (.int .i64 (u2 : Int))) W → wpList Tryd.prog ops Q (o :: rest) a W from fun ops rest o a Q W hg ho hx hy h => wpList_remN hg _ _ ho (z1 : Int) nl (by omega) (by omega) hx hy (by rw [rem_nat, hu3]; exact h))
  have hz9 : z1 ≤ 1000 := by omega
  clear hu3
  go_enter Tryd.func6, Tryd.ntmps6
  go_wp2_with (first | (go_at_call 20; first | ((with_reducible refine HN1.out.mono ?_); rintro e w1 ⟨rfl, h1, hb1⟩; have HT1 := hid h1; have HB1 := hid hb1; have HN2 := hid (new_any w1); clear h1 hb1 HN1) | ((with_reducible refine HN2.out.mono ?_); rintro e w2 ⟨rfl, h2, hb2⟩; have HOr0 := hid (OrdH.start HT1.out HB1.out h2 hb2); clear h2 hb2 HN2)) | (refine HR1.out _ _ _ _ _ _ rfl rfl rfl rfl ?_) | (refine HR2.out _ _ _ _ _ _ rfl rfl (by go_simp) rfl ?_))
  obtain ⟨ta, hta⟩ : ∃ ta, w.heap.size = ta := ⟨_, rfl⟩
  obtain ⟨tb, htb⟩ : ∃ tb, w1.heap.size = tb := ⟨_, rfl⟩
  rw [hta, htb] at HOr0
  rw [hta, htb]
  clear hta htb HT1 HB1 HR1 HR2
  go_loopg [9, 10] (nl + 1) (fun gk s9 s10 wr => ∃ (i d : Nat) (q : Option Addr), i ≤ nl ∧ gk = nl - i + 1 ∧ s10 = .int .i64 (i : Int) ∧ s9 = .slice q i d ∧ OrdH w wr ta tb [] [] (idsTo ps i) (.slice q i d))
  case atStart => exact ⟨0, 0, none, by omega, rfl, rfl, rfl, HOr0.out⟩
  case round =>
    clear HOr0
    obtain ⟨i, d, q, hi, rfl, rfl, rfl, hor⟩ := hrel
    have HOr := hid hor
    clear hor
    by_cases hin : i < nl
    · obtain ⟨x, hx⟩ : ∃ x, ps[i]? = some x := ⟨_, List.getElem?_eq_getElem (by rw [HNl.out]; exact hin)⟩
      obtain ⟨g1, o1, rfl, q1⟩ := HA.out i x hx
      have HLx := hid (lowAt_of hx)
      have hxl := HPs.out x (List.mem_of_getElem? hx)
      obtain ⟨Sx, hSx⟩ : ∃ S, str x = S := ⟨_, rfl⟩
      have HSx := hid hSx
      rw [hSx] at q1
      have HQ1 := hid q1
      have hin2 : (i : Int) < (nl : Int) := by omega
      clear hx hSx q1
      go_wp2
      go_loopg [11, 12] (i + 1) (fun gk s11 s12 wv => ∃ k : Nat, k ≤ i ∧ gk = i - k + 1 ∧ s12 = .int .i64 (k : Int) ∧ s11 = .int .i64 (firstTo (lowAt ps) i k : Nat) ∧ OrdH w wv ta tb [] [] (idsTo ps i) (.slice q i d))
      case atStart => exact ⟨0, by omega, rfl, rfl, rfl, HOr.out⟩
      case round =>
        clear HOr
        obtain ⟨k, hk, rfl, rfl, rfl, hor⟩ := hrel
        have HOk := hid hor
        clear hor
        have hFle := (first_spec (lowAt ps) i k hk).2.1
        have HSt := hid (first_step (f := lowAt ps) (i := i) (k := k))
        have HFi := hid (show k = i → firstTo (lowAt ps) i k = fstN (lowAt ps) i from fun e => by rw [e]; rfl)
        obtain ⟨F, hF⟩ : ∃ F, firstTo (lowAt ps) i k = F := ⟨_, rfl⟩
        rw [hF] at hFle HSt HFi
        rw [hF]
        clear hF
        by_cases hki : k < i
        · obtain ⟨y, hy⟩ : ∃ y, ps[k]? = some y := ⟨_, List.getElem?_eq_getElem (by rw [HNl.out]; omega)⟩
          obtain ⟨g2, o2, e2, q2⟩ := HA.out k y hy
          injection e2 with e2
          injection e2 with e3 e4 _
          subst e3
          subst e4
          have HLy := hid (lowAt_of hy)
          have hyl := HPs.out y (List.mem_of_getElem? hy)
          have HSm := hid (fun W : World => by have h9 := rsame_wide (str y) (str x) W (by rw [str_size]; exact hyl) (by rw [str_size]; exact hxl); rw [same_low] at h9; exact h9)
          obtain ⟨Sy, hSy⟩ : ∃ S, str y = S := ⟨_, rfl⟩
          rw [hSy] at q2 HSm
          rw [HSx.out] at HSm
          have hbD := below_out HOk.out.low (below_drewH wr 1)
          have hS0a : TwoL wr.drew g1 o1 k i Sy Sx := ⟨cell_keep hbD q2, cell_keep hbD HQ1.out⟩
          have hki2 : (k : Int) < (i : Int) := by omega
          have hkl : k < nl := by omega
          rw [HLx.out, HLy.out] at HSt
          clear hy hSy hyl q2 hbD HLy
          cases hs : decide (lowH y = lowH x) with
          | true =>
            rw [hs] at HSm
            rw [if_pos (of_decide_eq_true hs)] at HSt
            clear hs
            go_wp2
            refine wp_region_noPanic ?_
            refine any_begin 9 (by kernel_rfl) (by kernel_rfl) ?_
            refine late_begin (fun U => TwoL U g1 o1 k i Sy Sx) (fun _ => false) hS0a (fun hS => ?_)
            refine late_take (i := 0) (some 73) rfl rfl (by kernel_rfl) (by kernel_rfl) (by kernel_rfl) (by kernel_rfl) (by kernel_rfl) (fun _ _ _ h => h) (by rfl) (v := ?v0a) ?hy0a hS ?rest0a
            case hy0a => intro w0 hSw; obtain ⟨a0, a1⟩ := hSw; go_simp; try with_reducible rfl
            simp only [Act.put, List.setIfInBounds_toArray, List.set_cons_zero, List.set_cons_succ]
            refine late_take (i := 1) (some 74) rfl rfl (by kernel_rfl) (by kernel_rfl) (by kernel_rfl) (by kernel_rfl) (by kernel_rfl) (fun _ _ _ h => h) (by rfl) (v := ?v1a) ?hy1a hS ?rest1a
            case hy1a => intro w0 hSw; obtain ⟨a0, a1⟩ := hSw; go_simp; try with_reducible rfl
            simp only [Act.put, List.setIfInBounds_toArray, List.set_cons_zero, List.set_cons_succ]
            refine late_take (i := 2) (some 75) rfl rfl (by kernel_rfl) (by kernel_rfl) (by kernel_rfl) (by kernel_rfl) (by kernel_rfl) (fun _ _ _ h => h) (by rfl) (v := ?v2a) ?hy2a hS ?rest2a
            case hy2a => intro w0 hSw; obtain ⟨a0, a1⟩ := hSw; go_simp; try with_reducible rfl
            simp only [Act.put, List.setIfInBounds_toArray, List.set_cons_zero, List.set_cons_succ]
            refine late_take (i := 3) (some 76) rfl rfl (by kernel_rfl) (by kernel_rfl) (by kernel_rfl) (by kernel_rfl) (by kernel_rfl) (fun _ _ _ h => h) (by rfl) (v := ?v3a) ?hy3a hS ?rest3a
            case hy3a => intro w0 hSw; obtain ⟨a0, a1⟩ := hSw; go_simp; try with_reducible rfl
            simp only [Act.put, List.setIfInBounds_toArray, List.set_cons_zero, List.set_cons_succ]
            refine late_take (i := 4) (some 77) rfl rfl (by kernel_rfl) (by kernel_rfl) (by kernel_rfl) (by kernel_rfl) (by kernel_rfl) (fun _ _ _ h => h) (by rfl) (v := ?v4a) ?hy4a hS ?rest4a
            case hy4a => intro w0 hSw; obtain ⟨a0, a1⟩ := hSw; go_simp; try with_reducible rfl
            simp only [Act.put, List.setIfInBounds_toArray, List.set_cons_zero, List.set_cons_succ]
            refine late_take (i := 5) (some 78) rfl rfl (by kernel_rfl) (by kernel_rfl) (by kernel_rfl) (by kernel_rfl) (by kernel_rfl) (fun _ _ _ h => h) (by rfl) (v := ?v5a) ?hy5a hS ?rest5a
            case hy5a => intro w0 hSw; obtain ⟨a0, a1⟩ := hSw; go_simp; try with_reducible rfl
            simp only [Act.put, List.setIfInBounds_toArray, List.set_cons_zero, List.set_cons_succ]
            refine late_take (i := 6) (some 79) rfl rfl (by kernel_rfl) (by kernel_rfl) (by kernel_rfl) (by kernel_rfl) (by kernel_rfl) (fun _ _ _ h => h) (by rfl) (v := ?v6a) ?hy6a hS ?rest6a
            case hy6a => intro w0 hSw; obtain ⟨a0, a1⟩ := hSw; go_simp; try with_reducible rfl
            simp only [Act.put, List.setIfInBounds_toArray, List.set_cons_zero, List.set_cons_succ]
            refine late_take (i := 7) (some 80) rfl rfl (by kernel_rfl) (by kernel_rfl) (by kernel_rfl) (by kernel_rfl) (by kernel_rfl) (fun _ _ _ h => h) (by rfl) (v := ?v7a) ?hy7a hS ?rest7a
            case hy7a => intro w0 hSw; obtain ⟨a0, a1⟩ := hSw; go_simp; try with_reducible rfl
            simp only [Act.put, List.setIfInBounds_toArray, List.set_cons_zero, List.set_cons_succ]
            refine wpAnyD_one (i := 8) (by kernel_rfl) rfl (fun K hK => ?_)
            go_simp
            go_at_call 27
            (with_reducible refine (HSm.out _).mono ?_)
            rintro e w5 ⟨rfl, hb5⟩
            have HO5 := hid (HOk.out.next (below_out (below_drewH wr 1) hb5))
            have hS1a : TwoL w5 g1 o1 k i Sy Sx := ⟨cell_keep hb5 hS0a.a0, cell_keep hb5 hS0a.a1⟩
            clear hb5
            refine hK _ _ ⟨fun _ => hS1a, ?_⟩
            clear hK K
            try simp only [Act.put, List.setIfInBounds_toArray, List.set_cons_zero, List.set_cons_succ]
            refine late_done (by kernel_rfl) ?_ _
            refine NoPanic.normal ?_
            go_wp2_with (refine wpList_min_as rfl (.tmp 82) (.tmp 83) rfl (F : Int) (k : Int) rfl rfl ?_; intro nI hnI; obtain ⟨m9, hm9, hm8⟩ : ∃ m9 : Nat, nI = (m9 : Int) ∧ m9 = min F k := ⟨min F k, by omega, rfl⟩; subst hm9; clear hnI)
            go_roundg (i - (k + 1) + 1)
            case measure => omega
            case rel => exact ⟨k + 1, by omega, rfl, by push_cast; go_num, by first | (rw [HSt.out, hm8]; done) | (rw [HSt.out]), HO5.out⟩
          | false =>
            rw [hs] at HSm
            rw [if_neg (of_decide_eq_false hs)] at HSt
            clear hs
            go_wp2
            refine wp_region_noPanic ?_
            refine any_begin 9 (by kernel_rfl) (by kernel_rfl) ?_
            refine late_begin (fun U => TwoL U g1 o1 k i Sy Sx) (fun _ => false) hS0a (fun hS => ?_)
            refine late_take (i := 0) (some 73) rfl rfl (by kernel_rfl) (by kernel_rfl) (by kernel_rfl) (by kernel_rfl) (by kernel_rfl) (fun _ _ _ h => h) (by rfl) (v := ?v0b) ?hy0b hS ?rest0b
            case hy0b => intro w0 hSw; obtain ⟨a0, a1⟩ := hSw; go_simp; try with_reducible rfl
            simp only [Act.put, List.setIfInBounds_toArray, List.set_cons_zero, List.set_cons_succ]
            refine late_take (i := 1) (some 74) rfl rfl (by kernel_rfl) (by kernel_rfl) (by kernel_rfl) (by kernel_rfl) (by kernel_rfl) (fun _ _ _ h => h) (by rfl) (v := ?v1b) ?hy1b hS ?rest1b
            case hy1b => intro w0 hSw; obtain ⟨a0, a1⟩ := hSw; go_simp; try with_reducible rfl
            simp only [Act.put, List.setIfInBounds_toArray, List.set_cons_zero, List.set_cons_succ]
            refine late_take (i := 2) (some 75) rfl rfl (by kernel_rfl) (by kernel_rfl) (by kernel_rfl) (by kernel_rfl) (by kernel_rfl) (fun _ _ _ h => h) (by rfl) (v := ?v2b) ?hy2b hS ?rest2b
            case hy2b => intro w0 hSw; obtain ⟨a0, a1⟩ := hSw; go_simp; try with_reducible rfl
            simp only [Act.put, List.setIfInBounds_toArray, List.set_cons_zero, List.set_cons_succ]
            refine late_take (i := 3) (some 76) rfl rfl (by kernel_rfl) (by kernel_rfl) (by kernel_rfl) (by kernel_rfl) (by kernel_rfl) (fun _ _ _ h => h) (by rfl) (v := ?v3b) ?hy3b hS ?rest3b
            case hy3b => intro w0 hSw; obtain ⟨a0, a1⟩ := hSw; go_simp; try with_reducible rfl
            simp only [Act.put, List.setIfInBounds_toArray, List.set_cons_zero, List.set_cons_succ]
            refine late_take (i := 4) (some 77) rfl rfl (by kernel_rfl) (by kernel_rfl) (by kernel_rfl) (by kernel_rfl) (by kernel_rfl) (fun _ _ _ h => h) (by rfl) (v := ?v4b) ?hy4b hS ?rest4b
            case hy4b => intro w0 hSw; obtain ⟨a0, a1⟩ := hSw; go_simp; try with_reducible rfl
            simp only [Act.put, List.setIfInBounds_toArray, List.set_cons_zero, List.set_cons_succ]
            refine late_take (i := 5) (some 78) rfl rfl (by kernel_rfl) (by kernel_rfl) (by kernel_rfl) (by kernel_rfl) (by kernel_rfl) (fun _ _ _ h => h) (by rfl) (v := ?v5b) ?hy5b hS ?rest5b
            case hy5b => intro w0 hSw; obtain ⟨a0, a1⟩ := hSw; go_simp; try with_reducible rfl
            simp only [Act.put, List.setIfInBounds_toArray, List.set_cons_zero, List.set_cons_succ]
            refine late_take (i := 6) (some 79) rfl rfl (by kernel_rfl) (by kernel_rfl) (by kernel_rfl) (by kernel_rfl) (by kernel_rfl) (fun _ _ _ h => h) (by rfl) (v := ?v6b) ?hy6b hS ?rest6b
            case hy6b => intro w0 hSw; obtain ⟨a0, a1⟩ := hSw; go_simp; try with_reducible rfl
            simp only [Act.put, List.setIfInBounds_toArray, List.set_cons_zero, List.set_cons_succ]
            refine late_take (i := 7) (some 80) rfl rfl (by kernel_rfl) (by kernel_rfl) (by kernel_rfl) (by kernel_rfl) (by kernel_rfl) (fun _ _ _ h => h) (by rfl) (v := ?v7b) ?hy7b hS ?rest7b
            case hy7b => intro w0 hSw; obtain ⟨a0, a1⟩ := hSw; go_simp; try with_reducible rfl
            simp only [Act.put, List.setIfInBounds_toArray, List.set_cons_zero, List.set_cons_succ]
            refine wpAnyD_one (i := 8) (by kernel_rfl) rfl (fun K hK => ?_)
            go_simp
            go_at_call 27
            (with_reducible refine (HSm.out _).mono ?_)
            rintro e w5 ⟨rfl, hb5⟩
            have HO5 := hid (HOk.out.next (below_out (below_drewH wr 1) hb5))
            have hS1a : TwoL w5 g1 o1 k i Sy Sx := ⟨cell_keep hb5 hS0a.a0, cell_keep hb5 hS0a.a1⟩
            clear hb5
            refine hK _ _ ⟨fun _ => hS1a, ?_⟩
            clear hK K
            try simp only [Act.put, List.setIfInBounds_toArray, List.set_cons_zero, List.set_cons_succ]
            refine late_done (by kernel_rfl) ?_ _
            refine NoPanic.normal ?_
            go_wp2
            go_roundg (i - (k + 1) + 1)
            case measure => omega
            case rel => exact ⟨k + 1, by omega, rfl, by push_cast; go_num, by rw [HSt.out], HO5.out⟩
        · obtain rfl : k = i := by omega
          have HFe := hid (HFi.out rfl)
          clear HSt HFi hki
          go_wp2_with (at_builtin; refine wpList_append_own_at _ rfl (.tmp 85) (.tmp 87) 60 rfl w.heap.size 3 i0 _ 1 8 Tryd.underlying60 hi0 hz0 hz1 hz2 rfl (by decide) (.slice q k d) k ((idsTo ps k).flatMap fun x : Int => [.int .i64 x]) (by go_simp) (by have h8 := HOk.out.row.alloc (.cells #[.int .i64 (F : Int)] 3 (0, 0)); unfold OwnR at h8; rw [ids_len] at h8; exact h8) ⟨wr.heap.size, 0, none⟩ 1 1 [.int .i64 (F : Int)] (by go_simp) rfl (cells_new wr _ _) (by simp [Value.oneCell']) (by unfold maxLen; omega) (by omega) (by have h1 := HOk.out.low.size; simp; omega) ?_; intro v6 w5 hown hgr _ hvv; obtain ⟨p7, L7, c7, rfl⟩ := own_slice3 hown; have HO5 := hid (show OwnN w5 w.heap.size (.slice p7 L7 c7) (idsTo ps (k + 1)) from (by rw [ids_snoc2, ← HFe.out]; exact OwnR.put (ids_len ps k) hown)); have HOr5 := hid (HOk.out.app hgr HO5.out hvv); obtain ⟨hL7, _⟩ : L7 = k + 1 ∧ True := ⟨row_lenH hown, trivial⟩; subst hL7; clear hown hgr hvv)
          go_roundg (nl - (k + 1) + 1)
          case measure => omega
          case rel => exact ⟨k + 1, c7, p7, by omega, rfl, by push_cast; go_num, rfl, HOr5.out⟩
    · obtain rfl : i = nl := by omega
      clear hin
      go_wp2
      go_loopg [13] (i + 1) (fun gk s13 wr => ∃ (j : Nat) (Pa Pb : List (B × Int)), j ≤ i ∧ gk = i - j + 1 ∧ s13 = .int .i64 (j : Int) ∧ OrdH w wr ta tb Pa Pb (idsTo ps i) (.slice q i d) ∧ Aside (MemE ps (fun a => a < j) Pa ∧ MemE ps (fun a => ∃ b, b < j ∧ turnK i u2 b = a) Pb ∧ Pa.length ≤ j ∧ Pb.length ≤ j))
      case atStart => exact ⟨0, [], [], by omega, rfl, rfl, HOr.out, (⟨mem_same (mem_nil ps) (fun a => by simp), mem_same (mem_nil ps) (fun a => by simp), Nat.le_refl _, Nat.le_refl _⟩ : MemE ps (fun a => a < 0) [] ∧ MemE ps (fun a => ∃ b, b < 0 ∧ turnK i u2 b = a) [] ∧ ([] : List (B × Int)).length ≤ 0 ∧ ([] : List (B × Int)).length ≤ 0)⟩
      case round =>
        clear HOr
        obtain ⟨j, Pa, Pb, hj, rfl, rfl, hor, hM⟩ := hrel
        have HOr := hid hor
        clear hor
        by_cases hjn : j < i
        · obtain ⟨x, hx⟩ : ∃ x, ps[j]? = some x := ⟨_, List.getElem?_eq_getElem (by rw [HNl.out]; exact hjn)⟩
          obtain ⟨g1, o1, rfl, q1⟩ := HA.out j x hx
          have hKn : turnK i u2 j < i := turn_lt (by omega)
          obtain ⟨y, hy⟩ : ∃ y, ps[turnK i u2 j]? = some y := ⟨_, List.getElem?_eq_getElem (by rw [HNl.out]; exact hKn)⟩
          obtain ⟨g9, o9, e2, q2⟩ := HA.out _ y hy
          injection e2 with e2
          injection e2 with e3 e4 _
          subst e3
          subst e4
          obtain ⟨g2, rfl, r1x⟩ := OwnN.num HOr.out.row (ids_at (ps := ps) hjn)
          have HRow := hid (show ∀ W Pa Pb, OrdH w W ta tb Pa Pb (idsTo ps i) (.slice (some ⟨g2, 0, none⟩) i d) → W.cell? ⟨g2, j, none⟩ = some (.int .i64 (fstN (lowAt ps) j : Int)) ∧ W.cell? ⟨g2, turnK i u2 j, none⟩ = some (.int .i64 (fstN (lowAt ps) (turnK i u2 j) : Int)) from fun W Pa Pb h => by
            obtain ⟨ga, ea, ra⟩ := OwnN.num h.row (ids_at (ps := ps) hjn)
            obtain ⟨gb, eb, rb⟩ := OwnN.num h.row (ids_at (ps := ps) hKn)
            injection ea with ea
            injection ea with ea _ _
            subst ea
            injection eb with eb
            injection eb with eb _ _
            subst eb
            exact ⟨ra, rb⟩)
          have hf1 : fstN (lowAt ps) j ≤ 1000 := by have := fst_le (lowAt ps) j; omega
          have hf2 : fstN (lowAt ps) (turnK i u2 j) ≤ 1000 := by have := fst_le (lowAt ps) (turnK i u2 j); omega
          have HAa := hid (fun (W : World) (h : OrdH w W ta tb Pa Pb (idsTo ps i) (.slice (some ⟨g2, 0, none⟩) i d)) => h.addA HMx.out x (by have := HPs.out x (List.mem_of_getElem? hx); omega) (fstN (lowAt ps) j : Int) (wf_nat hf1))
          have HAb := hid (fun (W : World) (Pa' : List (B × Int)) (h : OrdH w W ta tb Pa' Pb (idsTo ps i) (.slice (some ⟨g2, 0, none⟩) i d)) => h.addB HMx.out y (by have := HPs.out y (List.mem_of_getElem? hy); omega) (fstN (lowAt ps) (turnK i u2 j) : Int) (wf_nat hf2))
          have HMm := hid (show MemE ps (fun a => a < j + 1) (addP Pa x (fstN (lowAt ps) j : Int)) ∧ MemE ps (fun a => ∃ b, b < j + 1 ∧ turnK i u2 b = a) (addP Pb y (fstN (lowAt ps) (turnK i u2 j) : Int)) ∧ (addP Pa x (fstN (lowAt ps) j : Int)).length ≤ j + 1 ∧ (addP Pb y (fstN (lowAt ps) (turnK i u2 j) : Int)).length ≤ j + 1 from by
            obtain ⟨m1, m2, m3, m4⟩ := hM.out
            refine ⟨mem_same (mem_add m1 (by omega) hx) (fun a => by omega), mem_same (mem_add m2 (by omega) hy) (fun a => ?_), by have := addP_len Pa x (fstN (lowAt ps) j : Int); omega, by have := addP_len Pb y (fstN (lowAt ps) (turnK i u2 j) : Int); omega⟩
            constructor
            · rintro (⟨b, hb, e⟩ | e)
              · exact ⟨b, by omega, e⟩
              · exact ⟨j, by omega, e.symm⟩
            · rintro ⟨b, hb, e⟩
              by_cases hbj : b = j
              · subst hbj; exact .inr e.symm
              · exact .inl ⟨b, by omega, e⟩)
          have hturn : u2 + i - j < 1000 := by omega
          obtain ⟨z2, hz2n⟩ : ∃ z2, u2 + i - j = z2 := ⟨_, rfl⟩
          have hz2i : (u2 : Int) + (i : Int) - (j : Int) = (z2 : Int) := by omega
          have hKz : z2 % i = turnK i u2 j := by rw [← hz2n]; rfl
          obtain ⟨kb, hK9⟩ : ∃ kb, turnK i u2 j = kb := ⟨_, rfl⟩
          rw [hK9] at hKz hKn q2 HRow HAb
          have HR3 := hid (show ∀ (ops : Array Oper) (rest : List Oper) (o : Oper) (a : Act) (Q : Exit → Act → World → Prop) (W : World), o.guard = none → o.op = .binOp .rem 3 (.tmp 110) (.tmp 112) 3 → a.eval (.tmp 110) = .int .i64 (z2 : Int) → a.eval (.tmp 112) = .int .i64 (i : Int) → wpList Tryd.prog ops Q rest (a.put o.dst (.int .i64 (kb : Int))) W → wpList Tryd.prog ops Q (o :: rest) a W from fun ops rest o a Q W hg ho hx hy h => wpList_remN hg _ _ ho (z2 : Int) i (by omega) (by omega) hx hy (by rw [rem_nat, hKz]; exact h))
          rw [hK9] at HMm
          obtain ⟨V1, hV1⟩ : ∃ V : Int, (fstN (lowAt ps) j : Int) = V := ⟨_, rfl⟩
          obtain ⟨V2, hV2⟩ : ∃ V : Int, (fstN (lowAt ps) kb : Int) = V := ⟨_, rfl⟩
          rw [hV1] at HAa HMm HRow
          rw [hV2] at HAb HMm HRow
          obtain ⟨Sx, hSx⟩ : ∃ S, str x = S := ⟨_, rfl⟩
          obtain ⟨Sy, hSy⟩ : ∃ S, str y = S := ⟨_, rfl⟩
          obtain ⟨Ea, hEa⟩ : ∃ E, errOf (addE Pa x) = E := ⟨_, rfl⟩
          obtain ⟨Eb, hEb⟩ : ∃ E, errOf (addE Pb y) = E := ⟨_, rfl⟩
          rw [hSx, hEa] at HAa
          rw [hSy, hEb] at HAb
          rw [hSx] at q1
          rw [hSy] at q2
          have HQ1 := hid q1
          have HQ2 := hid q2
          have hjn2 : (j : Int) < (i : Int) := by omega
          have hbD := below_drewH wr 1
          have HOd := hid (show OrdH w wr.drew ta tb Pa Pb (idsTo ps i) (.slice (some ⟨g2, 0, none⟩) i d) from HOr.out.next hbD)
          have hS0c : OneN wr.drew g1 o1 j g2 Sx V1 := ⟨cell_keep HOd.out.low HQ1.out, (HRow.out _ _ _ HOd.out).1⟩
          clear hx hy hSx hSy hEa hEb hV1 hV2 hKz hK9 hz2n hf1 hf2 r1x q1 q2 hM hbD
          go_wp2
          refine wp_region_noPanic ?_
          refine any_begin 10 (by kernel_rfl) (by kernel_rfl) ?_
          refine late_begin (fun U => OneN U g1 o1 j g2 Sx V1) (fun _ => false) hS0c (fun hS => ?_)
          refine late_take (i := 0) (some 95) rfl rfl (by kernel_rfl) (by kernel_rfl) (by kernel_rfl) (by kernel_rfl) (by kernel_rfl) (fun _ _ _ h => h) (by rfl) (v := ?v0c) ?hy0c hS ?rest0c
          case hy0c => intro w0 hSw; obtain ⟨a0, a1⟩ := hSw; go_simp; try with_reducible rfl
          simp only [Act.put, List.setIfInBounds_toArray, List.set_cons_zero, List.set_cons_succ]
          refine late_take (i := 1) (some 96) rfl rfl (by kernel_rfl) (by kernel_rfl) (by kernel_rfl) (by kernel_rfl) (by kernel_rfl) (fun _ _ _ h => h) (by rfl) (v := ?v1c) ?hy1c hS ?rest1c
          case hy1c => intro w0 hSw; obtain ⟨a0, a1⟩ := hSw; go_simp; try with_reducible rfl
          simp only [Act.put, List.setIfInBounds_toArray, List.set_cons_zero, List.set_cons_succ]
          refine late_take (i := 2) (some 97) rfl rfl (by kernel_rfl) (by kernel_rfl) (by kernel_rfl) (by kernel_rfl) (by kernel_rfl) (fun _ _ _ h => h) (by rfl) (v := ?v2c) ?hy2c hS ?rest2c
          case hy2c => intro w0 hSw; obtain ⟨a0, a1⟩ := hSw; go_simp; try with_reducible rfl
          simp only [Act.put, List.setIfInBounds_toArray, List.set_cons_zero, List.set_cons_succ]
          refine late_take (i := 3) (some 98) rfl rfl (by kernel_rfl) (by kernel_rfl) (by kernel_rfl) (by kernel_rfl) (by kernel_rfl) (fun _ _ _ h => h) (by rfl) (v := ?v3c) ?hy3c hS ?rest3c
          case hy3c => intro w0 hSw; obtain ⟨a0, a1⟩ := hSw; go_simp; try with_reducible rfl
          simp only [Act.put, List.setIfInBounds_toArray, List.set_cons_zero, List.set_cons_succ]
          refine late_take (i := 4) (some 99) rfl rfl (by kernel_rfl) (by kernel_rfl) (by kernel_rfl) (by kernel_rfl) (by kernel_rfl) (fun _ _ _ h => h) (by rfl) (v := ?v4c) ?hy4c hS ?rest4c
          case hy4c => intro w0 hSw; obtain ⟨a0, a1⟩ := hSw; go_simp; try with_reducible rfl
          simp only [Act.put, List.setIfInBounds_toArray, List.set_cons_zero, List.set_cons_succ]
          refine late_take (i := 5) (some 100) rfl rfl (by kernel_rfl) (by kernel_rfl) (by kernel_rfl) (by kernel_rfl) (by kernel_rfl) (fun _ _ _ h => h) (by rfl) (v := ?v5c) ?hy5c hS ?rest5c
          case hy5c => intro w0 hSw; obtain ⟨a0, a1⟩ := hSw; go_simp; try with_reducible rfl
          simp only [Act.put, List.setIfInBounds_toArray, List.set_cons_zero, List.set_cons_succ]
          refine late_take (i := 6) (some 101) rfl rfl (by kernel_rfl) (by kernel_rfl) (by kernel_rfl) (by kernel_rfl) (by kernel_rfl) (fun _ _ _ h => h) (by rfl) (v := ?v6c) ?hy6c hS ?rest6c
          case hy6c => intro w0 hSw; obtain ⟨a0, a1⟩ := hSw; go_simp; try with_reducible rfl
          simp only [Act.put, List.setIfInBounds_toArray, List.set_cons_zero, List.set_cons_succ]
          refine late_take (i := 7) (some 102) rfl rfl (by kernel_rfl) (by kernel_rfl) (by kernel_rfl) (by kernel_rfl) (by kernel_rfl) (fun _ _ _ h => h) (by rfl) (v := ?v7c) ?hy7c hS ?rest7c
          case hy7c => intro w0 hSw; obtain ⟨a0, a1⟩ := hSw; go_simp; try with_reducible rfl
          simp only [Act.put, List.setIfInBounds_toArray, List.set_cons_zero, List.set_cons_succ]
          refine late_take (i := 8) (some 103) rfl rfl (by kernel_rfl) (by kernel_rfl) (by kernel_rfl) (by kernel_rfl) (by kernel_rfl) (fun _ _ _ h => h) (by rfl) (v := ?v8c) ?hy8c hS ?rest8c
          case hy8c => intro w0 hSw; obtain ⟨a0, a1⟩ := hSw; go_simp; try with_reducible rfl
          simp only [Act.put, List.setIfInBounds_toArray, List.set_cons_zero, List.set_cons_succ]
          refine wpAnyD_one (i := 9) (by kernel_rfl) rfl (fun K hK => ?_)
          go_simp
          go_at_call 22
          (with_reducible refine (HAa.out _ HOd.out).mono ?_)
          rintro e w5 ⟨rfl, h5⟩
          have HO5 := hid h5
          have hS1c : OneN w5 g1 o1 j g2 Sx V1 := ⟨cell_keep h5.low HQ1.out, (HRow.out _ _ _ h5).1⟩
          clear h5
          refine hK _ _ ⟨fun _ => hS1c, ?_⟩
          clear hK K
          try simp only [Act.put, List.setIfInBounds_toArray, List.set_cons_zero, List.set_cons_succ]
          refine late_done (by kernel_rfl) ?_ _
          refine NoPanic.normal ?_
          go_wp2_with (refine HR3.out _ _ _ _ _ _ rfl rfl (by go_simp) rfl ?_)
          have hbE := below_drewH w5 1
          have HOe := hid (show OrdH w w5.drew ta tb _ Pb (idsTo ps i) (.slice (some ⟨g2, 0, none⟩) i d) from HO5.out.next hbE)
          have hS0d : OneN w5.drew g1 o1 kb g2 Sy V2 := ⟨cell_keep HOe.out.low HQ2.out, (HRow.out _ _ _ HOe.out).2⟩
          clear hbE
          refine wp_region_noPanic ?_
          refine any_begin 10 (by kernel_rfl) (by kernel_rfl) ?_
          refine late_begin (fun U => OneN U g1 o1 kb g2 Sy V2) (fun _ => false) hS0d (fun hS => ?_)
          refine late_take (i := 0) (some 114) rfl rfl (by kernel_rfl) (by kernel_rfl) (by kernel_rfl) (by kernel_rfl) (by kernel_rfl) (fun _ _ _ h => h) (by rfl) (v := ?v0d) ?hy0d hS ?rest0d
          case hy0d => intro w0 hSw; obtain ⟨a0, a1⟩ := hSw; go_simp; try with_reducible rfl
          simp only [Act.put, List.setIfInBounds_toArray, List.set_cons_zero, List.set_cons_succ]
          refine late_take (i := 1) (some 115) rfl rfl (by kernel_rfl) (by kernel_rfl) (by kernel_rfl) (by kernel_rfl) (by kernel_rfl) (fun _ _ _ h => h) (by rfl) (v := ?v1d) ?hy1d hS ?rest1d
          case hy1d => intro w0 hSw; obtain ⟨a0, a1⟩ := hSw; go_simp; try with_reducible rfl
          simp only [Act.put, List.setIfInBounds_toArray, List.set_cons_zero, List.set_cons_succ]
          refine late_take (i := 2) (some 116) rfl rfl (by kernel_rfl) (by kernel_rfl) (by kernel_rfl) (by kernel_rfl) (by kernel_rfl) (fun _ _ _ h => h) (by rfl) (v := ?v2d) ?hy2d hS ?rest2d
          case hy2d => intro w0 hSw; obtain ⟨a0, a1⟩ := hSw; go_simp; try with_reducible rfl
          simp only [Act.put, List.setIfInBounds_toArray, List.set_cons_zero, List.set_cons_succ]
          refine late_take (i := 3) (some 117) rfl rfl (by kernel_rfl) (by kernel_rfl) (by kernel_rfl) (by kernel_rfl) (by kernel_rfl) (fun _ _ _ h => h) (by rfl) (v := ?v3d) ?hy3d hS ?rest3d
          case hy3d => intro w0 hSw; obtain ⟨a0, a1⟩ := hSw; go_simp; try with_reducible rfl
          simp only [Act.put, List.setIfInBounds_toArray, List.set_cons_zero, List.set_cons_succ]
          refine late_take (i := 4) (some 118) rfl rfl (by kernel_rfl) (by kernel_rfl) (by kernel_rfl) (by kernel_rfl) (by kernel_rfl) (fun _ _ _ h => h) (by rfl) (v := ?v4d) ?hy4d hS ?rest4d
          case hy4d => intro w0 hSw; obtain ⟨a0, a1⟩ := hSw; go_simp; try with_reducible rfl
          simp only [Act.put, List.setIfInBounds_toArray, List.set_cons_zero, List.set_cons_succ]
          refine late_take (i := 5) (some 119) rfl rfl (by kernel_rfl) (by kernel_rfl) (by kernel_rfl) (by kernel_rfl) (by kernel_rfl) (fun _ _ _ h => h) (by rfl) (v := ?v5d) ?hy5d hS ?rest5d
          case hy5d => intro w0 hSw; obtain ⟨a0, a1⟩ := hSw; go_simp; try with_reducible rfl
          simp only [Act.put, List.setIfInBounds_toArray, List.set_cons_zero, List.set_cons_succ]
          refine late_take (i := 6) (some 120) rfl rfl (by kernel_rfl) (by kernel_rfl) (by kernel_rfl) (by kernel_rfl) (by kernel_rfl) (fun _ _ _ h => h) (by rfl) (v := ?v6d) ?hy6d hS ?rest6d
          case hy6d => intro w0 hSw; obtain ⟨a0, a1⟩ := hSw; go_simp; try with_reducible rfl
          simp only [Act.put, List.setIfInBounds_toArray, List.set_cons_zero, List.set_cons_succ]
          refine late_take (i := 7) (some 121) rfl rfl (by kernel_rfl) (by kernel_rfl) (by kernel_rfl) (by kernel_rfl) (by kernel_rfl) (fun _ _ _ h => h) (by rfl) (v := ?v7d) ?hy7d hS ?rest7d
          case hy7d => intro w0 hSw; obtain ⟨a0, a1⟩ := hSw; go_simp; try with_reducible rfl
          simp only [Act.put, List.setIfInBounds_toArray, List.set_cons_zero, List.set_cons_succ]
          refine late_take (i := 8) (some 122) rfl rfl (by kernel_rfl) (by kernel_rfl) (by kernel_rfl) (by kernel_rfl) (by kernel_rfl) (fun _ _ _ h => h) (by rfl) (v := ?v8d) ?hy8d hS ?rest8d
          case hy8d => intro w0 hSw; obtain ⟨a0, a1⟩ := hSw; go_simp; try with_reducible rfl
          simp only [Act.put, List.setIfInBounds_toArray, List.set_cons_zero, List.set_cons_succ]
          refine wpAnyD_one (i := 9) (by kernel_rfl) rfl (fun K hK => ?_)
          go_simp
          go_at_call 22
          (with_reducible refine (HAb.out _ _ HOe.out).mono ?_)
          rintro e w6 ⟨rfl, h6⟩
          have HO6 := hid h6
          have hS1d : OneN w6 g1 o1 kb g2 Sy V2 := ⟨cell_keep h6.low HQ2.out, (HRow.out _ _ _ h6).2⟩
          clear h6
          refine hK _ _ ⟨fun _ => hS1d, ?_⟩
          clear hK K
          try simp only [Act.put, List.setIfInBounds_toArray, List.set_cons_zero, List.set_cons_succ]
          refine late_done (by kernel_rfl) ?_ _
          refine NoPanic.normal ?_
          go_wp2
          go_roundg (i - (j + 1) + 1)
          case measure => omega
          case rel => exact ⟨j + 1, _, _, by omega, rfl, by push_cast; go_num, HO6.out, HMm.out⟩
        · obtain rfl : j = i := by omega
          obtain ⟨m1, m2, _, _⟩ := hM.out
          have hfm : findN Pb host = findN Pa host := (find_mem host (fun x => by
            rw [m1 x, m2 x]
            constructor
            · rintro ⟨a, ha, h2⟩
              exact ⟨a, turn_all hu4 a ha, h2⟩
            · rintro ⟨a, ⟨b, hb, e⟩, h2⟩
              exact ⟨a, by rw [← e]; exact turn_lt (by omega), h2⟩) HOr.out.apart).symm
          have HFA := hid (HOr.out.findA HMx.out host (by have := HHh.out; omega))
          have HFB := hid (fun (W : World) (h : OrdH w W ta tb Pa Pb (idsTo ps j) (.slice q j d)) => by have h9 := h.findB HMx.out host (by have := HHh.out; omega); rw [hfm] at h9; exact h9)
          have HFo := hid (fun h0 => found_fits HNl.out m1 (host := host) h0)
          have HNu := hid (fun W : World => num_any _ (findN_le Pa host) W)
          rw [HSH.out] at HFA HFB
          obtain ⟨X, hX⟩ : ∃ X, (findN Pa host).1 = X := ⟨_, rfl⟩
          rw [hX] at HFA HFB HFo
          have htwo := findN_two Pa host
          clear m1 m2 hfm hX hM hjn
          rcases htwo with h0 | h0
          · have hFo := HFo.out h0
            obtain ⟨k, x, rfl, hkn, hx, hfit, hbe⟩ := hFo
            rw [h0, errOf_zero] at HFA HFB HNu
            rw [show ((0 : Nat) : Int) = 0 from rfl] at HNu
            obtain ⟨g1, o1, rfl, q1⟩ := HA.out k x hx
            have hxl := HPs.out x (List.mem_of_getElem? hx)
            have HFt := hid (fun (W : World) (h : MxAt W) => by have h9 := pfitsN x host (by omega) (by have := HHh.out; omega) W h; rw [hfit] at h9; exact h9)
            have HBt := hid (fun (i : Nat) (z : B) (hz : ps[i]? = some z) (W : World) (h : MxAt W) => by have h9 := pBeats_any z x host (by have := HPs.out z (List.mem_of_getElem? hz); omega) (by omega) (by have := HHh.out; omega) W h; rw [hbe i z hz] at h9; exact h9)
            obtain ⟨Sx, hSx⟩ : ∃ S, str x = S := ⟨_, rfl⟩
            rw [hSx, HSH.out] at HFt HBt
            rw [show errOf (true, 0).2 = .nilIface from rfl] at HFt
            dsimp only at HFt
            rw [hSx] at q1
            have HQ1 := hid q1
            have hk0 : ¬ (k : Int) < 0 := by omega
            have hk1 : ¬ (j : Int) ≤ (k : Int) := by omega
            have hk2 : (0 : Int) ≤ (k : Int) := by omega
            have hk3 : (k : Int) < (j : Int) := by omega
            have hjj : ¬ (j : Int) < (j : Int) := by omega
            have HQw := hid (show ∀ W, Below w.heap.size w W → W.cell? ⟨g1, o1 + k, none⟩ = some (.string Sx) from fun W hb => cell_keep hb HQ1.out)
            clear hx hfit hbe hxl hSx q1 h0 HFo
            go_wp2_with (first | (go_at_call 25; first | ((with_reducible refine HFA.out.mono ?_); rintro e w5 ⟨rfl, h5⟩; have HO5 := hid h5; clear h5 HFA HOr) | ((with_reducible refine (HFB.out _ HO5.out).mono ?_); rintro e w6 ⟨rfl, h6⟩; have HO6 := hid h6; have q6 := HQw.out _ h6.low; clear h6 HFB HO5)) | (go_at_call 12; (with_reducible refine (HNu.out _).mono ?_); rintro e w7 ⟨rfl, rfl⟩) | (go_at_call 16; (with_reducible refine (HFt.out _ (HMx.out.next HO6.out.low)).mono ?_); rintro e w8 ⟨rfl, hb8⟩; have HB8 := hid (below_out HO6.out.low hb8); clear hb8 HFt))
            go_loopg [21] (j + 1) (fun gk s21 wr => ∃ i : Nat, i ≤ j ∧ gk = j - i + 1 ∧ s21 = .int .i64 (i : Int) ∧ Below w.heap.size w wr)
            case atStart => exact ⟨0, by omega, rfl, rfl, HB8.out⟩
            case round =>
              obtain ⟨i, hi, rfl, rfl, hb⟩ := hrel
              have HBr := hid hb
              clear hb
              by_cases hij : i < j
              · obtain ⟨z, hz⟩ : ∃ z, ps[i]? = some z := ⟨_, List.getElem?_eq_getElem (by rw [HNl.out]; exact hij)⟩
                obtain ⟨g9, o9, e2, q2⟩ := HA.out i z hz
                injection e2 with e2
                injection e2 with e3 e4 _
                subst e3
                subst e4
                have HBz := hid (HBt.out i z hz)
                obtain ⟨Sz, hSz⟩ : ∃ S, str z = S := ⟨_, rfl⟩
                obtain ⟨Ez, hEz⟩ : ∃ E, errOf (beatsN z x host).2 = E := ⟨_, rfl⟩
                rw [hSz, hEz] at HBz
                rw [hSz] at q2
                have hbD := below_out HBr.out (below_drewH wr 1)
                have hS0e : TwoL wr.drew g1 o1 i k Sz Sx := ⟨cell_keep hbD q2, cell_keep hbD HQ1.out⟩
                have HBD := hid (show Below w.heap.size w wr.drew from hbD)
                have hij2 : (i : Int) < (j : Int) := by omega
                clear hz hSz hEz q2 hbD
                go_wp2
                refine wp_region_noPanic ?_
                refine any_begin 15 (by kernel_rfl) (by kernel_rfl) ?_
                refine late_begin (fun U => TwoL U g1 o1 i k Sz Sx) (fun _ => false) hS0e (fun hS => ?_)
                refine late_take (i := 0) (some 179) rfl rfl (by kernel_rfl) (by kernel_rfl) (by kernel_rfl) (by kernel_rfl) (by kernel_rfl) (fun _ _ _ h => h) (by rfl) (v := ?v0e) ?hy0e hS ?rest0e
                case hy0e => intro w0 hSw; obtain ⟨a0, a1⟩ := hSw; go_simp; try with_reducible rfl
                simp only [Act.put, List.setIfInBounds_toArray, List.set_cons_zero, List.set_cons_succ]
                refine late_take (i := 1) (some 180) rfl rfl (by kernel_rfl) (by kernel_rfl) (by kernel_rfl) (by kernel_rfl) (by kernel_rfl) (fun _ _ _ h => h) (by rfl) (v := ?v1e) ?hy1e hS ?rest1e
                case hy1e => intro w0 hSw; obtain ⟨a0, a1⟩ := hSw; go_simp; try with_reducible rfl
                simp only [Act.put, List.setIfInBounds_toArray, List.set_cons_zero, List.set_cons_succ]
                refine late_take (i := 2) (some 181) rfl rfl (by kernel_rfl) (by kernel_rfl) (by kernel_rfl) (by kernel_rfl) (by kernel_rfl) (fun _ _ _ h => h) (by rfl) (v := ?v2e) ?hy2e hS ?rest2e
                case hy2e => intro w0 hSw; obtain ⟨a0, a1⟩ := hSw; go_simp; try with_reducible rfl
                simp only [Act.put, List.setIfInBounds_toArray, List.set_cons_zero, List.set_cons_succ]
                refine late_take (i := 3) (some 182) rfl rfl (by kernel_rfl) (by kernel_rfl) (by kernel_rfl) (by kernel_rfl) (by kernel_rfl) (fun _ _ _ h => h) (by rfl) (v := ?v3e) ?hy3e hS ?rest3e
                case hy3e => intro w0 hSw; obtain ⟨a0, a1⟩ := hSw; go_simp; try with_reducible rfl
                simp only [Act.put, List.setIfInBounds_toArray, List.set_cons_zero, List.set_cons_succ]
                refine late_take (i := 4) (some 183) rfl rfl (by kernel_rfl) (by kernel_rfl) (by kernel_rfl) (by kernel_rfl) (by kernel_rfl) (fun _ _ _ h => h) (by rfl) (v := ?v4e) ?hy4e hS ?rest4e
                case hy4e => intro w0 hSw; obtain ⟨a0, a1⟩ := hSw; go_simp; try with_reducible rfl
                simp only [Act.put, List.setIfInBounds_toArray, List.set_cons_zero, List.set_cons_succ]
                refine late_take (i := 5) (some 184) rfl rfl (by kernel_rfl) (by kernel_rfl) (by kernel_rfl) (by kernel_rfl) (by kernel_rfl) (fun _ _ _ h => h) (by rfl) (v := ?v5e) ?hy5e hS ?rest5e
                case hy5e => intro w0 hSw; obtain ⟨a0, a1⟩ := hSw; go_simp; try with_reducible rfl
                simp only [Act.put, List.setIfInBounds_toArray, List.set_cons_zero, List.set_cons_succ]
                refine late_take (i := 6) (some 185) rfl rfl (by kernel_rfl) (by kernel_rfl) (by kernel_rfl) (by kernel_rfl) (by kernel_rfl) (fun _ _ _ h => h) (by rfl) (v := ?v6e) ?hy6e hS ?rest6e
                case hy6e => intro w0 hSw; obtain ⟨a0, a1⟩ := hSw; go_simp; try with_reducible rfl
                simp only [Act.put, List.setIfInBounds_toArray, List.set_cons_zero, List.set_cons_succ]
                refine late_take (i := 7) (some 186) rfl rfl (by kernel_rfl) (by kernel_rfl) (by kernel_rfl) (by kernel_rfl) (by kernel_rfl) (fun _ _ _ h => h) (by rfl) (v := ?v7e) ?hy7e hS ?rest7e
                case hy7e => intro w0 hSw; obtain ⟨a0, a1⟩ := hSw; go_simp; try with_reducible rfl
                simp only [Act.put, List.setIfInBounds_toArray, List.set_cons_zero, List.set_cons_succ]
                refine late_take (i := 8) (some 187) rfl rfl (by kernel_rfl) (by kernel_rfl) (by kernel_rfl) (by kernel_rfl) (by kernel_rfl) (fun _ _ _ h => h) (by rfl) (v := ?v8e) ?hy8e hS ?rest8e
                case hy8e => intro w0 hSw; obtain ⟨a0, a1⟩ := hSw; go_simp; try with_reducible rfl
                simp only [Act.put, List.setIfInBounds_toArray, List.set_cons_zero, List.set_cons_succ]
                refine wpAnyD_one (i := 9) (by kernel_rfl) rfl (fun K hK => ?_)
                go_simp
                go_at_call 18
                (with_reducible refine (HBz.out _ (HMx.out.next HBD.out)).mono ?_)
                rintro e w9 ⟨rfl, hb9⟩
                have HB9 := hid (below_out HBD.out hb9)
                have hS1e : TwoL w9 g1 o1 i k Sz Sx := ⟨cell_keep hb9 hS0e.a0, cell_keep hb9 hS0e.a1⟩
                clear hb9
                refine hK _ _ ⟨fun _ => hS1e, ?_⟩
                clear hK K
                try simp only [Act.put, List.setIfInBounds_toArray, List.set_cons_zero, List.set_cons_succ]
                refine late_take (i := 10) (some 178) rfl rfl (by kernel_rfl) (by kernel_rfl) (by kernel_rfl) (by kernel_rfl) (by kernel_rfl) (fun _ _ _ h => h) (by rfl) (v := ?v10e) ?hy10e hS1e ?rest10e
                case hy10e => intro w0 hSw; obtain ⟨a0, a1⟩ := hSw; go_simp; try with_reducible rfl
                simp only [Act.put, List.setIfInBounds_toArray, List.set_cons_zero, List.set_cons_succ]
                refine late_take (i := 11) (some 189) rfl rfl (by kernel_rfl) (by kernel_rfl) (by kernel_rfl) (by kernel_rfl) (by kernel_rfl) (fun _ _ _ h => h) (by rfl) (v := ?v11e) ?hy11e hS1e ?rest11e
                case hy11e => intro w0 hSw; obtain ⟨a0, a1⟩ := hSw; go_simp; try with_reducible rfl
                simp only [Act.put, List.setIfInBounds_toArray, List.set_cons_zero, List.set_cons_succ]
                refine late_take (i := 12) (some 190) rfl rfl (by kernel_rfl) (by kernel_rfl) (by kernel_rfl) (by kernel_rfl) (by kernel_rfl) (fun _ _ _ h => h) (by rfl) (v := ?v12e) ?hy12e hS1e ?rest12e
                case hy12e => intro w0 hSw; obtain ⟨a0, a1⟩ := hSw; go_simp; try with_reducible rfl
                simp only [Act.put, List.setIfInBounds_toArray, List.set_cons_zero, List.set_cons_succ]
                refine late_take (i := 13) (some 22) rfl rfl (by kernel_rfl) (by kernel_rfl) (by kernel_rfl) (by kernel_rfl) (by kernel_rfl) (fun _ _ _ h => h) (by rfl) (v := ?v13e) ?hy13e hS1e ?rest13e
                case hy13e => intro w0 hSw; obtain ⟨a0, a1⟩ := hSw; go_simp; try with_reducible rfl
                simp only [Act.put, List.setIfInBounds_toArray, List.set_cons_zero, List.set_cons_succ]
                refine late_take (i := 14) (some 23) rfl rfl (by kernel_rfl) (by kernel_rfl) (by kernel_rfl) (by kernel_rfl) (by kernel_rfl) (fun _ _ _ h => h) (by rfl) (v := ?v14e) ?hy14e hS1e ?rest14e
                case hy14e => intro w0 hSw; obtain ⟨a0, a1⟩ := hSw; go_simp; try with_reducible rfl
                simp only [Act.put, List.setIfInBounds_toArray, List.set_cons_zero, List.set_cons_succ]
                refine late_done (by kernel_rfl) ?_ _
                refine NoPanic.normal ?_
                go_wp2
                go_roundg (j - (i + 1) + 1)
                case measure => omega
                case rel => exact ⟨i + 1, by omega, rfl, by push_cast; go_num, HB9.out⟩
              · have hij2 : ¬ (i : Int) < (j : Int) := by omega
                clear hij
                go_wp2_with (go_at_call 15; (with_reducible refine (HW.out _ (HMx.out.next HBr.out)).mono ?_); rintro e w9 ⟨rfl, hb⟩; have HB9 := hid (below_out HBr.out hb); clear hb)
                go_ret
                exact ⟨rfl, HB9.out⟩
          · obtain ⟨kk, hkk, hk9⟩ : ∃ kk : Nat, (findN Pa host).2 = kk ∧ kk ≠ 0 := by
              rcases h0 with h | h
              · exact ⟨3, h, by decide⟩
              · exact ⟨8, h, by decide⟩
            rw [hkk, errOf_pos hk9] at HFA HFB HNu
            have hjj : ¬ (j : Int) < (j : Int) := by omega
            clear HFo h0 hkk hk9
            go_wp2_with (first | (go_at_call 25; first | ((with_reducible refine HFA.out.mono ?_); rintro e w5 ⟨rfl, h5⟩; have HO5 := hid h5; clear h5 HFA HOr) | ((with_reducible refine (HFB.out _ HO5.out).mono ?_); rintro e w6 ⟨rfl, h6⟩; have HO6 := hid h6; clear h6 HFB HO5)) | (go_at_call 12; (with_reducible refine (HNu.out _).mono ?_); rintro e w7 ⟨rfl, rfl⟩) | (go_at_call 15; (with_reducible refine (HW.out _ (HMx.out.next HO6.out.low)).mono ?_); rintro e w9 ⟨rfl, hb⟩; have HB9 := hid (below_out HO6.out.low hb); clear hb))
            go_ret
            exact ⟨rfl, HB9.out⟩
end Go.Proofs.YtkjgdfihhhdjaaaDoor
