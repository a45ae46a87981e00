/- The document's own: fields that may be written, lines of fields, a whole head. -/
import Derived.Test.YtpcfcpeokkbfmaaDoorWRef
import Derived.Test.YtpcfcpeokkbfmaaDoorWThree
namespace Go.Proofs.YtpcfcpeokkbfmaaDoor
open Go.RowKit

theorem dw_len (l : B) : (l.dropWhile bl).length ≤ l.length := (List.dropWhile_sublist bl).length_le
theorem trim_len (v : B) : (trimL v).length ≤ (v.dropWhile bl).length := by
  unfold trimL
  rw [List.length_reverse]
  exact Nat.le_trans (dw_len _) (by simp)
theorem trim_first {x : UInt8} {l : B} (h : bl x = true) : trimL (x :: l) ≠ x :: l := by
  intro e
  have h1 := trim_len (x :: l)
  rw [e, List.dropWhile_cons, if_pos h] at h1
  have h2 := dw_len l
  simp at h1
  omega
theorem trim_last {v : B} {y : UInt8} {l : B} (hv : v = l ++ [y]) (h : bl y = true) : trimL v ≠ v := by
  intro e
  have h1 : (trimL v).length < v.length := by
    unfold trimL
    rw [List.length_reverse]
    rcases Nat.lt_or_ge (v.dropWhile bl).length v.length with q | q
    · exact Nat.lt_of_le_of_lt (dw_len _) (by simpa using q)
    · have e2 : v.dropWhile bl = v := by
        have := List.takeWhile_append_dropWhile (p := bl) (l := v)
        have h3 := congrArg List.length this
        rw [List.length_append] at h3
        have h4 : (v.takeWhile bl) = [] := List.eq_nil_of_length_eq_zero (by omega)
        rw [h4, List.nil_append] at this
        exact this
      rw [e2, hv, List.reverse_append]
      simp only [List.reverse_cons, List.reverse_nil, List.nil_append, List.singleton_append, List.dropWhile_cons, h, if_true]
      have := dw_len l.reverse
      simp at this ⊢
      omega
  rw [e] at h1
  omega
theorem trim_none {x y : UInt8} {l l' v : B} (h0 : v = x :: l) (h1 : v = l' ++ [y]) (hx : bl x = false) (hy : bl y = false) : trimL v = v := by
  unfold trimL
  have e1 : v.dropWhile bl = v := by rw [h0, List.dropWhile_cons, if_neg (by simp [hx])]
  rw [e1]
  have e2 : v.reverse = y :: l'.reverse := by rw [h1]; simp
  rw [e2, List.dropWhile_cons, if_neg (by simp [hy]), ← e2, List.reverse_reverse]
theorem bl_eq (x : UInt8) : bl x = blankB (x.toNat : Int) := rfl
set_option maxRecDepth 20000 in
set_option maxHeartbeats 8000000 in
theorem rfields_any (fs : List (B × B)) (p : Option Addr) (n c : Nat) (hn : fs.length = n) (w : World) (hF : FAt w p fs) (hsz : ∀ f ∈ fs, f.1.length ≤ 1048576 ∧ f.2.length ≤ 1048576) (hnn : n ≤ 140737488355328) :
    Calls Tryd.prog 37 #[.slice p n c] w fun e w' => e = .returned (.bool (fineB fs)) ∧ w' = w := by
  obtain ⟨R, hR⟩ : ∃ R, fineB fs = R := ⟨_, rfl⟩
  have HR := hid hR
  have HF := hid hF
  have HSz := hid hsz
  have HN := hid hn
  rw [hR]
  clear hR hF hsz hn
  by_cases h64 : 64 < n
  · have h65 : (64 : Int) < (n : Int) := by omega
    have HV := hid (show R = false from by rw [← HR.out]; unfold fineB; rw [decide_eq_false (by rw [HN.out]; omega)]; rfl)
    go_enter Tryd.func37, Tryd.ntmps37
    go_wp2
    go_ret
    exact ⟨ret_bool HV.out.symm, rfl⟩
  have h65 : ¬ (64 : Int) < (n : Int) := by omega
  go_enter Tryd.func37, Tryd.ntmps37
  go_wp2
  go_loopg [3] (n + 1) (fun gk s3 wr => ∃ i : Nat, s3 = .int .i64 (i : Int) ∧ i ≤ n ∧ gk = n - i + 1 ∧ wr = w ∧ (fs.take i).all okF = true)
  case atStart => exact ⟨0, rfl, by omega, rfl, rfl, by simp⟩
  case round =>
    obtain ⟨i, rfl, hin, rfl, rfl, hall⟩ := hrel
    have HAll := hid hall
    clear hall
    by_cases hlt : i < n
    · obtain ⟨f, hf⟩ : ∃ f, fs[i]? = some f := ⟨fs[i]'(by rw [HN.out]; exact hlt), List.getElem?_eq_getElem (by rw [HN.out]; exact hlt)⟩
      have HFi := hid hf
      obtain ⟨g, o, hp, c0, c1⟩ := HF.out i f hf
      subst hp
      obtain ⟨fz1, fz2⟩ := HSz.out f (List.mem_of_getElem? hf)
      have hltI : (i : Int) < (n : Int) := by omega
      have HTk := hid (show ∀ w : World, _ from fun w => ristoken_any (str f.1) w (by rw [str_size]; unfold maxLen; omega))
      have HWdz := hid (show ∀ w : World, _ from fun w => words_any f.2 (by omega) w)
      have HBl := hid (show ∀ (x : Int) (w : World), _ from fun x w => rblank10_any x w)
      have HOk := hid (okF_eq f)
      have HVb := hid (show valueB f.2 = (allB 2 f.2 && decide (trimL f.2 = f.2)) from rfl)
      have HBad := hid (show okF f = false → R = false from fun h => by rw [← HR.out]; unfold fineB; rw [all_false HFi.out h]; simp)
      have HGood := hid (show okF f = true → (fs.take (i + 1)).all okF = true from fun h => by rw [List.take_add_one, HFi.out, List.all_append, HAll.out]; simp [h])
      obtain ⟨N, hN⟩ : ∃ N, str f.1 = N := ⟨_, rfl⟩
      rw [hN] at HTk HOk c0
      cases htk : isTok N with
      | false =>
        rw [htk] at HTk HOk
        have HV := hid (HBad.out (by rw [HOk.out]; rfl))
        obtain ⟨V, hV⟩ : ∃ V, str f.2 = V := ⟨_, rfl⟩
        rw [hV] at c1
        clear htk hf hN hV fz1 fz2 HWdz
        go_wp2_with (go_at_call 35; (with_reducible refine (HTk.out _).mono ?_); rintro e w1 ⟨rfl, hw1⟩; subst w1)
        go_ret
        exact ⟨ret_bool HV.out.symm, rfl⟩
      | true =>
        rw [htk] at HTk HOk
        cases hwd : allB 2 f.2 with
        | false =>
          rw [hwd] at HWdz HVb
          have HV := hid (HBad.out (by rw [HOk.out, HVb.out]; rfl))
          obtain ⟨V, hV⟩ : ∃ V, str f.2 = V := ⟨_, rfl⟩
          rw [hV] at c1 HWdz
          clear htk hf hN hV fz1 fz2 hwd
          go_wp2_with (first | (go_at_call 35; (with_reducible refine (HTk.out _).mono ?_); rintro e w1 ⟨rfl, hw1⟩; subst w1) | (go_at_call 42; (with_reducible refine (HWdz.out _).mono ?_); rintro e w1 ⟨rfl, hw1⟩; subst w1))
          go_ret
          exact ⟨ret_bool HV.out.symm, rfl⟩
        | true =>
          rw [hwd] at HWdz HVb
          by_cases hemp : f.2 = []
          · have HX := hid (HGood.out (by rw [HOk.out, HVb.out, hemp]; rfl))
            rw [hemp] at c1 HWdz
            clear htk hf hN fz1 fz2 hwd hemp
            go_wp2_with (first | (go_at_call 35; (with_reducible refine (HTk.out _).mono ?_); rintro e w1 ⟨rfl, hw1⟩; subst w1) | (go_at_call 42; (with_reducible refine (HWdz.out _).mono ?_); rintro e w1 ⟨rfl, hw1⟩; subst w1))
            go_roundg (n - (i + 1) + 1)
            case measure => omega
            case rel => exact ⟨i + 1, by go_num, by omega, rfl, rfl, HX.out⟩
          · obtain ⟨x, l, hx⟩ := List.exists_cons_of_ne_nil hemp
            obtain ⟨l', y, hy⟩ : ∃ l' y, f.2 = l' ++ [y] := ⟨f.2.dropLast, f.2.getLast hemp, (List.dropLast_concat_getLast hemp).symm⟩
            obtain ⟨e1, e2⟩ := str_empty hemp
            obtain ⟨m, hm⟩ : ∃ m, l'.length = m := ⟨_, rfl⟩
            have hlen : f.2.length = m + 1 := by rw [hy, List.length_append, hm]; rfl
            have hm2 : m ≤ 1048576 := by omega
            have hsV : (str f.2).size = m + 1 := by rw [str_size]; exact hlen
            have hb0 : ∀ h : 0 < (str f.2).size, ((str f.2)[0]'h).toNat = x.toNat := fun h => by
              have h9 : f.2[0]? = some x := by rw [hx]; rfl
              have h8 : (str f.2)[0]'h = f.2[0]'(by omega) := rfl
              rw [h8]
              exact congrArg UInt8.toNat (Option.some.inj ((List.getElem?_eq_getElem (by omega)).symm.trans h9))
            have hbL : ∀ h : m < (str f.2).size, ((str f.2)[m]'h).toNat = y.toNat := fun h => by
              have h9 : f.2[m]? = some y := by rw [hy, ← hm]; simp
              have h8 : (str f.2)[m]'h = f.2[m]'(by omega) := rfl
              rw [h8]
              exact congrArg UInt8.toNat (Option.some.inj ((List.getElem?_eq_getElem (by omega)).symm.trans h9))
            have HT1 := hid (show blankB (x.toNat : Int) = true → trimL f.2 ≠ f.2 from fun h => by rw [hx]; exact trim_first h)
            have HT2 := hid (show blankB (y.toNat : Int) = true → trimL f.2 ≠ f.2 from fun h => trim_last hy h)
            have HT3 := hid (show blankB (x.toNat : Int) = false → blankB (y.toNat : Int) = false → trimL f.2 = f.2 from fun h h' => trim_none hx hy h h')
            obtain ⟨V, hV⟩ : ∃ V, str f.2 = V := ⟨_, rfl⟩
            rw [hV] at c1 HWdz hsV e1 e2
            have hb0' : ∀ h : 0 < V.size, (V[0]'h).toNat = x.toNat := by subst hV; exact hb0
            have hbL' : ∀ h : m < V.size, (V[m]'h).toNat = y.toNat := by subst hV; exact hbL
            have hwm : IntKind.i64.wrap (((m + 1 : Nat) : Int) - 1) = (m : Int) := by rw [wrap_id (by omega) (by omega)]; omega
            obtain ⟨X, hX⟩ : ∃ X : Int, (x.toNat : Int) = X := ⟨_, rfl⟩
            obtain ⟨Y, hY⟩ : ∃ Y : Int, (y.toNat : Int) = Y := ⟨_, rfl⟩
            have hb0'' : ∀ h : 0 < V.size, (((V[0]'h).toNat : Nat) : Int) = X := fun h => by rw [hb0' h, hX]
            have hbL'' : ∀ h : m < V.size, (((V[m]'h).toNat : Nat) : Int) = Y := fun h => by rw [hbL' h, hY]
            rw [hX] at HT1 HT3
            rw [hY] at HT2 HT3
            clear hb0 hbL hb0' hbL' htk hf hN hV fz1 fz2 hwd hemp hx hy hm hlen hX hY
            cases hbx : blankB X with
            | true =>
              have HV := hid (HBad.out (by rw [HOk.out, HVb.out, decide_eq_false (HT1.out hbx)]; rfl))
              have HB1 := hid (show ∀ w : World, _ from fun w => HBl.out X w)
              rw [hbx] at HB1
              clear hbx
              go_wp2_with (first | (go_at_call 35; (with_reducible refine (HTk.out _).mono ?_); rintro e w1 ⟨rfl, hw1⟩; subst w1) | (go_at_call 42; (with_reducible refine (HWdz.out _).mono ?_); rintro e w1 ⟨rfl, hw1⟩; subst w1) | (go_at_call 64; (with_reducible refine (HB1.out _).mono ?_); rintro e w1 ⟨rfl, hw1⟩; subst w1))
              go_ret
              exact ⟨ret_bool HV.out.symm, rfl⟩
            | false =>
              have HB1 := hid (show ∀ w : World, _ from fun w => HBl.out X w)
              rw [hbx] at HB1
              cases hby : blankB Y with
              | true =>
                have HV := hid (HBad.out (by rw [HOk.out, HVb.out, decide_eq_false (HT2.out hby)]; rfl))
                have HB2 := hid (show ∀ w : World, _ from fun w => HBl.out Y w)
                rw [hby] at HB2
                clear hbx hby
                go_wp2_with (first | (go_at_call 35; (with_reducible refine (HTk.out _).mono ?_); rintro e w1 ⟨rfl, hw1⟩; subst w1) | (go_at_call 42; (with_reducible refine (HWdz.out _).mono ?_); rintro e w1 ⟨rfl, hw1⟩; subst w1) | (go_at_call 64; (with_reducible refine (HB1.out _).mono ?_); rintro e w1 ⟨rfl, hw1⟩; subst w1) | (go_at_call 64; (with_reducible refine (HB2.out _).mono ?_); rintro e w1 ⟨rfl, hw1⟩; subst w1))
                go_ret
                exact ⟨ret_bool HV.out.symm, rfl⟩
              | false =>
                have HX := hid (HGood.out (by rw [HOk.out, HVb.out, decide_eq_true (HT3.out hbx hby)]; rfl))
                have HB2 := hid (show ∀ w : World, _ from fun w => HBl.out Y w)
                rw [hby] at HB2
                clear hbx hby
                go_wp2_with (first | (go_at_call 35; (with_reducible refine (HTk.out _).mono ?_); rintro e w1 ⟨rfl, hw1⟩; subst w1) | (go_at_call 42; (with_reducible refine (HWdz.out _).mono ?_); rintro e w1 ⟨rfl, hw1⟩; subst w1) | (go_at_call 64; (with_reducible refine (HB1.out _).mono ?_); rintro e w1 ⟨rfl, hw1⟩; subst w1) | (go_at_call 64; (with_reducible refine (HB2.out _).mono ?_); rintro e w1 ⟨rfl, hw1⟩; subst w1))
                go_roundg (n - (i + 1) + 1)
                case measure => omega
                case rel => exact ⟨i + 1, by go_num, by omega, rfl, rfl, HX.out⟩
    · obtain rfl : i = n := by omega
      have HV := hid (show R = true from by rw [← HR.out]; unfold fineB; have h9 := HAll.out; rw [List.take_of_length_le (by rw [HN.out]; exact Nat.le_refl _)] at h9; rw [h9, decide_eq_true (by rw [HN.out]; omega)]; rfl)
      go_wp2
      go_ret
      exact ⟨ret_bool HV.out.symm, rfl⟩
end Go.Proofs.YtpcfcpeokkbfmaaDoor
