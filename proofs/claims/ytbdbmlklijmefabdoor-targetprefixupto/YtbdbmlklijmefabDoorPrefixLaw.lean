/- The law of dots laid into a path that is meant. -/
import Derived.Test.YtbdbmlklijmefabDoorPWorks
namespace Go.Proofs.YtbdbmlklijmefabDoor
open Go.RowKit

theorem Go.Below.drew' {Bd : Nat} {a w : World} (h : Below Bd a w) : Below Bd a w.drew := ⟨h.os, h.tape, h.output, h.size, h.block⟩
theorem tmod_bd (a : Int) (n : Nat) (h : 0 < n) : -(n : Int) < a.tmod n ∧ a.tmod n < n := by
  have h1 := Int.tmod_lt_of_pos a (show (0 : Int) < n by omega)
  have h2 : -(n : Int) < a.tmod n := by
    have := Int.tmod_lt_of_pos (-a) (show (0 : Int) < n by omega)
    rw [Int.neg_tmod] at this
    omega
  exact ⟨h2, h1⟩
set_option maxRecDepth 20000 in
set_option maxHeartbeats 8000000 in
theorem targetPrefix_any (s : B) (at0 : Int) (twice : Bool) (hs : s.length ≤ 1048576) (w : World) (hE : Env w) : Calls Tryd.prog 3 #[.string (str s), .int .i64 at0, .bool twice] w fun e w' => e = .returned (.bool true) ∧ Below w.heap.size w w' := by
  have HE := hid hE
  have HN1 := hid (pnormal_any s (by omega))
  have HWk := hid works_any
  cases hn : normalB s with
  | none =>
    have HN2 := hid (show ∀ w, Env w → Calls Tryd.prog 4 #[.string (str s)] w fun e w' => e = .returned (.tuple #[.string ⟨#[]⟩, .iface 29 (.int .i64 23)]) ∧ Below w.heap.size w w' from by rw [hn] at HN1; exact HN1.out)
    obtain ⟨S, hS⟩ : ∃ S, str s = S := ⟨_, rfl⟩
    rw [hS] at HN2 ⊢
    clear hs hE HN1 hn hS
    go_enter Tryd.func3, Tryd.ntmps3
    go_wp2_with (first
      | (go_at_call 4; (with_reducible refine (HN2.out _ HE.out).mono ?_); rintro e w1 ⟨rfl, hb⟩; have HB1 := hid hb; have HE1 := hid (HE.out.below hb); clear hb)
      | (go_at_call 5; (with_reducible refine (HWk.out _ HE1.out).mono ?_); rintro e w8 ⟨rfl, hb⟩; have HB8 := hid (below_out HB1.out hb); clear hb))
    go_ret
    exact ⟨rfl, HB8.out⟩
  | some p =>
    obtain ⟨o, ho⟩ := normal_meant hn
    have hpl := normal_len hn
    rw [hn] at HN1
    obtain ⟨n, hnl⟩ : ∃ n, p.length = n := ⟨_, rfl⟩
    obtain ⟨t0, ht0, _⟩ := normal_parts hn
    have HP0 := hid (show p[0]? = some 47 from by rw [ht0]; rfl)
    have hn1 : 1 ≤ n := by rw [← hnl, ht0]; simp
    have hne : p ≠ [] := by rw [ht0]; simp
    obtain ⟨Pp, hPp⟩ : ∃ Pp, str p = Pp := ⟨_, rfl⟩
    have HPp := hid hPp
    have hPn : Pp.size = n := by rw [← hPp, str_size, hnl]
    have hq : Pp.toList.isEmpty = false := by rw [← hPp]; exact ne_empty (str_ne (b := []) hne)
    have hq2 : (Pp.toList == (⟨#[]⟩ : ByteArray).toList) = false := by rw [← hPp]; exact ne_list (str_ne (b := []) hne)
    have HByte := hid (show ∀ (k : Nat) (y : UInt8) (h2 : k < Pp.size), p[k]? = some y → Pp[k]'h2 = y from fun k y h2 hy => by
      subst hPp
      have hk : k < p.length := (List.getElem?_eq_some_iff.1 hy).1
      rw [List.getElem?_eq_getElem hk] at hy
      exact Option.some.inj hy)
    have HLn := hid hnl
    have HMt := hid ho
    have HEx := hid (show ∀ f k, Pp.extract f k = str ((p.drop f).take (k - f)) from fun f k => by rw [← hPp]; exact ext_str p f k)
    have HNS2 := hid (show ∀ w, Env w → Calls Tryd.prog 4 #[.string (str s)] w fun e w' => e = .returned (.tuple #[.string Pp, .nilIface]) ∧ Below w.heap.size w w' from by rw [← hPp]; exact HN1.out)
    obtain ⟨S, hS⟩ : ∃ S, str s = S := ⟨_, rfl⟩
    rw [hS] at HNS2 ⊢
    have hb0 : ∀ h : 0 < Pp.size, (Pp[0]'h).toNat = 47 := fun h => by rw [HByte.out 0 47 h HP0.out]; rfl
    have hn20 : n ≤ 1048576 := by omega
    clear hs hE HN1 hn hS hPp hnl hpl ho ht0 hne
    by_cases hbig : 20000 < n
    · have hbd : decide ((20000 : Int) < (n : Int)) = true := decide_eq_true (by omega)
      clear hbig
      go_enter Tryd.func3, Tryd.ntmps3
      go_wp2_with (first
        | (go_at_call 4; (with_reducible refine (HNS2.out _ HE.out).mono ?_); rintro e w1 ⟨rfl, hb⟩; have HB1 := hid hb; have HE1 := hid (HE.out.below hb); clear hb)
        | (go_at_call 5; (with_reducible refine (HWk.out _ HE1.out).mono ?_); rintro e w8 ⟨rfl, hb⟩; have HB8 := hid (below_out HB1.out hb); clear hb))
      go_ret
      exact ⟨rfl, HB8.out⟩
    · have hbd : decide ((20000 : Int) < (n : Int)) = false := decide_eq_false (by omega)
      clear hbig
      obtain ⟨b1, b2⟩ := tmod_bd at0 n hn1
      obtain ⟨A1, hA1⟩ : ∃ A1, at0.tmod (n : Int) = A1 := ⟨_, rfl⟩
      rw [hA1] at b1 b2
      have hw1 : IntKind.i64.wrap A1 = A1 := by rw [IntKind.wrap_i64]; omega
      have hw2 : IntKind.i64.wrap (A1 + (n : Int)) = A1 + (n : Int) := by rw [IntKind.wrap_i64]; omega
      obtain ⟨a0, ha0⟩ : ∃ a0 : Nat, (A1 + (n : Int)).tmod (n : Int) = (a0 : Int) := ⟨((A1 + (n : Int)).tmod (n : Int)).toNat, by
        have := Int.tmod_nonneg (n : Int) (show 0 ≤ A1 + (n : Int) by omega)
        omega⟩
      have ha0n : a0 < n := by
        have := (tmod_bd (A1 + (n : Int)) n hn1).2
        omega
      have hnz : ¬ (n : Int) = 0 := by omega
      have hnz2 : ((n : Int) == 0) = false := by simpa using hnz
      have hw3 : IntKind.i64.wrap (a0 : Int) = (a0 : Int) := by rw [IntKind.wrap_i64]; omega
      go_enter Tryd.func3, Tryd.ntmps3
      go_wp2_with (go_at_call 4; (with_reducible refine (HNS2.out _ HE.out).mono ?_); rintro e w1 ⟨rfl, hb⟩; have HB1 := hid hb; have HE1 := hid (HE.out.below hb); have HEd := hid (HE.out.below (Go.Below.drew' hb)); clear hb)
      clear hA1 ha0 hw1 hw2 b1 b2 hw3
      go_loopg [1] (a0 + 1) (fun gk s1 wr => ∃ i : Nat, s1 = .int .i64 (i : Int) ∧ i < n ∧ gk = i + 1 ∧ wr = w1)
      case atStart => exact ⟨a0, by go_num, ha0n, rfl, rfl⟩
      case round =>
        obtain ⟨i, rfl, hi, rfl, hwr⟩ := hrel
        subst wr
        clear ha0n
        obtain ⟨y, hy⟩ : ∃ y, p[i]? = some y := ⟨_, List.getElem?_eq_getElem (by rw [HLn.out]; exact hi)⟩
        have hby : ∀ h : i < Pp.size, (Pp[i]'h).toNat = y.toNat := fun h => by rw [HByte.out i y h hy]
        by_cases h47 : y = 47
        · subst h47
          have hlt : i < p.length := by rw [HLn.out]; exact hi
          have e0 : p[i] = 47 := by rw [List.getElem?_eq_getElem hlt] at hy; exact Option.some.inj hy
          have HDr := hid (show p.drop i = 47 :: p.drop (i + 1) from by rw [List.drop_eq_getElem_cons hlt, e0])
          have HSp := hid (show p = p.take i ++ 47 :: p.drop (i + 1) from by rw [← HDr.out, List.take_append_drop])
          clear hlt e0 hy
          cases twice with
          | false =>
            have HNd0 := hid (pnormal_any (p.take i ++ [47, 46] ++ p.drop i) (by rw [List.length_append, List.length_append, List.length_take, List.length_drop, HLn.out]; simp; omega))
            rw [show normalB (p.take i ++ [47, 46] ++ p.drop i) = some p from by rw [HDr.out]; exact laid_dot HMt.out HSp.out] at HNd0
            have hx1 : Pp.extract 0 i = str (p.take i) := by rw [HEx.out]; simp
            have hx2 : Pp.extract i n = str (p.drop i) := by rw [HEx.out, List.take_of_length_le (by rw [List.length_drop, HLn.out]; exact Nat.le_refl _)]
            have hy1 : str (p.take i) ++ (⟨#[47, 46]⟩ : ByteArray) = str (p.take i ++ [47, 46]) := str_app _ [47, 46]
            have hy2 : str (p.take i ++ [47, 46]) ++ str (p.drop i) = str (p.take i ++ [47, 46] ++ p.drop i) := str_app _ _
            have hz1 : (str (p.take i)).size = i := by rw [str_size, List.length_take, HLn.out]; omega
            have hz2 : (str (p.take i ++ [47, 46])).size = i + 2 := by rw [str_size, List.length_append, List.length_take, HLn.out]; simp; omega
            have hz3 : (str (p.drop i)).size = n - i := by rw [str_size, List.length_drop, HLn.out]
            obtain ⟨Sa, hSa⟩ : ∃ Sa, str (p.take i) = Sa := ⟨_, rfl⟩
            obtain ⟨Sb, hSb⟩ : ∃ Sb, str (p.take i ++ [47, 46]) = Sb := ⟨_, rfl⟩
            obtain ⟨Sc, hSc⟩ : ∃ Sc, str (p.drop i) = Sc := ⟨_, rfl⟩
            obtain ⟨Sd, hSd⟩ : ∃ Sd, str (p.take i ++ [47, 46] ++ p.drop i) = Sd := ⟨_, rfl⟩
            rw [hSa] at hx1 hy1 hz1
            rw [hSb] at hy1 hy2 hz2
            rw [hSc] at hx2 hy2 hz3
            rw [hSd] at hy2 HNd0
            have HNd := hid (show ∀ w, Env w → Calls Tryd.prog 4 #[.string Sd] w fun e w' => e = .returned (.tuple #[.string Pp, .nilIface]) ∧ Below w.heap.size w w' from by rw [← HPp.out]; exact HNd0.out)
            have hg1 : ¬ 9223372036854775807 < i + 2 := by omega
            have hg2 : ¬ 9223372036854775807 < i + 2 + (n - i) := by omega
            have hin1 : (0 : Int) ≤ (i : Int) ∧ (i : Int) ≤ (n : Int) := by omega
            clear hSa hSb hSc hSd HNd0
            go_wp2
            refine wp_region_noPanic ?_
            refine any_begin 15 (by kernel_rfl) (by kernel_rfl) ?_
            refine any_take (i := 0) (some 50) rfl rfl (by kernel_rfl) (by kernel_rfl) (by kernel_rfl) (fun _ _ _ h => h) (by rfl) (v := ?v0f) ?hy0f ?rest0f
            case hy0f => intro w0; go_simp; try with_reducible rfl
            simp only [Act.put, List.setIfInBounds_toArray, List.set_cons_zero, List.set_cons_succ]
            refine any_take (i := 1) (some 51) rfl rfl (by kernel_rfl) (by kernel_rfl) (by kernel_rfl) (fun _ _ _ h => h) (by rfl) (v := ?v1f) ?hy1f ?rest1f
            case hy1f => intro w0; go_simp; try with_reducible rfl
            simp only [Act.put, List.setIfInBounds_toArray, List.set_cons_zero, List.set_cons_succ]
            refine any_take (i := 2) (some 52) rfl rfl (by kernel_rfl) (by kernel_rfl) (by kernel_rfl) (fun _ _ _ h => h) (by rfl) (v := ?v2f) ?hy2f ?rest2f
            case hy2f => intro w0; go_simp; try with_reducible rfl
            simp only [Act.put, List.setIfInBounds_toArray, List.set_cons_zero, List.set_cons_succ]
            refine any_take (i := 3) (some 53) rfl rfl (by kernel_rfl) (by kernel_rfl) (by kernel_rfl) (fun _ _ _ h => h) (by rfl) (v := ?v3f) ?hy3f ?rest3f
            case hy3f => intro w0; go_simp; try with_reducible rfl
            simp only [Act.put, List.setIfInBounds_toArray, List.set_cons_zero, List.set_cons_succ]
            refine any_take (i := 4) (some 54) rfl rfl (by kernel_rfl) (by kernel_rfl) (by kernel_rfl) (fun _ _ _ h => h) (by rfl) (v := ?v4f) ?hy4f ?rest4f
            case hy4f => intro w0; go_simp; try with_reducible rfl
            simp only [Act.put, List.setIfInBounds_toArray, List.set_cons_zero, List.set_cons_succ]
            refine any_take (i := 5) (some 55) rfl rfl (by kernel_rfl) (by kernel_rfl) (by kernel_rfl) (fun _ _ _ h => h) (by rfl) (v := ?v5f) ?hy5f ?rest5f
            case hy5f => intro w0; go_simp; try with_reducible rfl
            simp only [Act.put, List.setIfInBounds_toArray, List.set_cons_zero, List.set_cons_succ]
            refine any_take (i := 6) (some 56) rfl rfl (by kernel_rfl) (by kernel_rfl) (by kernel_rfl) (fun _ _ _ h => h) (by rfl) (v := ?v6f) ?hy6f ?rest6f
            case hy6f => intro w0; go_simp; try with_reducible rfl
            simp only [Act.put, List.setIfInBounds_toArray, List.set_cons_zero, List.set_cons_succ]
            refine any_take (i := 7) (some 57) rfl rfl (by kernel_rfl) (by kernel_rfl) (by kernel_rfl) (fun _ _ _ h => h) (by rfl) (v := ?v7f) ?hy7f ?rest7f
            case hy7f => intro w0; go_simp; try with_reducible rfl
            simp only [Act.put, List.setIfInBounds_toArray, List.set_cons_zero, List.set_cons_succ]
            refine any_take (i := 8) (some 58) rfl rfl (by kernel_rfl) (by kernel_rfl) (by kernel_rfl) (fun _ _ _ h => h) (by rfl) (v := ?v8f) ?hy8f ?rest8f
            case hy8f => intro w0; go_simp; try with_reducible rfl
            simp only [Act.put, List.setIfInBounds_toArray, List.set_cons_zero, List.set_cons_succ]
            refine any_one (i := 9) (by kernel_rfl) rfl (fun K hK => ?_)
            go_simp
            go_at_call 4
            refine (HNd.out _ HEd.out).mono ?_
            rintro e w3 ⟨rfl, hb3⟩
            have HB3 := hid (below_out (Go.Below.drew' HB1.out) hb3)
            have HE3 := hid (HEd.out.below hb3)
            clear hb3
            refine hK _ _ ?_
            clear hK K
            refine any_take (i := 10) (some 49) rfl rfl (by kernel_rfl) (by kernel_rfl) (by kernel_rfl) (fun _ _ _ h => h) (by rfl) (v := ?v10f) ?hy10f ?rest10f
            case hy10f => intro w0; go_simp; try with_reducible rfl
            simp only [Act.put, List.setIfInBounds_toArray, List.set_cons_zero, List.set_cons_succ]
            refine any_take (i := 11) (some 60) rfl rfl (by kernel_rfl) (by kernel_rfl) (by kernel_rfl) (fun _ _ _ h => h) (by rfl) (v := ?v11f) ?hy11f ?rest11f
            case hy11f => intro w0; go_simp; try with_reducible rfl
            simp only [Act.put, List.setIfInBounds_toArray, List.set_cons_zero, List.set_cons_succ]
            refine any_take (i := 12) (some 61) rfl rfl (by kernel_rfl) (by kernel_rfl) (by kernel_rfl) (fun _ _ _ h => h) (by rfl) (v := ?v12f) ?hy12f ?rest12f
            case hy12f => intro w0; go_simp; try with_reducible rfl
            simp only [Act.put, List.setIfInBounds_toArray, List.set_cons_zero, List.set_cons_succ]
            refine any_take (i := 13) (some 10) rfl rfl (by kernel_rfl) (by kernel_rfl) (by kernel_rfl) (fun _ _ _ h => h) (by rfl) (v := ?v13f) ?hy13f ?rest13f
            case hy13f => intro w0; go_simp; try with_reducible rfl
            simp only [Act.put, List.setIfInBounds_toArray, List.set_cons_zero, List.set_cons_succ]
            refine any_take (i := 14) (some 11) rfl rfl (by kernel_rfl) (by kernel_rfl) (by kernel_rfl) (fun _ _ _ h => h) (by rfl) (v := ?v14f) ?hy14f ?rest14f
            case hy14f => intro w0; go_simp; try with_reducible rfl
            simp only [Act.put, List.setIfInBounds_toArray, List.set_cons_zero, List.set_cons_succ]
            refine any_done (by kernel_rfl) ?_ _
            refine NoPanic.normal ?_
            go_wp2_with (go_at_call 5; (with_reducible refine (HWk.out _ HE3.out).mono ?_); rintro e w4 ⟨rfl, hb⟩; have HB4 := hid (below_out HB3.out hb); clear hb)
            go_ret
            exact ⟨rfl, HB4.out⟩
          | true =>
            have HNd0 := hid (pnormal_any (p.take i ++ [47, 120, 47, 37, 50, 69, 46] ++ p.drop i) (by rw [List.length_append, List.length_append, List.length_take, List.length_drop, HLn.out]; simp; omega))
            rw [show normalB (p.take i ++ [47, 120, 47, 37, 50, 69, 46] ++ p.drop i) = some p from by rw [HDr.out]; exact laid_two HMt.out HSp.out] at HNd0
            have hx1 : Pp.extract 0 i = str (p.take i) := by rw [HEx.out]; simp
            have hx2 : Pp.extract i n = str (p.drop i) := by rw [HEx.out, List.take_of_length_le (by rw [List.length_drop, HLn.out]; exact Nat.le_refl _)]
            have hy1 : str (p.take i) ++ (⟨#[47, 120, 47, 37, 50, 69, 46]⟩ : ByteArray) = str (p.take i ++ [47, 120, 47, 37, 50, 69, 46]) := str_app _ [47, 120, 47, 37, 50, 69, 46]
            have hy2 : str (p.take i ++ [47, 120, 47, 37, 50, 69, 46]) ++ str (p.drop i) = str (p.take i ++ [47, 120, 47, 37, 50, 69, 46] ++ p.drop i) := str_app _ _
            have hz1 : (str (p.take i)).size = i := by rw [str_size, List.length_take, HLn.out]; omega
            have hz2 : (str (p.take i ++ [47, 120, 47, 37, 50, 69, 46])).size = i + 7 := by rw [str_size, List.length_append, List.length_take, HLn.out]; simp; omega
            have hz3 : (str (p.drop i)).size = n - i := by rw [str_size, List.length_drop, HLn.out]
            obtain ⟨Sa, hSa⟩ : ∃ Sa, str (p.take i) = Sa := ⟨_, rfl⟩
            obtain ⟨Sb, hSb⟩ : ∃ Sb, str (p.take i ++ [47, 120, 47, 37, 50, 69, 46]) = Sb := ⟨_, rfl⟩
            obtain ⟨Sc, hSc⟩ : ∃ Sc, str (p.drop i) = Sc := ⟨_, rfl⟩
            obtain ⟨Sd, hSd⟩ : ∃ Sd, str (p.take i ++ [47, 120, 47, 37, 50, 69, 46] ++ p.drop i) = Sd := ⟨_, rfl⟩
            rw [hSa] at hx1 hy1 hz1
            rw [hSb] at hy1 hy2 hz2
            rw [hSc] at hx2 hy2 hz3
            rw [hSd] at hy2 HNd0
            have HNd := hid (show ∀ w, Env w → Calls Tryd.prog 4 #[.string Sd] w fun e w' => e = .returned (.tuple #[.string Pp, .nilIface]) ∧ Below w.heap.size w w' from by rw [← HPp.out]; exact HNd0.out)
            have hg1 : ¬ 9223372036854775807 < i + 7 := by omega
            have hg2 : ¬ 9223372036854775807 < i + 7 + (n - i) := by omega
            have hin1 : (0 : Int) ≤ (i : Int) ∧ (i : Int) ≤ (n : Int) := by omega
            clear hSa hSb hSc hSd HNd0
            go_wp2
            refine wp_region_noPanic ?_
            refine any_begin 15 (by kernel_rfl) (by kernel_rfl) ?_
            refine any_take (i := 0) (some 50) rfl rfl (by kernel_rfl) (by kernel_rfl) (by kernel_rfl) (fun _ _ _ h => h) (by rfl) (v := ?v0t) ?hy0t ?rest0t
            case hy0t => intro w0; go_simp; try with_reducible rfl
            simp only [Act.put, List.setIfInBounds_toArray, List.set_cons_zero, List.set_cons_succ]
            refine any_take (i := 1) (some 51) rfl rfl (by kernel_rfl) (by kernel_rfl) (by kernel_rfl) (fun _ _ _ h => h) (by rfl) (v := ?v1t) ?hy1t ?rest1t
            case hy1t => intro w0; go_simp; try with_reducible rfl
            simp only [Act.put, List.setIfInBounds_toArray, List.set_cons_zero, List.set_cons_succ]
            refine any_take (i := 2) (some 52) rfl rfl (by kernel_rfl) (by kernel_rfl) (by kernel_rfl) (fun _ _ _ h => h) (by rfl) (v := ?v2t) ?hy2t ?rest2t
            case hy2t => intro w0; go_simp; try with_reducible rfl
            simp only [Act.put, List.setIfInBounds_toArray, List.set_cons_zero, List.set_cons_succ]
            refine any_take (i := 3) (some 53) rfl rfl (by kernel_rfl) (by kernel_rfl) (by kernel_rfl) (fun _ _ _ h => h) (by rfl) (v := ?v3t) ?hy3t ?rest3t
            case hy3t => intro w0; go_simp; try with_reducible rfl
            simp only [Act.put, List.setIfInBounds_toArray, List.set_cons_zero, List.set_cons_succ]
            refine any_take (i := 4) (some 54) rfl rfl (by kernel_rfl) (by kernel_rfl) (by kernel_rfl) (fun _ _ _ h => h) (by rfl) (v := ?v4t) ?hy4t ?rest4t
            case hy4t => intro w0; go_simp; try with_reducible rfl
            simp only [Act.put, List.setIfInBounds_toArray, List.set_cons_zero, List.set_cons_succ]
            refine any_take (i := 5) (some 55) rfl rfl (by kernel_rfl) (by kernel_rfl) (by kernel_rfl) (fun _ _ _ h => h) (by rfl) (v := ?v5t) ?hy5t ?rest5t
            case hy5t => intro w0; go_simp; try with_reducible rfl
            simp only [Act.put, List.setIfInBounds_toArray, List.set_cons_zero, List.set_cons_succ]
            refine any_take (i := 6) (some 56) rfl rfl (by kernel_rfl) (by kernel_rfl) (by kernel_rfl) (fun _ _ _ h => h) (by rfl) (v := ?v6t) ?hy6t ?rest6t
            case hy6t => intro w0; go_simp; try with_reducible rfl
            simp only [Act.put, List.setIfInBounds_toArray, List.set_cons_zero, List.set_cons_succ]
            refine any_take (i := 7) (some 57) rfl rfl (by kernel_rfl) (by kernel_rfl) (by kernel_rfl) (fun _ _ _ h => h) (by rfl) (v := ?v7t) ?hy7t ?rest7t
            case hy7t => intro w0; go_simp; try with_reducible rfl
            simp only [Act.put, List.setIfInBounds_toArray, List.set_cons_zero, List.set_cons_succ]
            refine any_take (i := 8) (some 58) rfl rfl (by kernel_rfl) (by kernel_rfl) (by kernel_rfl) (fun _ _ _ h => h) (by rfl) (v := ?v8t) ?hy8t ?rest8t
            case hy8t => intro w0; go_simp; try with_reducible rfl
            simp only [Act.put, List.setIfInBounds_toArray, List.set_cons_zero, List.set_cons_succ]
            refine any_one (i := 9) (by kernel_rfl) rfl (fun K hK => ?_)
            go_simp
            go_at_call 4
            refine (HNd.out _ HEd.out).mono ?_
            rintro e w3 ⟨rfl, hb3⟩
            have HB3 := hid (below_out (Go.Below.drew' HB1.out) hb3)
            have HE3 := hid (HEd.out.below hb3)
            clear hb3
            refine hK _ _ ?_
            clear hK K
            refine any_take (i := 10) (some 49) rfl rfl (by kernel_rfl) (by kernel_rfl) (by kernel_rfl) (fun _ _ _ h => h) (by rfl) (v := ?v10t) ?hy10t ?rest10t
            case hy10t => intro w0; go_simp; try with_reducible rfl
            simp only [Act.put, List.setIfInBounds_toArray, List.set_cons_zero, List.set_cons_succ]
            refine any_take (i := 11) (some 60) rfl rfl (by kernel_rfl) (by kernel_rfl) (by kernel_rfl) (fun _ _ _ h => h) (by rfl) (v := ?v11t) ?hy11t ?rest11t
            case hy11t => intro w0; go_simp; try with_reducible rfl
            simp only [Act.put, List.setIfInBounds_toArray, List.set_cons_zero, List.set_cons_succ]
            refine any_take (i := 12) (some 61) rfl rfl (by kernel_rfl) (by kernel_rfl) (by kernel_rfl) (fun _ _ _ h => h) (by rfl) (v := ?v12t) ?hy12t ?rest12t
            case hy12t => intro w0; go_simp; try with_reducible rfl
            simp only [Act.put, List.setIfInBounds_toArray, List.set_cons_zero, List.set_cons_succ]
            refine any_take (i := 13) (some 10) rfl rfl (by kernel_rfl) (by kernel_rfl) (by kernel_rfl) (fun _ _ _ h => h) (by rfl) (v := ?v13t) ?hy13t ?rest13t
            case hy13t => intro w0; go_simp; try with_reducible rfl
            simp only [Act.put, List.setIfInBounds_toArray, List.set_cons_zero, List.set_cons_succ]
            refine any_take (i := 14) (some 11) rfl rfl (by kernel_rfl) (by kernel_rfl) (by kernel_rfl) (fun _ _ _ h => h) (by rfl) (v := ?v14t) ?hy14t ?rest14t
            case hy14t => intro w0; go_simp; try with_reducible rfl
            simp only [Act.put, List.setIfInBounds_toArray, List.set_cons_zero, List.set_cons_succ]
            refine any_done (by kernel_rfl) ?_ _
            refine NoPanic.normal ?_
            go_wp2_with (go_at_call 5; (with_reducible refine (HWk.out _ HE3.out).mono ?_); rintro e w4 ⟨rfl, hb⟩; have HB4 := hid (below_out HB3.out hb); clear hb)
            go_ret
            exact ⟨rfl, HB4.out⟩
        · have z1 : ¬ (y.toNat : Int) = 47 := fun e => h47 (UInt8.toNat_inj.1 (by show y.toNat = 47; omega))
          have z2 : ((y.toNat : Int) != 47) = true := by simpa using z1
          have hi0 : 0 < i := by
            rcases Nat.eq_zero_or_pos i with h | h
            · exfalso
              rw [h] at hy
              exact h47 (Option.some.inj (hy.symm.trans HP0.out))
            · exact h
          clear h47 hy
          go_wp2
          go_roundg (i - 1 + 1)
          case measure => omega
          case rel => exact ⟨i - 1, by go_num, by omega, rfl, rfl⟩
end Go.Proofs.YtbdbmlklijmefabDoor
