/- The law of what is meant: a path as it is meant is it again, has no dot segment and no code of an unreserved byte; paths that are meant alike have the same segments. -/
import Derived.Test.YtbdbmlklijmefaaDoorPathsLaw
namespace Go.Proofs.YtbdbmlklijmefaaDoor
open Go.RowKit

theorem segs_again {s p : B} (h : normalB s = some p) : segsT p = segsT s := by unfold segsT; rw [normal_twice h, h]
theorem seg_mem : ∀ (p : B) (f : Nat), p[f]? = some 47 → (p.drop (f + 1)).takeWhile (fun y => decide (y ≠ 47)) ∈ segsL p
  | [], f, h => by simp at h
  | c :: l, 0, h => by
    simp at h
    subst h
    rw [segsL, if_pos rfl]
    simp
  | c :: l, f + 1, h => by
    have ih := seg_mem l f (by simpa using h)
    rw [segsL, List.drop_succ_cons]
    split
    · exact List.mem_cons_of_mem _ ih
    · exact ih
/-- A piece between slashes. -/
theorem piece_nodot {p : B} {o : List B} (h : Meant p o) {f i : Nat} (h1 : p[f]? = some 47) (hle : f + 1 ≤ i) (h2 : ∀ k, f + 1 ≤ k → k < i → p[k]? ≠ some 47) (h3 : p.length ≤ i ∨ p[i]? = some 47) : (p.drop (f + 1)).take (i - (f + 1)) ≠ [46] ∧ (p.drop (f + 1)).take (i - (f + 1)) ≠ [46, 46] := by
  have hm := seg_mem p f h1
  rw [← segs_eq, h.segs] at hm
  have e : (p.drop (f + 1)).takeWhile (fun y => decide (y ≠ 47)) = (p.drop (f + 1)).take (i - (f + 1)) := by
    refine tw_at (fun y hy => ?_) ?_
    · obtain ⟨k, hk⟩ := List.getElem?_of_mem hy
      rw [List.getElem?_take] at hk
      split at hk
      · rw [List.getElem?_drop] at hk
        have := h2 (f + 1 + k) (by omega) (by omega)
        intro e
        rw [e] at hk
        exact this hk
      · cases hk
    · rcases h3 with h3 | h3
      · left; rw [List.length_drop]; omega
      · right; rw [List.getElem?_drop, show f + 1 + (i - (f + 1)) = i by omega]; exact h3
  rw [e] at hm
  exact h.nodot _ hm
/-- A code in what is meant. -/
theorem code_meant {p : B} {o : List B} (h : Meant p o) {i : Nat} (hi : i + 2 < p.length) (h37 : p[i]? = some 37) : ∃ v : UInt8, unres v = false ∧ (p.drop i).take 3 = codeB v ∧ p[i + 1]? = some (greatD (v.toNat / 16)) ∧ p[i + 2]? = some (greatD (v.toNat % 16)) := by
  have hc := join_clean o h.clean
  rw [← h.eq] at hc
  have hlt : i < p.length := by omega
  have e0 : p[i] = 37 := by rw [List.getElem?_eq_getElem hlt] at h37; exact Option.some.inj h37
  have e1 : p = p.take i ++ 37 :: p.drop (i + 1) := by
    conv => lhs; rw [← List.take_append_drop i p]
    rw [List.drop_eq_getElem_cons hlt, e0]
  obtain ⟨v, r, hv, hu⟩ := clean_code hc _ _ e1
  have e2 : p.drop i = 37 :: greatD (v.toNat / 16) :: greatD (v.toNat % 16) :: r := by rw [List.drop_eq_getElem_cons hlt, e0, hv]
  refine ⟨v, hu, by rw [e2]; rfl, ?_, ?_⟩
  · have := congrArg (·[1]?) e2
    simp only [List.getElem?_drop, List.getElem?_cons_succ, List.getElem?_cons_zero] at this
    exact this
  · have := congrArg (·[2]?) e2
    simp only [List.getElem?_drop, List.getElem?_cons_succ, List.getElem?_cons_zero] at this
    exact this
theorem great_lt (d : Nat) (h : d < 16) : (greatD d).toNat < 97 := by
  have key : ∀ K : Fin 16, (greatD K.val).toNat < 97 := by decide
  exact key ⟨d, h⟩
theorem code_dec (v : UInt8) : decodeB (codeB v) = some [v] := by
  have := dec_code v []
  rw [List.append_nil] at this
  rw [this]
  rfl
set_option maxRecDepth 20000 in
set_option maxHeartbeats 8000000 in
theorem targetMeant_any (s : B) (hs : s.length ≤ 1048576) (w : World) (hE : Env w) : Calls Tryd.prog 7 #[.string (str s)] w fun e w' => e = .returned (.bool true) ∧ Below w.heap.size w w' := by
  have HE := hid hE
  have HN1 := hid (pnormal_any s (by omega))
  have HWk := hid works_any
  cases hn : normalB s with
  | none =>
    have HN2 := hid (show ∀ w, Env w → Calls Tryd.prog 15 #[.string (str s)] w fun e w' => e = .returned (.tuple #[.string ⟨#[]⟩, .iface 55 (.int .i64 23)]) ∧ Below w.heap.size w w' from by rw [hn] at HN1; exact HN1.out)
    obtain ⟨S, hS⟩ : ∃ S, str s = S := ⟨_, rfl⟩
    rw [hS] at HN2 ⊢
    clear hs hE HN1 hn hS
    go_enter Tryd.func7, Tryd.ntmps7
    go_wp2_with (first
      | (go_at_call 15; (with_reducible refine (HN2.out _ HE.out).mono ?_); rintro e w1 ⟨rfl, hb⟩; have HB1 := hid hb; have HE1 := hid (HE.out.below hb); clear hb)
      | (go_at_call 12; (with_reducible refine (HWk.out _ HE1.out).mono ?_); rintro e w8 ⟨rfl, hb⟩; have HB8 := hid (below_out HB1.out hb); clear hb))
    go_ret
    exact ⟨rfl, HB8.out⟩
  | some p =>
    obtain ⟨o, ho⟩ := normal_meant hn
    have hpl := normal_len hn
    have HNP := hid (pnormal_any p (by omega))
    rw [normal_twice hn] at HNP
    rw [hn] at HN1
    have HS1 := hid (psegs_any s (by omega))
    have HS2 := hid (psegs_any p (by omega))
    rw [segs_again hn] at HS2
    have hsm := segs_small s
    obtain ⟨ns, k2, hseg⟩ : ∃ ns k2, segsT s = (ns, k2) := ⟨_, _, rfl⟩
    rw [hseg] at HS1 HS2 hsm
    dsimp only at HS1 HS2 hsm
    have HK2 := hid (errnum_any k2)
    obtain ⟨E2, hE2⟩ : ∃ E2, errOf k2 = E2 := ⟨_, rfl⟩
    rw [hE2] at HS1 HS2 HK2
    obtain ⟨m, hm⟩ : ∃ m, ns.length = m := ⟨_, rfl⟩
    rw [hm] at HS1 HS2 hsm
    have HSa := hid (show ∀ (b1 b2 c1 c2 : Nat) (p1 p2 : Option Addr) (w : World), OwnS w b1 (.slice p1 m c1) ns → OwnS w b2 (.slice p2 m c2) ns → _ from same_rows ns m hm (by omega))
    obtain ⟨n, hnl⟩ : ∃ n, p.length = n := ⟨_, rfl⟩
    obtain ⟨t0, ht0, _⟩ := normal_parts hn
    have HP0 := hid (show p[0]? = some 47 from by rw [ht0]; rfl)
    have hn1 : 1 ≤ n := by rw [← hnl, ht0]; simp
    have HPi := hid (show ∀ f i, p[f]? = some 47 → f + 1 ≤ i → (∀ k, f + 1 ≤ k → k < i → p[k]? ≠ some 47) → (n ≤ i ∨ p[i]? = some 47) → _ from fun f i a b c d => piece_nodot ho a b c (by rw [hnl]; exact d))
    have HCm := hid (show ∀ i, i + 2 < n → p[i]? = some 37 → _ from fun i a b => code_meant ho (by rw [hnl]; exact a) b)
    obtain ⟨Pp, hPp⟩ : ∃ Pp, str p = Pp := ⟨_, rfl⟩
    have hPn : Pp.size = n := by rw [← hPp, str_size, hnl]
    have HByte := hid (show ∀ (k : Nat) (y : UInt8) (h2 : k < Pp.size), p[k]? = some y → Pp[k]'h2 = y from fun k y h2 hy => by
      subst hPp
      have hk : k < p.length := (List.getElem?_eq_some_iff.1 hy).1
      rw [List.getElem?_eq_getElem hk] at hy
      exact Option.some.inj hy)
    have HLn := hid hnl
    have HEx := hid (show ∀ f k, Pp.extract f k = str ((p.drop f).take (k - f)) from fun f k => by rw [← hPp]; exact ext_str p f k)
    have HNP2 := hid (show ∀ w, Env w → Calls Tryd.prog 15 #[.string Pp] w fun e w' => e = .returned (.tuple #[.string Pp, .nilIface]) ∧ Below w.heap.size w w' from by rw [← hPp]; exact HNP.out)
    have HNS2 := hid (show ∀ w, Env w → Calls Tryd.prog 15 #[.string (str s)] w fun e w' => e = .returned (.tuple #[.string Pp, .nilIface]) ∧ Below w.heap.size w w' from by rw [← hPp]; exact HN1.out)
    rw [hPp] at HS2
    obtain ⟨S, hS⟩ : ∃ S, str s = S := ⟨_, rfl⟩
    rw [hS] at HNS2 HS1 ⊢
    have hb0 : ∀ h : 0 < Pp.size, (Pp[0]'h).toNat = 47 := fun h => by rw [HByte.out 0 47 h HP0.out]; rfl
    have hn20 : n ≤ 1048576 := by omega
    clear hs hE HN1 HNP hn hS hPp hnl hm hE2 hseg hpl ho ht0
    go_enter Tryd.func7, Tryd.ntmps7
    go_wp2_with (first
      | (go_at_call 15; (with_reducible refine (HNS2.out _ HE.out).mono ?_); rintro e w1 ⟨rfl, hb⟩; have HB1 := hid hb; have HE1 := hid (HE.out.below hb); clear hb)
      | (go_at_call 15; (with_reducible refine (HNP2.out _ HE1.out).mono ?_); rintro e w2 ⟨rfl, hb⟩; have HB2 := hid (below_out HB1.out hb); have HE2 := hid (HE1.out.below hb); clear hb)
      | (go_at_call 17; (with_reducible refine (HS1.out _ HE2.out).mono ?_); rintro e w3 ⟨p1, c1, rfl, ho, hb⟩; have HB3 := hid (below_out HB2.out hb); have HE3 := hid (HE2.out.below hb); have HO1 := hid ho; clear hb ho)
      | (go_at_call 17; (with_reducible refine (HS2.out _ HE3.out).mono ?_); rintro e w4 ⟨p2, c2, rfl, ho, hb⟩; have HB4 := hid (below_out HB3.out hb); have HO2 := hid ho; have HO3 := hid (HO1.out.keep hb); clear hb ho)
      | (go_at_call 19; (with_reducible refine (HSa.out _ _ _ _ _ _ _ HO3.out HO2.out).mono ?_); rintro e w6 ⟨rfl, hb⟩; have HB6 := hid (below_out HB4.out hb); have HE6 := hid (HE.out.below HB6.out); clear hb)
      | (go_at_call 11; (with_reducible refine (HK2.out _).mono ?_); rintro e w7 ⟨rfl, hw7⟩; subst w7))
    go_loopg [11, 12] (n + 1) (fun gk s11 s12 wr => ∃ f i : Nat, s11 = .int .i64 ((f + 1 : Nat) : Int) ∧ s12 = .int .i64 (i : Int) ∧ i ≤ n + 1 ∧ gk = n + 1 - i + 1 ∧ 1 ≤ i ∧ wr = w6 ∧ (i ≤ n → p[f]? = some 47 ∧ f + 1 ≤ i ∧ ∀ k, f + 1 ≤ k → k < i → p[k]? ≠ some 47))
    case atStart => exact ⟨0, 1, rfl, rfl, by omega, by omega, by omega, rfl, fun _ => ⟨HP0.out, by omega, fun k h1 h2 => by omega⟩⟩
    case round =>
      obtain ⟨f, i, rfl, rfl, hi, rfl, hi1, rfl, hin⟩ := hrel
      have HIn := hid hin
      clear hin
      by_cases hle : i ≤ n
      · obtain ⟨a1, a2, a3⟩ := HIn.out hle
        have hlei : (i : Int) ≤ (n : Int) := by omega
        have HPx := hid (HPi.out f i a1 a2 a3)
        have HA := hid a1
        have HA3 := hid a3
        clear a1 a3
        by_cases hstop : n ≤ i ∨ p[i]? = some 47
        · obtain ⟨d1, d2⟩ := HPx.out hstop
          have hx : Pp.extract (f + 1) i = str ((p.drop (f + 1)).take (i - (f + 1))) := HEx.out (f + 1) i
          obtain ⟨t, ht⟩ : ∃ t, (p.drop (f + 1)).take (i - (f + 1)) = t := ⟨_, rfl⟩
          rw [ht] at hx d1 d2
          have q1 : ((str t).toList == (⟨#[46]⟩ : ByteArray).toList) = false := ne_list (str_ne d1)
          have q2 : ((str t).toList == (⟨#[46, 46]⟩ : ByteArray).toList) = false := ne_list (str_ne d2)
          have q3 : (t == [46]) = false := by simpa using d1
          have q4 : (t == [46, 46]) = false := by simpa using d2
          have hfi : ((f : Int) + 1) ≤ (i : Int) := by omega
          clear ht d1 d2
          by_cases hlt : i < n
          · have h47 : p[i]? = some 47 := hstop.resolve_left (by omega)
            have hbi : ∀ h : i < Pp.size, (Pp[i]'h).toNat = 47 := fun h => by rw [HByte.out i 47 h h47]; rfl
            have H47 := hid h47
            clear hstop h47
            go_wp2
            go_roundg (n + 1 - (i + 1) + 1)
            case measure => omega
            case rel => exact ⟨i, i + 1, by go_num, by go_num, by omega, by omega, by omega, rfl, fun _ => ⟨H47.out, by omega, fun k h1 h2 => by omega⟩⟩
          · clear hstop
            obtain rfl : n = i := by omega
            go_wp2
            go_roundg (n + 1 - (n + 1) + 1)
            case measure => omega
            case rel => exact ⟨n, n + 1, by go_num, by go_num, by omega, by omega, by omega, rfl, fun h => by omega⟩
        · have hlt : i < n := by
            rcases Nat.lt_or_ge i n with h | h
            · exact h
            · exact absurd (.inl h) hstop
          have h47 : p[i]? ≠ some 47 := fun e => hstop (.inr e)
          obtain ⟨y, hy⟩ : ∃ y, p[i]? = some y := ⟨_, List.getElem?_eq_getElem (by rw [HLn.out]; exact hlt)⟩
          have hbi : ∀ h : i < Pp.size, (Pp[i]'h).toNat = y.toNat := fun h => by rw [HByte.out i y h hy]
          have z1 : ¬ (y.toNat : Int) = 47 := fun e => h47 (by rw [hy]; congr 1; exact UInt8.toNat_inj.1 (by show y.toNat = 47; omega))
          have z2 : ((y.toNat : Int) != 47) = true := by simpa using z1
          have H47 := hid h47
          clear hstop h47 hy
          go_wp2
          go_roundg (n + 1 - (i + 1) + 1)
          case measure => omega
          case rel => exact ⟨f, i + 1, rfl, by go_num, by omega, by omega, by omega, rfl, fun _ => ⟨HA.out, by omega, fun k h1 h2 => by
            by_cases e : k = i
            · rw [e]; exact H47.out
            · exact HA3.out k h1 (by omega)⟩⟩
      · obtain rfl : i = n + 1 := by omega
        obtain ⟨W6, hW6⟩ : ∃ W6, W6 = wr := ⟨_, rfl⟩
        subst hW6
        go_wp2
        go_loopg [13] (n + 1) (fun gk s13 wr => ∃ i : Nat, s13 = .int .i64 (i : Int) ∧ i ≤ n ∧ gk = n - i + 1 ∧ Below W6.heap.size W6 wr)
        case atStart => exact ⟨0, rfl, by omega, rfl, Below.refl _ _⟩
        case round =>
          obtain ⟨i, rfl, hi2, rfl, hb⟩ := hrel
          have HB := hid hb
          clear hb
          by_cases hlt : i + 2 < n
          · obtain ⟨y, hy⟩ : ∃ y, p[i]? = some y := ⟨_, List.getElem?_eq_getElem (by rw [HLn.out]; omega)⟩
            have hbi : ∀ h : i < Pp.size, (Pp[i]'h).toNat = y.toNat := fun h => by rw [HByte.out i y h hy]
            by_cases h37 : y = 37
            · subst h37
              obtain ⟨v, hu, htk, hg1, hg2⟩ := HCm.out i hlt hy
              have hx : Pp.extract i (i + 3) = str (codeB v) := by rw [HEx.out, show i + 3 - i = 3 by omega, htk]
              have HD := hid (pdecode_any (codeB v) (by show 3 ≤ _; omega))
              rw [code_dec] at HD
              have HD2 := hid (show ∀ w, Calls Tryd.prog 20 #[.string (str (codeB v))] w fun e w' => e = .returned (.tuple #[.string (str [v]), .nilIface]) ∧ Below w.heap.size w w' from HD.out)
              obtain ⟨C, hC⟩ : ∃ C, str (codeB v) = C := ⟨_, rfl⟩
              rw [hC] at hx HD2
              obtain ⟨V1, hV1⟩ : ∃ V1, str [v] = V1 := ⟨_, rfl⟩
              have hV1s : V1.size = 1 := by rw [← hV1]; rfl
              have hV1b : ∀ h : 0 < V1.size, V1[0]'h = v := fun h => by subst hV1; rfl
              rw [hV1] at HD2
              have HUn := hid (unres_any v)
              rw [hu] at HUn
              have hl1 : (greatD (v.toNat / 16)).toNat < 97 := great_lt _ (by have := v.toNat_lt; omega)
              have hl2 : (greatD (v.toNat % 16)).toNat < 97 := great_lt _ (by omega)
              have hbj : ∀ h : i + 1 < Pp.size, (Pp[i + 1]'h).toNat = (greatD (v.toNat / 16)).toNat := fun h => by rw [HByte.out (i + 1) _ h hg1]
              have hbk : ∀ h : i + 2 < Pp.size, (Pp[i + 2]'h).toNat = (greatD (v.toNat % 16)).toNat := fun h => by rw [HByte.out (i + 2) _ h hg2]
              obtain ⟨d1, hd1⟩ : ∃ d1, (greatD (v.toNat / 16)).toNat = d1 := ⟨_, rfl⟩
              obtain ⟨d2, hd2⟩ : ∃ d2, (greatD (v.toNat % 16)).toNat = d2 := ⟨_, rfl⟩
              rw [hd1] at hl1 hbj
              rw [hd2] at hl2 hbk
              clear HD htk hg1 hg2 hu hy hC hV1 hd1 hd2
              go_wp2_with (first
                | (go_at_call 20; (with_reducible refine (HD2.out _).mono ?_); rintro e w9 ⟨rfl, hb⟩; have HB9 := hid (HB.out.trans (hb.mono HB.out.size)); clear hb)
                | (go_at_call 27; (with_reducible refine (HUn.out _).mono ?_); rintro e w10 ⟨rfl, hw10⟩; subst w10))
              go_roundg (n - (i + 1) + 1)
              case measure => omega
              case rel => exact ⟨i + 1, by go_num, by omega, rfl, HB9.out⟩
            · have z1 : ¬ (y.toNat : Int) = 37 := fun e => h37 (UInt8.toNat_inj.1 (by show y.toNat = 37; omega))
              have z2 : ((y.toNat : Int) != 37) = true := by simpa using z1
              clear h37 hy
              go_wp2
              go_roundg (n - (i + 1) + 1)
              case measure => omega
              case rel => exact ⟨i + 1, by go_num, by omega, rfl, HB.out⟩
          · have HE9 := hid (HE6.out.below HB.out)
            have hlti : ¬ ((i : Int) + 2 < (n : Int)) := by omega
            go_wp2_with (go_at_call 12; (with_reducible refine (HWk.out _ HE9.out).mono ?_); rintro e w11 ⟨rfl, hb⟩; have HB11 := hid (below_out (below_out HB6.out HB.out) hb); clear hb)
            go_ret
            exact ⟨rfl, HB11.out⟩
end Go.Proofs.YtbdbmlklijmefaaDoor
