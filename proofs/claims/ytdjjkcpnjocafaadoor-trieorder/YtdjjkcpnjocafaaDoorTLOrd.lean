/- The law TrieOrder: what is found does not hang on the order in which patterns were laid in. -/
import Derived.Test.YtdjjkcpnjocafaaDoorTOrdF
namespace Go.Proofs.YtdjjkcpnjocafaaDoor
open Go.RowKit

set_option maxRecDepth 20000 in
set_option maxHeartbeats 64000000 in
theorem trieOrder_any (l : List B) (pl : Option Addr) (nl cl : Nat) (hnl : l.length = nl) (hnn : nl ≤ 140737488355328) (hll : ∀ s ∈ l, s.length ≤ 140737488355328) (path : B) (hp : path.length ≤ 140737488355328) (w : World) (hT : TxAt w pl l) (hmx : MxAt w) (hE : EnvE w) :
    Calls Tryd.prog 5 #[.slice pl nl cl, .string (str path)] w fun e w' => e = .returned (.bool true) ∧ Below w.heap.size w w' := by
  obtain ⟨j0, hj0, hy0, hy1, hy2⟩ := info_parts infoS
  have HMx := hid hmx
  have HE := hid hE
  have HT := hid hT
  have HNl := hid hnl
  have HLl := hid hll
  have HP := hid hp
  have HSu := hid (fun (W : World) (h : MxAt W) => sure_any W h)
  have HN1 := hid (new_any w)
  obtain ⟨SP, hSP⟩ : ∃ S, str path = S := ⟨_, rfl⟩
  have HSP := hid hSP
  rw [hSP]
  clear hmx hE hT hnl hll hp hSP
  go_enter Tryd.func5, Tryd.ntmps5
  go_wp2_with (go_at_call 7; first | ((with_reducible refine HN1.out.mono ?_); rintro e w1 ⟨rfl, h1, hb1⟩; have HT1 := hid h1; have HB1 := hid hb1; have HN2 := hid (new_any w1); clear h1 hb1 HN1) | ((with_reducible refine HN2.out.mono ?_); rintro e w2 ⟨rfl, h2, hb2⟩; have HOr0 := hid (Ord.start HT1.out HB1.out h2 hb2); clear h2 hb2 HN2))
  obtain ⟨ta, hta⟩ : ∃ ta, w.heap.size = ta := ⟨_, rfl⟩
  obtain ⟨tb, htb⟩ : ∃ tb, w1.heap.size = tb := ⟨_, rfl⟩
  rw [hta, htb] at HOr0
  rw [hta, htb]
  have HTa := hid hta
  clear hta htb HT1 HB1
  go_loopg [7, 8] (41) (fun gk s7 s8 wr => ∃ (i k d : Nat) (q : Option Addr) (ins : List B), i ≤ nl ∧ i ≤ 40 ∧ gk = 40 - i + 1 ∧ s8 = .int .i64 (i : Int) ∧ s7 = .slice q k d ∧ ins.length = k ∧ k ≤ i ∧ (∀ s ∈ ins, s.length ≤ 140737488355328) ∧ Ord w wr ta tb (idxP ins) [] (64 * i) 0 ins (.slice q k d))
  case atStart => exact ⟨0, 0, 0, none, [], by omega, by omega, rfl, rfl, rfl, rfl, by omega, fun s h => (by cases h), HOr0.out⟩
  case round =>
    obtain ⟨i, k, d, q, ins, hi, hi40, rfl, rfl, rfl, hk, hki, hil, hor⟩ := hrel
    have HOr := hid hor
    have HK := hid hk
    have HIl := hid hil
    clear hor hk hil
    by_cases hin : i < nl ∧ i < 40
    · obtain ⟨hin1, hin2⟩ := hin
      have hd1 : decide ((i : Int) < (nl : Int)) = true := decide_eq_true (by omega)
      have hd2 : decide ((i : Int) < 40) = true := decide_eq_true (by omega)
      obtain ⟨s, hs⟩ : ∃ s, l[i]? = some s := ⟨_, List.getElem?_eq_getElem (by rw [HNl.out]; exact hin1)⟩
      have hsl := HLl.out s (List.mem_of_getElem? hs)
      obtain ⟨g1, o1, rfl, q1⟩ := (HT.out.next HOr.out.low) i s hs
      obtain ⟨Ss, hSs⟩ : ∃ S, str s = S := ⟨_, rfl⟩
      have HSs := hid (show [Value.string (str s)] = [.string Ss] from by rw [hSs])
      have HAd := hid (HOr.out.addA (mx_ord HMx.out HOr.out.low) (by omega) (by rw [idxP_len, HK.out]; omega) s hsl (k : Int))
      have HCl := hid (show ∀ W, Below w.heap.size w W → W.cell? ⟨g1, o1 + i, none⟩ = some (.string Ss) from fun W hb => by
        obtain ⟨g', o', e', c'⟩ := (HT.out.next hb) i s hs
        injection e' with e'; injection e' with e1 e2; subst e1 e2; rw [← hSs]; exact c')
      rw [hSs] at q1 HAd
      by_cases h0 : addE (idxP ins) s = 0
      · rw [h0, errOf_zero, show addP (idxP ins) s (k : Int) = idxP (ins ++ [s]) from by unfold addP; rw [h0, if_pos rfl, idxP_snoc, HK.out]] at HAd
        have HIl2 := hid (show ∀ x ∈ ins ++ [s], x.length ≤ 140737488355328 from fun x hx => by
          rcases List.mem_append.1 hx with h | h
          · exact HIl.out x h
          · rw [show x = s by simpa using h]; exact hsl)
        clear hs hSs h0 hsl
        go_wp2_with (first | (go_at_call 8; (with_reducible refine HAd.out.mono ?_); rintro e w4 ⟨rfl, h4⟩; have HOr4 := hid h4; have q2 := HCl.out _ h4.low; clear h4) | (at_builtin; refine wpList_append_own_at _ rfl (.tmp 51) (.tmp 56) 23 rfl w.heap.size 9 j0 _ 1 16 Tryd.underlying23 hj0 hy0 hy1 hy2 rfl (by decide) (.slice q k d) k (ins.flatMap fun t : B => [.string (str t)]) (by go_simp) (by have h8 := HOr4.out.row.alloc (.cells #[.string Ss] 9 (0, 0)); unfold OwnR at h8; rw [HK.out] at h8; exact h8) ⟨w4.heap.size, 0, none⟩ 1 1 [.string Ss] (by go_simp) rfl (cells_new w4 _ _) (by simp [Value.oneCell']) (by unfold maxLen; omega) (by omega) (by have h1 := HOr4.out.low.size; simp; omega) ?_; intro v6 w5 hown hgr _ hvv; obtain ⟨p7, L7, c7, rfl⟩ := own_slice3 hown; have HO5 := hid (show OwnT w5 w.heap.size (.slice p7 L7 c7) (ins ++ [s]) from OwnR.put HK.out (by rw [HSs.out]; exact hown)); have HOr5 := hid (HOr4.out.app hgr HO5.out hvv); obtain ⟨hL7, _⟩ : L7 = k + 1 ∧ True := ⟨row_len hown, trivial⟩; subst hL7; clear hown hgr hvv))
        go_roundg (40 - (i + 1) + 1)
        case measure => omega
        case rel => exact ⟨i + 1, k + 1, c7, p7, ins ++ [s], by omega, by omega, rfl, by push_cast; go_num, rfl, by rw [List.length_append, HK.out]; rfl, by omega, HIl2.out, by rw [Nat.mul_succ]; exact HOr5.out⟩
      · rw [errOf_pos h0, show addP (idxP ins) s (k : Int) = idxP ins from by unfold addP; rw [if_neg h0]] at HAd
        obtain ⟨E, hE⟩ : ∃ E : Int, ((addE (idxP ins) s : Nat) : Int) = E := ⟨_, rfl⟩
        rw [hE] at HAd
        clear hs hSs h0 hsl hE
        go_wp2_with (go_at_call 8; (with_reducible refine HAd.out.mono ?_); rintro e w4 ⟨rfl, h4⟩; have HOr4 := hid h4; clear h4)
        go_roundg (40 - (i + 1) + 1)
        case measure => omega
        case rel => exact ⟨i + 1, k, d, q, ins, by omega, by omega, rfl, by push_cast; go_num, rfl, HK.out, by omega, HIl.out, by rw [Nat.mul_succ]; exact HOr4.out⟩
    · by_cases hin1 : i < nl
      · have hd1 : decide ((i : Int) < (nl : Int)) = true := decide_eq_true (by omega)
        have hi4 : ¬ i < 40 := fun h => hin ⟨hin1, h⟩
        have hd2 : decide ((i : Int) < 40) = false := decide_eq_false (by omega)
        obtain ⟨Ma, hMa⟩ : ∃ Ma, 64 * i = Ma := ⟨_, rfl⟩
        rw [hMa] at HOr
        have hk40 : k ≤ 40 := by omega
        clear hMa
        go_wp2
        go_loopg [9] (k + 1) (fun gk s9 wv => ∃ j : Nat, j ≤ k ∧ gk = j + 1 ∧ s9 = .int .i64 ((j : Int) - 1) ∧ Ord w wv ta tb (idxP ins) ((idxP ins).drop j).reverse Ma (64 * (k - j)) ins (.slice q k d))
        case atStart => exact ⟨k, by omega, rfl, rfl, by rw [List.drop_of_length_le (by rw [idxP_len, HK.out]; exact Nat.le_refl _), show 64 * (k - k) = 0 by omega]; exact HOr.out⟩
        case round =>
          obtain ⟨j, hj, rfl, rfl, hor⟩ := hrel
          rename World => wv
          have HOv := hid hor
          clear hor
          cases j with
          | succ j =>
            obtain ⟨s, hs⟩ : ∃ s, ins[j]? = some s := ⟨_, List.getElem?_eq_getElem (by rw [HK.out]; omega)⟩
            have hsl := HIl.out s (List.mem_of_getElem? hs)
            have hx := idxP_at hs
            have HAd := hid (HOv.out.addB (mx_ord HMx.out HOv.out.low) (by omega) (by rw [List.length_reverse, List.length_drop, idxP_len, HK.out]; omega) s hsl (j : Int))
            have h0 : addE ((idxP ins).drop (j + 1)).reverse s = 0 := by obtain ⟨G, es, v, ht⟩ := HOv.out.trA; exact addE_rev ht hx
            rw [h0, errOf_zero, show addP ((idxP ins).drop (j + 1)).reverse s (j : Int) = ((idxP ins).drop j).reverse from by unfold addP; rw [h0, if_pos rfl, rev_drop hx]] at HAd
            obtain ⟨g1, o1, rfl, q1⟩ := (ownR_S HOv.out.row).tx j s hs
            obtain ⟨Ss, hSs⟩ : ∃ S, str s = S := ⟨_, rfl⟩
            rw [hSs] at q1 HAd
            have hj9 : (((j + 1 : Nat) : Int) - 1) = (j : Int) := by omega
            rw [hj9]
            have hjk : j < k := by omega
            clear hs hSs h0 hsl hx hj9
            go_wp2_with (go_at_call 8; (with_reducible refine HAd.out.mono ?_); rintro e w4 ⟨rfl, h4⟩; have HOr4 := hid h4; clear h4)
            go_roundg (j + 1)
            case measure => omega
            case rel => exact ⟨j, by omega, rfl, rfl, by rw [show 64 * (k - j) = 64 * (k - (j + 1)) + 64 by omega]; exact HOr4.out⟩
          | zero =>
            rw [List.drop_zero] at HOv
            obtain ⟨Mb, hMb⟩ : ∃ Mb, 64 * (k - 0) = Mb := ⟨_, rfl⟩
            rw [hMb] at HOv
            clear hMb
            rw [show (((0 : Nat) : Int) - 1) = -1 from rfl]
            have HRvl := hid (fun x => idxP_rev (l := ins) x)
            have HLa := hid (show ∀ W, Ord w W ta tb (idxP ins) (idxP ins).reverse Ma Mb ins (.slice q k d) → Calls Tryd.prog 16 #[.pointer (some ⟨ta, 0, none⟩)] W fun e w' => e = .returned (.int .i64 (k : Int)) ∧ w' = W from fun W h => by obtain ⟨G, es, v, ht⟩ := h.trA; have h9 := len_any ht; rw [idxP_len, HK.out] at h9; exact h9)
            have HFin := hid (show ∀ s ∈ ins, checkP s = true from fun s hs => by obtain ⟨j, hj⟩ := List.getElem?_of_mem hs; obtain ⟨G, es, v, ht⟩ := HOv.out.trA; exact ht.fine _ (List.mem_of_getElem? (idxP_at hj)))
            have HFd := hid (show (begB 47 path = false) ∨ (begB 47 path = true ∧ ∀ p ∈ idxP ins, fitsT (cutT p.1.tail) (cutT path.tail) = none) ∨ (begB 47 path = true ∧ ∃ p F, p ∈ idxP ins ∧ fitsT (cutT p.1.tail) (cutT path.tail) = some F ∧ ∀ x ∈ idxP ins, (fitsT (cutT x.1.tail) (cutT path.tail)).isSome = true → x = p ∨ betterT (cutT p.1.tail) (cutT x.1.tail) = true) from by
              cases hb : begB 47 path with
              | false => exact .inl rfl
              | true =>
                obtain ⟨G, es, v, ht⟩ := HOv.out.trA
                rcases ht.found (cutT path.tail) with ⟨_, h2⟩ | ⟨e0, p, _, h2, _, h4, h5⟩
                · exact .inr (.inl ⟨rfl, h2⟩)
                · obtain ⟨F, hF⟩ := Option.isSome_iff_exists.1 h4
                  exact .inr (.inr ⟨rfl, p, F, h2, hF, h5⟩))
            rcases HFd.out with hb | ⟨hb, hno⟩ | ⟨hb, p, F, hpm, hf, hbest⟩
            · have HFa := hid (fun (W : World) (h : Ord w W ta tb (idxP ins) (idxP ins).reverse Ma Mb ins (.slice q k d)) => find_f h.trA (mx_ord HMx.out h.low) path HP.out hb)
              have HFb := hid (fun (W : World) (h : Ord w W ta tb (idxP ins) (idxP ins).reverse Ma Mb ins (.slice q k d)) => find_f h.trB (mx_ord HMx.out h.low) path HP.out hb)
              have HNu := hid (fun (W : World) (h : EnvE W) => num_any 3 W h)
              rw [errOf3] at HNu
              have HNo := hid (fun (s : B) (hs : s ∈ ins) (W : World) (h : MxAt W) => fits_none (HIl.out s hs) HP.out (fitsO_not hb) W h)
              rw [HSP.out] at HFa HFb
              rw [HSP.out] at HNo
              clear hb
              go_wp2_with (first | (go_at_call 13; first | ((with_reducible refine (HFa.out _ HOv.out).mono ?_); rintro e w5 ⟨rfl, hb5⟩; have HO5 := hid (HOv.out.next hb5); clear hb5 HFa) | ((with_reducible refine (HFb.out _ HO5.out).mono ?_); rintro e w6 ⟨rfl, hb6⟩; have HO6 := hid (HO5.out.next hb6); have HE6 := hid (HE.out.next HO6.out.low); clear hb6)) | (go_at_call 15; (with_reducible refine (fields_same [] none none 0 0 0 rfl _ (fat_nil _) (fat_nil _) (by omega)).mono ?_); rintro e w7 ⟨rfl, hb7⟩; have HO7 := hid (HO6.out.next hb7); have HE7 := hid (HE6.out.next hb7); clear hb7) | (go_at_call 10; first | ((with_reducible refine (HNu.out _ HE7.out).mono ?_); rintro e w8 ⟨rfl, hb8⟩; have HO8 := hid (HO7.out.next hb8); have HE8 := hid (HE7.out.next hb8); clear hb8 HE7) | ((with_reducible refine (HNu.out _ HE8.out).mono ?_); rintro e w9 ⟨rfl, hb9⟩; have HO9 := hid (HO8.out.next hb9); clear hb9)) | (go_at_call 16; (with_reducible refine (HLa.out _ HO9.out).mono ?_); rintro e w10 ⟨rfl, hw10⟩; subst w10))
              go_loopg [16] (k + 1) (fun gk s16 wu => ∃ i : Nat, i ≤ k ∧ gk = k - i + 1 ∧ s16 = .int .i64 (i : Int) ∧ Ord w wu ta tb (idxP ins) (idxP ins).reverse Ma Mb ins (.slice q k d))
              case atStart => exact ⟨0, by omega, rfl, rfl, HO9.out⟩
              case round =>
                obtain ⟨i, hik, rfl, rfl, hor⟩ := hrel
                rename World => wu
                have HOu := hid hor
                clear hor
                by_cases hlt : i < k
                · obtain ⟨s, hs⟩ : ∃ s, ins[i]? = some s := ⟨_, List.getElem?_eq_getElem (by rw [HK.out]; exact hlt)⟩
                  have HNs := hid (HNo.out s (List.mem_of_getElem? hs))
                  obtain ⟨g1, o1, rfl, q1⟩ := (ownR_S HOu.out.row).tx i s hs
                  obtain ⟨Ss, hSs⟩ : ∃ S, str s = S := ⟨_, rfl⟩
                  rw [hSs] at q1 HNs
                  have HMu := hid (mx_ord HMx.out HOu.out.low)
                  clear hs hSs
                  go_wp2_with (go_at_call 20; (with_reducible refine (HNs.out _ HMu.out).mono ?_); rintro e w11 ⟨⟨v11, rfl⟩, hb11⟩; have HO11 := hid (HOu.out.next hb11); clear hb11)
                  go_roundg (k - (i + 1) + 1)
                  case measure => omega
                  case rel => exact ⟨i + 1, by omega, rfl, by push_cast; go_num, HO11.out⟩
                · obtain rfl : k = i := by omega
                  have HMu := hid (mx_ord HMx.out HOu.out.low)
                  go_wp2_with (go_at_call 19; (with_reducible refine (HSu.out _ HMu.out).mono ?_); rintro e w12 ⟨rfl, hb12⟩; have HB12 := hid hb12; clear hb12)
                  go_ret
                  exact ⟨rfl, below_out HOu.out.low HB12.out⟩
            · have HFa := hid (fun (W : World) (h : Ord w W ta tb (idxP ins) (idxP ins).reverse Ma Mb ins (.slice q k d)) => find_n h.trA (mx_ord HMx.out h.low) path HP.out hb hno)
              have HFb := hid (fun (W : World) (h : Ord w W ta tb (idxP ins) (idxP ins).reverse Ma Mb ins (.slice q k d)) => find_n h.trB (mx_ord HMx.out h.low) path HP.out hb (fun p hp => hno p (List.mem_reverse.1 hp)))
              have HNu := hid (fun (W : World) (h : EnvE W) => num_any 8 W h)
              rw [errOf8] at HNu
              have HNo := hid (fun (s : B) (hs : s ∈ ins) (W : World) (h : MxAt W) => fits_no (HIl.out s hs) HP.out ((fitsO_of (HFin.out s hs) hb).trans (by obtain ⟨j, hj⟩ := List.getElem?_of_mem hs; rw [hno _ (List.mem_of_getElem? (idxP_at hj))])) W h)
              rw [HSP.out] at HFa HFb
              rw [HSP.out] at HNo
              clear hb hno
              go_wp2_with (first | (go_at_call 13; first | ((with_reducible refine (HFa.out _ HOv.out).mono ?_); rintro e w5 ⟨rfl, hb5⟩; have HO5 := hid (HOv.out.next hb5); clear hb5 HFa) | ((with_reducible refine (HFb.out _ HO5.out).mono ?_); rintro e w6 ⟨rfl, hb6⟩; have HO6 := hid (HO5.out.next hb6); have HE6 := hid (HE.out.next HO6.out.low); clear hb6)) | (go_at_call 15; (with_reducible refine (fields_same [] none none 0 0 0 rfl _ (fat_nil _) (fat_nil _) (by omega)).mono ?_); rintro e w7 ⟨rfl, hb7⟩; have HO7 := hid (HO6.out.next hb7); have HE7 := hid (HE6.out.next hb7); clear hb7) | (go_at_call 10; first | ((with_reducible refine (HNu.out _ HE7.out).mono ?_); rintro e w8 ⟨rfl, hb8⟩; have HO8 := hid (HO7.out.next hb8); have HE8 := hid (HE7.out.next hb8); clear hb8 HE7) | ((with_reducible refine (HNu.out _ HE8.out).mono ?_); rintro e w9 ⟨rfl, hb9⟩; have HO9 := hid (HO8.out.next hb9); clear hb9)) | (go_at_call 16; (with_reducible refine (HLa.out _ HO9.out).mono ?_); rintro e w10 ⟨rfl, hw10⟩; subst w10))
              go_loopg [16] (k + 1) (fun gk s16 wu => ∃ i : Nat, i ≤ k ∧ gk = k - i + 1 ∧ s16 = .int .i64 (i : Int) ∧ Ord w wu ta tb (idxP ins) (idxP ins).reverse Ma Mb ins (.slice q k d))
              case atStart => exact ⟨0, by omega, rfl, rfl, HO9.out⟩
              case round =>
                obtain ⟨i, hik, rfl, rfl, hor⟩ := hrel
                rename World => wu
                have HOu := hid hor
                clear hor
                by_cases hlt : i < k
                · obtain ⟨s, hs⟩ : ∃ s, ins[i]? = some s := ⟨_, List.getElem?_eq_getElem (by rw [HK.out]; exact hlt)⟩
                  have HNs := hid (HNo.out s (List.mem_of_getElem? hs))
                  obtain ⟨g1, o1, rfl, q1⟩ := (ownR_S HOu.out.row).tx i s hs
                  obtain ⟨Ss, hSs⟩ : ∃ S, str s = S := ⟨_, rfl⟩
                  rw [hSs] at q1 HNs
                  have HMu := hid (mx_ord HMx.out HOu.out.low)
                  clear hs hSs
                  go_wp2_with (go_at_call 20; (with_reducible refine (HNs.out _ HMu.out).mono ?_); rintro e w11 ⟨⟨v11, rfl⟩, hb11⟩; have HO11 := hid (HOu.out.next hb11); clear hb11)
                  go_roundg (k - (i + 1) + 1)
                  case measure => omega
                  case rel => exact ⟨i + 1, by omega, rfl, by push_cast; go_num, HO11.out⟩
                · obtain rfl : k = i := by omega
                  have HMu := hid (mx_ord HMx.out HOu.out.low)
                  go_wp2_with (go_at_call 19; (with_reducible refine (HSu.out _ HMu.out).mono ?_); rintro e w12 ⟨rfl, hb12⟩; have HB12 := hid hb12; clear hb12)
                  go_ret
                  exact ⟨rfl, below_out HOu.out.low HB12.out⟩
            · obtain ⟨n, hn1, hn2⟩ := idxP_of hpm
              obtain ⟨L, hL⟩ : ∃ L, F.length = L := ⟨_, rfl⟩
              have hLb : L ≤ 64 := by rw [← hL]; exact fits_few ((fitsO_of (HFin.out p.1 (List.mem_of_getElem? hn1)) hb).trans (by rw [hf]))
              have HFa := hid (fun (W : World) (h : Ord w W ta tb (idxP ins) (idxP ins).reverse Ma Mb ins (.slice q k d)) => find_y h.trA (mx_ord HMx.out h.low) path HP.out hb (fun x => Iff.rfl) hL hpm hf hbest)
              have HFb := hid (fun (W : World) (h : Ord w W ta tb (idxP ins) (idxP ins).reverse Ma Mb ins (.slice q k d)) => find_y h.trB (mx_ord HMx.out h.low) path HP.out hb (fun x => (HRvl.out x).symm) hL hpm hf hbest)
              rw [hn2] at HFa HFb
              have HNu := hid (fun (W : World) (h : EnvE W) => num_any 0 W h)
              rw [errOf_zero] at HNu
              have HLF := hid hL
              have hnk : n < k := by rw [← HK.out]; exact (List.getElem?_eq_some_iff.1 hn1).1
              have HHb := hid hb
              have HN1 := hid hn1
              have HPF := hid (show fitsO p.1 path = some (some F) from (fitsO_of (HFin.out p.1 (List.mem_of_getElem? hn1)) hb).trans (by rw [hf]))
              have HBt := hid (show ∀ (i : Nat) (s : B) (F2 : List (B × B)), ins[i]? = some s → i ≠ n → fitsO s path = some (some F2) → betterT (cutT p.1.tail) (cutT s.tail) = true from fun i s F2 hs hne h2 => by
                have h3 := fitsO_of (HFin.out s (List.mem_of_getElem? hs)) hb
                rw [h2] at h3
                injection h3 with h3
                rcases hbest (s, (i : Int)) (List.mem_of_getElem? (idxP_at hs)) (by rw [← h3]; rfl) with h4 | h4
                · rw [← h4] at hn2
                  have h5 : (i : Int) = (n : Int) := hn2
                  exact absurd (by omega) hne
                · exact h4)
              rw [HSP.out] at HFa HFb
              clear hb hf hbest hpm hL hn1 hn2
              go_wp2_with (first | (go_at_call 13; first | ((with_reducible refine (HFa.out _ HOv.out).mono ?_); rintro e w5 ⟨hb5, q5, d5, rfl, hf5⟩; have HO5 := hid (HOv.out.next hb5); have HF5 := hid hf5; clear hb5 hf5 HFa) | ((with_reducible refine (HFb.out _ HO5.out).mono ?_); rintro e w6 ⟨hb6, q6, d6, rfl, hf6⟩; have HO6 := hid (HO5.out.next hb6); have HE6 := hid (HE.out.next HO6.out.low); have HF56 := hid (HF5.out.next hb6); have HF6 := hid hf6; clear hb6 hf6)) | (go_at_call 15; (with_reducible refine (fields_same F _ _ L _ _ HLF.out _ HF56.out HF6.out (by omega)).mono ?_); rintro e w7 ⟨rfl, hb7⟩; have HO7 := hid (HO6.out.next hb7); have HE7 := hid (HE6.out.next hb7); clear hb7) | (go_at_call 10; first | ((with_reducible refine (HNu.out _ HE7.out).mono ?_); rintro e w8 ⟨rfl, hb8⟩; have HO8 := hid (HO7.out.next hb8); have HE8 := hid (HE7.out.next hb8); clear hb8 HE7) | ((with_reducible refine (HNu.out _ HE8.out).mono ?_); rintro e w9 ⟨rfl, hb9⟩; have HO9 := hid (HO8.out.next hb9); clear hb9)) | (go_at_call 16; (with_reducible refine (HLa.out _ HO9.out).mono ?_); rintro e w10 ⟨rfl, hw10⟩; subst w10))
              go_loopg [16] (k + 1) (fun gk s16 wu => ∃ i : Nat, i ≤ k ∧ gk = k - i + 1 ∧ s16 = .int .i64 (i : Int) ∧ Ord w wu ta tb (idxP ins) (idxP ins).reverse Ma Mb ins (.slice q k d))
              case atStart => exact ⟨0, by omega, rfl, rfl, HO9.out⟩
              case round =>
                obtain ⟨i, hik, rfl, rfl, hor⟩ := hrel
                rename World => wu
                have HOu := hid hor
                clear hor
                by_cases hlt : i < k
                · obtain ⟨s, hs⟩ : ∃ s, ins[i]? = some s := ⟨_, List.getElem?_eq_getElem (by rw [HK.out]; exact hlt)⟩
                  have hsl := HIl.out s (List.mem_of_getElem? hs)
                  have HMu := hid (mx_ord HMx.out HOu.out.low)
                  obtain ⟨Ss, hSs⟩ : ∃ S, str s = S := ⟨_, rfl⟩
                  have hfo := fitsO_of (HFin.out s (List.mem_of_getElem? hs)) HHb.out
                  have hnI : ¬ (n : Int) < 0 := by omega
                  have hnK : ¬ (k : Int) ≤ (n : Int) := by omega
                  have hdn1 : decide ((n : Int) < 0) = false := decide_eq_false hnI
                  have hdn2 : decide ((k : Int) ≤ (n : Int)) = false := decide_eq_false hnK
                  cases hff : fitsT (cutT s.tail) (cutT path.tail) with
                  | none =>
                    rw [hff] at hfo
                    have HNs := hid (fun (W : World) (h : MxAt W) => fits_no hsl HP.out hfo W h)
                    have hne : ¬ i = n := fun e => by rw [e, HN1.out] at hs; injection hs with hs; rw [← hs, HPF.out] at hfo; cases hfo
                    have hneI : ¬ (i : Int) = (n : Int) := by omega
                    have hneB : ((i : Int) == (n : Int)) = false := by simpa using hneI
                    obtain ⟨g1, o1, rfl, q1⟩ := (ownR_S HOu.out.row).tx i s hs
                    rw [hSs] at q1
                    rw [hSs, HSP.out] at HNs
                    clear hs hSs hff hfo hsl
                    go_wp2_with (go_at_call 20; (with_reducible refine (HNs.out _ HMu.out).mono ?_); rintro e w11 ⟨⟨v11, rfl⟩, hb11⟩; have HO11 := hid (HOu.out.next hb11); clear hb11)
                    go_roundg (k - (i + 1) + 1)
                    case measure => omega
                    case rel => exact ⟨i + 1, by omega, rfl, by push_cast; go_num, HO11.out⟩
                  | some F2 =>
                    rw [hff] at hfo
                    have HNs := hid (fun (W : World) (h : MxAt W) => fits_yes hsl HP.out hfo W h)
                    by_cases hne : i = n
                    · subst hne
                      obtain ⟨g1, o1, rfl, q1⟩ := (ownR_S HOu.out.row).tx i s hs
                      rw [hSs] at q1
                      rw [hSs, HSP.out] at HNs
                      clear hs hSs hff hfo hsl
                      go_wp2_with (go_at_call 20; (with_reducible refine (HNs.out _ HMu.out).mono ?_); rintro e w11 ⟨⟨v11, rfl⟩, hb11⟩; have HO11 := hid (HOu.out.next hb11); clear hb11)
                      go_roundg (k - (i + 1) + 1)
                      case measure => omega
                      case rel => exact ⟨i + 1, by omega, rfl, by push_cast; go_num, HO11.out⟩
                    · have hneI : ¬ (i : Int) = (n : Int) := by omega
                      have hneB : ((i : Int) == (n : Int)) = false := by simpa using hneI
                      have hbt := HBt.out i s F2 hs hne hfo
                      have hpl := HIl.out p.1 (List.mem_of_getElem? HN1.out)
                      have HBe1 := hid (fun (W : World) (h : MxAt W) => beats_any p.1 s path hpl hsl HP.out W h)
                      have HBe2 := hid (fun (W : World) (h : MxAt W) => beats_any s p.1 path hsl hpl HP.out W h)
                      rw [beatsO_of HPF.out hfo, hbt, errOf_zero] at HBe1
                      rw [beatsO_of hfo HPF.out, better_asymm hbt, errOf_zero] at HBe2
                      obtain ⟨g, o, hq, q1⟩ := (ownR_S HOu.out.row).tx i s hs
                      obtain ⟨g', o', hq', q2⟩ := (ownR_S HOu.out.row).tx n p.1 HN1.out
                      subst hq
                      injection hq' with hq'; injection hq' with e1 e2; subst e1 e2
                      obtain ⟨Sp, hSp⟩ : ∃ S, str p.1 = S := ⟨_, rfl⟩
                      rw [hSs] at q1
                      rw [hSp] at q2
                      rw [hSs, HSP.out] at HNs
                      rw [hSs, hSp, HSP.out] at HBe1 HBe2
                      have hgl := lt_of_cell q1
                      have HQ1 := hid q1
                      have HQ2 := hid q2
                      clear hs hSs hff hfo hsl hSp hpl hbt
                      go_wp2_with (go_at_call 20; (with_reducible refine (HNs.out _ HMu.out).mono ?_); rintro e w11 ⟨⟨v11, rfl⟩, hb11⟩; have HB11 := hid hb11; have HO11 := hid (HOu.out.next hb11); have HQ3 := hid (cell_keep hb11 HQ1.out); have HQ4 := hid (cell_keep hb11 HQ2.out); have HM11 := hid (HMu.out.next hb11); clear hb11)
                      have hS0x : TwoS w11.drew g o n i Sp Ss := ⟨HQ4.out, HQ3.out⟩
                      refine wp_region_noPanic ?_
                      refine any_begin 15 (by kernel_rfl) (by kernel_rfl) ?_
                      refine late_begin (fun U => TwoS U g o n i Sp Ss) (fun _ => false) hS0x (fun hS => ?_)
                      refine late_take (i := 0) (some 156) rfl rfl (by kernel_rfl) (by kernel_rfl) (by kernel_rfl) (by kernel_rfl) (by kernel_rfl) (fun _ _ _ h => h) (by rfl) (v := ?v0x) ?hy0x hS ?rest0x
                      case hy0x => intro w0 hSw; obtain ⟨a0, a1⟩ := hSw; go_simp; try with_reducible rfl
                      simp only [Act.put, List.setIfInBounds_toArray, List.set_cons_zero, List.set_cons_succ]
                      refine late_take (i := 1) (some 157) rfl rfl (by kernel_rfl) (by kernel_rfl) (by kernel_rfl) (by kernel_rfl) (by kernel_rfl) (fun _ _ _ h => h) (by rfl) (v := ?v1x) ?hy1x hS ?rest1x
                      case hy1x => intro w0 hSw; obtain ⟨a0, a1⟩ := hSw; go_simp; try with_reducible rfl
                      simp only [Act.put, List.setIfInBounds_toArray, List.set_cons_zero, List.set_cons_succ]
                      refine late_take (i := 2) (some 158) rfl rfl (by kernel_rfl) (by kernel_rfl) (by kernel_rfl) (by kernel_rfl) (by kernel_rfl) (fun _ _ _ h => h) (by rfl) (v := ?v2x) ?hy2x hS ?rest2x
                      case hy2x => intro w0 hSw; obtain ⟨a0, a1⟩ := hSw; go_simp; try with_reducible rfl
                      simp only [Act.put, List.setIfInBounds_toArray, List.set_cons_zero, List.set_cons_succ]
                      refine late_take (i := 3) (some 159) rfl rfl (by kernel_rfl) (by kernel_rfl) (by kernel_rfl) (by kernel_rfl) (by kernel_rfl) (fun _ _ _ h => h) (by rfl) (v := ?v3x) ?hy3x hS ?rest3x
                      case hy3x => intro w0 hSw; obtain ⟨a0, a1⟩ := hSw; go_simp; try with_reducible rfl
                      simp only [Act.put, List.setIfInBounds_toArray, List.set_cons_zero, List.set_cons_succ]
                      refine late_take (i := 4) (some 160) rfl rfl (by kernel_rfl) (by kernel_rfl) (by kernel_rfl) (by kernel_rfl) (by kernel_rfl) (fun _ _ _ h => h) (by rfl) (v := ?v4x) ?hy4x hS ?rest4x
                      case hy4x => intro w0 hSw; obtain ⟨a0, a1⟩ := hSw; go_simp; try with_reducible rfl
                      simp only [Act.put, List.setIfInBounds_toArray, List.set_cons_zero, List.set_cons_succ]
                      refine late_take (i := 5) (some 161) rfl rfl (by kernel_rfl) (by kernel_rfl) (by kernel_rfl) (by kernel_rfl) (by kernel_rfl) (fun _ _ _ h => h) (by rfl) (v := ?v5x) ?hy5x hS ?rest5x
                      case hy5x => intro w0 hSw; obtain ⟨a0, a1⟩ := hSw; go_simp; try with_reducible rfl
                      simp only [Act.put, List.setIfInBounds_toArray, List.set_cons_zero, List.set_cons_succ]
                      refine late_take (i := 6) (some 162) rfl rfl (by kernel_rfl) (by kernel_rfl) (by kernel_rfl) (by kernel_rfl) (by kernel_rfl) (fun _ _ _ h => h) (by rfl) (v := ?v6x) ?hy6x hS ?rest6x
                      case hy6x => intro w0 hSw; obtain ⟨a0, a1⟩ := hSw; go_simp; try with_reducible rfl
                      simp only [Act.put, List.setIfInBounds_toArray, List.set_cons_zero, List.set_cons_succ]
                      refine late_take (i := 7) (some 163) rfl rfl (by kernel_rfl) (by kernel_rfl) (by kernel_rfl) (by kernel_rfl) (by kernel_rfl) (fun _ _ _ h => h) (by rfl) (v := ?v7x) ?hy7x hS ?rest7x
                      case hy7x => intro w0 hSw; obtain ⟨a0, a1⟩ := hSw; go_simp; try with_reducible rfl
                      simp only [Act.put, List.setIfInBounds_toArray, List.set_cons_zero, List.set_cons_succ]
                      refine late_take (i := 8) (some 164) rfl rfl (by kernel_rfl) (by kernel_rfl) (by kernel_rfl) (by kernel_rfl) (by kernel_rfl) (fun _ _ _ h => h) (by rfl) (v := ?v8x) ?hy8x hS ?rest8x
                      case hy8x => intro w0 hSw; obtain ⟨a0, a1⟩ := hSw; go_simp; try with_reducible rfl
                      simp only [Act.put, List.setIfInBounds_toArray, List.set_cons_zero, List.set_cons_succ]
                      refine wpAnyD_one (i := 9) (by kernel_rfl) rfl (fun K hK => ?_)
                      go_simp
                      go_at_call 22
                      (with_reducible refine (HBe1.out _ (HM11.out.same (same_drew1 w11))).mono ?_)
                      rintro e w12 ⟨rfl, hb12⟩
                      have HB12 := hid (below_out (same_drew1 w11).below hb12)
                      have hS1x : TwoS w12 g o n i Sp Ss := ⟨cell_keep HB12.out HQ4.out, cell_keep HB12.out HQ3.out⟩
                      have HM12 := hid (HM11.out.next HB12.out)
                      have HO12 := hid (HO11.out.next HB12.out)
                      clear hb12
                      refine hK _ _ ⟨fun _ => hS1x, ?_⟩
                      clear hK K
                      refine late_take (i := 10) (some 155) rfl rfl (by kernel_rfl) (by kernel_rfl) (by kernel_rfl) (by kernel_rfl) (by kernel_rfl) (fun _ _ _ h => h) (by rfl) (v := ?v10x) ?hy10x hS1x ?rest10x
                      case hy10x => intro w0 hSw; obtain ⟨a0, a1⟩ := hSw; go_simp; try with_reducible rfl
                      simp only [Act.put, List.setIfInBounds_toArray, List.set_cons_zero, List.set_cons_succ]
                      refine late_take (i := 11) (some 166) rfl rfl (by kernel_rfl) (by kernel_rfl) (by kernel_rfl) (by kernel_rfl) (by kernel_rfl) (fun _ _ _ h => h) (by rfl) (v := ?v11x) ?hy11x hS1x ?rest11x
                      case hy11x => intro w0 hSw; obtain ⟨a0, a1⟩ := hSw; go_simp; try with_reducible rfl
                      simp only [Act.put, List.setIfInBounds_toArray, List.set_cons_zero, List.set_cons_succ]
                      refine late_take (i := 12) (some 167) rfl rfl (by kernel_rfl) (by kernel_rfl) (by kernel_rfl) (by kernel_rfl) (by kernel_rfl) (fun _ _ _ h => h) (by rfl) (v := ?v12x) ?hy12x hS1x ?rest12x
                      case hy12x => intro w0 hSw; obtain ⟨a0, a1⟩ := hSw; go_simp; try with_reducible rfl
                      simp only [Act.put, List.setIfInBounds_toArray, List.set_cons_zero, List.set_cons_succ]
                      refine late_take (i := 13) (some 20) rfl rfl (by kernel_rfl) (by kernel_rfl) (by kernel_rfl) (by kernel_rfl) (by kernel_rfl) (fun _ _ _ h => h) (by rfl) (v := ?v13x) ?hy13x hS1x ?rest13x
                      case hy13x => intro w0 hSw; obtain ⟨a0, a1⟩ := hSw; go_simp; try with_reducible rfl
                      simp only [Act.put, List.setIfInBounds_toArray, List.set_cons_zero, List.set_cons_succ]
                      refine late_take (i := 14) (some 21) rfl rfl (by kernel_rfl) (by kernel_rfl) (by kernel_rfl) (by kernel_rfl) (by kernel_rfl) (fun _ _ _ h => h) (by rfl) (v := ?v14x) ?hy14x hS1x ?rest14x
                      case hy14x => intro w0 hSw; obtain ⟨a0, a1⟩ := hSw; go_simp; try with_reducible rfl
                      simp only [Act.put, List.setIfInBounds_toArray, List.set_cons_zero, List.set_cons_succ]
                      refine late_done (by kernel_rfl) ?_ _
                      refine NoPanic.normal ?_
                      go_wp2
                      have hS0z : TwoS w12.drew g o i n Ss Sp := ⟨hS1x.a1, hS1x.a0⟩
                      refine wp_region_noPanic ?_
                      refine any_begin 15 (by kernel_rfl) (by kernel_rfl) ?_
                      refine late_begin (fun U => TwoS U g o i n Ss Sp) (fun _ => false) hS0z (fun hS => ?_)
                      refine late_take (i := 0) (some 169) rfl rfl (by kernel_rfl) (by kernel_rfl) (by kernel_rfl) (by kernel_rfl) (by kernel_rfl) (fun _ _ _ h => h) (by rfl) (v := ?v0z) ?hy0z hS ?rest0z
                      case hy0z => intro w0 hSw; obtain ⟨a0, a1⟩ := hSw; go_simp; try with_reducible rfl
                      simp only [Act.put, List.setIfInBounds_toArray, List.set_cons_zero, List.set_cons_succ]
                      refine late_take (i := 1) (some 170) rfl rfl (by kernel_rfl) (by kernel_rfl) (by kernel_rfl) (by kernel_rfl) (by kernel_rfl) (fun _ _ _ h => h) (by rfl) (v := ?v1z) ?hy1z hS ?rest1z
                      case hy1z => intro w0 hSw; obtain ⟨a0, a1⟩ := hSw; go_simp; try with_reducible rfl
                      simp only [Act.put, List.setIfInBounds_toArray, List.set_cons_zero, List.set_cons_succ]
                      refine late_take (i := 2) (some 171) rfl rfl (by kernel_rfl) (by kernel_rfl) (by kernel_rfl) (by kernel_rfl) (by kernel_rfl) (fun _ _ _ h => h) (by rfl) (v := ?v2z) ?hy2z hS ?rest2z
                      case hy2z => intro w0 hSw; obtain ⟨a0, a1⟩ := hSw; go_simp; try with_reducible rfl
                      simp only [Act.put, List.setIfInBounds_toArray, List.set_cons_zero, List.set_cons_succ]
                      refine late_take (i := 3) (some 172) rfl rfl (by kernel_rfl) (by kernel_rfl) (by kernel_rfl) (by kernel_rfl) (by kernel_rfl) (fun _ _ _ h => h) (by rfl) (v := ?v3z) ?hy3z hS ?rest3z
                      case hy3z => intro w0 hSw; obtain ⟨a0, a1⟩ := hSw; go_simp; try with_reducible rfl
                      simp only [Act.put, List.setIfInBounds_toArray, List.set_cons_zero, List.set_cons_succ]
                      refine late_take (i := 4) (some 173) rfl rfl (by kernel_rfl) (by kernel_rfl) (by kernel_rfl) (by kernel_rfl) (by kernel_rfl) (fun _ _ _ h => h) (by rfl) (v := ?v4z) ?hy4z hS ?rest4z
                      case hy4z => intro w0 hSw; obtain ⟨a0, a1⟩ := hSw; go_simp; try with_reducible rfl
                      simp only [Act.put, List.setIfInBounds_toArray, List.set_cons_zero, List.set_cons_succ]
                      refine late_take (i := 5) (some 174) rfl rfl (by kernel_rfl) (by kernel_rfl) (by kernel_rfl) (by kernel_rfl) (by kernel_rfl) (fun _ _ _ h => h) (by rfl) (v := ?v5z) ?hy5z hS ?rest5z
                      case hy5z => intro w0 hSw; obtain ⟨a0, a1⟩ := hSw; go_simp; try with_reducible rfl
                      simp only [Act.put, List.setIfInBounds_toArray, List.set_cons_zero, List.set_cons_succ]
                      refine late_take (i := 6) (some 175) rfl rfl (by kernel_rfl) (by kernel_rfl) (by kernel_rfl) (by kernel_rfl) (by kernel_rfl) (fun _ _ _ h => h) (by rfl) (v := ?v6z) ?hy6z hS ?rest6z
                      case hy6z => intro w0 hSw; obtain ⟨a0, a1⟩ := hSw; go_simp; try with_reducible rfl
                      simp only [Act.put, List.setIfInBounds_toArray, List.set_cons_zero, List.set_cons_succ]
                      refine late_take (i := 7) (some 176) rfl rfl (by kernel_rfl) (by kernel_rfl) (by kernel_rfl) (by kernel_rfl) (by kernel_rfl) (fun _ _ _ h => h) (by rfl) (v := ?v7z) ?hy7z hS ?rest7z
                      case hy7z => intro w0 hSw; obtain ⟨a0, a1⟩ := hSw; go_simp; try with_reducible rfl
                      simp only [Act.put, List.setIfInBounds_toArray, List.set_cons_zero, List.set_cons_succ]
                      refine late_take (i := 8) (some 177) rfl rfl (by kernel_rfl) (by kernel_rfl) (by kernel_rfl) (by kernel_rfl) (by kernel_rfl) (fun _ _ _ h => h) (by rfl) (v := ?v8z) ?hy8z hS ?rest8z
                      case hy8z => intro w0 hSw; obtain ⟨a0, a1⟩ := hSw; go_simp; try with_reducible rfl
                      simp only [Act.put, List.setIfInBounds_toArray, List.set_cons_zero, List.set_cons_succ]
                      refine wpAnyD_one (i := 9) (by kernel_rfl) rfl (fun K hK => ?_)
                      go_simp
                      go_at_call 22
                      (with_reducible refine (HBe2.out _ (HM12.out.same (same_drew1 w12))).mono ?_)
                      rintro e w13 ⟨rfl, hb13⟩
                      have HB13 := hid (below_out (same_drew1 w12).below hb13)
                      have hS1z : TwoS w13 g o i n Ss Sp := ⟨cell_keep HB13.out hS1x.a1, cell_keep HB13.out hS1x.a0⟩
                      have HO13 := hid (HO12.out.next HB13.out)
                      clear hb13
                      refine hK _ _ ⟨fun _ => hS1z, ?_⟩
                      clear hK K
                      refine late_take (i := 10) (some 168) rfl rfl (by kernel_rfl) (by kernel_rfl) (by kernel_rfl) (by kernel_rfl) (by kernel_rfl) (fun _ _ _ h => h) (by rfl) (v := ?v10z) ?hy10z hS1z ?rest10z
                      case hy10z => intro w0 hSw; obtain ⟨a0, a1⟩ := hSw; go_simp; try with_reducible rfl
                      simp only [Act.put, List.setIfInBounds_toArray, List.set_cons_zero, List.set_cons_succ]
                      refine late_take (i := 11) (some 179) rfl rfl (by kernel_rfl) (by kernel_rfl) (by kernel_rfl) (by kernel_rfl) (by kernel_rfl) (fun _ _ _ h => h) (by rfl) (v := ?v11z) ?hy11z hS1z ?rest11z
                      case hy11z => intro w0 hSw; obtain ⟨a0, a1⟩ := hSw; go_simp; try with_reducible rfl
                      simp only [Act.put, List.setIfInBounds_toArray, List.set_cons_zero, List.set_cons_succ]
                      refine late_take (i := 12) (some 180) rfl rfl (by kernel_rfl) (by kernel_rfl) (by kernel_rfl) (by kernel_rfl) (by kernel_rfl) (fun _ _ _ h => h) (by rfl) (v := ?v12z) ?hy12z hS1z ?rest12z
                      case hy12z => intro w0 hSw; obtain ⟨a0, a1⟩ := hSw; go_simp; try with_reducible rfl
                      simp only [Act.put, List.setIfInBounds_toArray, List.set_cons_zero, List.set_cons_succ]
                      refine late_take (i := 13) (some 22) rfl rfl (by kernel_rfl) (by kernel_rfl) (by kernel_rfl) (by kernel_rfl) (by kernel_rfl) (fun _ _ _ h => h) (by rfl) (v := ?v13z) ?hy13z hS1z ?rest13z
                      case hy13z => intro w0 hSw; obtain ⟨a0, a1⟩ := hSw; go_simp; try with_reducible rfl
                      simp only [Act.put, List.setIfInBounds_toArray, List.set_cons_zero, List.set_cons_succ]
                      refine late_take (i := 14) (some 23) rfl rfl (by kernel_rfl) (by kernel_rfl) (by kernel_rfl) (by kernel_rfl) (by kernel_rfl) (fun _ _ _ h => h) (by rfl) (v := ?v14z) ?hy14z hS1z ?rest14z
                      case hy14z => intro w0 hSw; obtain ⟨a0, a1⟩ := hSw; go_simp; try with_reducible rfl
                      simp only [Act.put, List.setIfInBounds_toArray, List.set_cons_zero, List.set_cons_succ]
                      refine late_done (by kernel_rfl) ?_ _
                      refine NoPanic.normal ?_
                      go_wp2
                      go_roundg (k - (i + 1) + 1)
                      case measure => omega
                      case rel => exact ⟨i + 1, by omega, rfl, by push_cast; go_num, HO13.out⟩
                · obtain rfl : k = i := by omega
                  have HMu := hid (mx_ord HMx.out HOu.out.low)
                  go_wp2_with (go_at_call 19; (with_reducible refine (HSu.out _ HMu.out).mono ?_); rintro e w12 ⟨rfl, hb12⟩; have HB12 := hid hb12; clear hb12)
                  go_ret
                  exact ⟨rfl, below_out HOu.out.low HB12.out⟩
      · have hd1 : decide ((i : Int) < (nl : Int)) = false := decide_eq_false (by omega)
        obtain ⟨Ma, hMa⟩ : ∃ Ma, 64 * i = Ma := ⟨_, rfl⟩
        rw [hMa] at HOr
        have hk40 : k ≤ 40 := by omega
        clear hMa
        go_wp2
        go_loopg [9] (k + 1) (fun gk s9 wv => ∃ j : Nat, j ≤ k ∧ gk = j + 1 ∧ s9 = .int .i64 ((j : Int) - 1) ∧ Ord w wv ta tb (idxP ins) ((idxP ins).drop j).reverse Ma (64 * (k - j)) ins (.slice q k d))
        case atStart => exact ⟨k, by omega, rfl, rfl, by rw [List.drop_of_length_le (by rw [idxP_len, HK.out]; exact Nat.le_refl _), show 64 * (k - k) = 0 by omega]; exact HOr.out⟩
        case round =>
          obtain ⟨j, hj, rfl, rfl, hor⟩ := hrel
          rename World => wv
          have HOv := hid hor
          clear hor
          cases j with
          | succ j =>
            obtain ⟨s, hs⟩ : ∃ s, ins[j]? = some s := ⟨_, List.getElem?_eq_getElem (by rw [HK.out]; omega)⟩
            have hsl := HIl.out s (List.mem_of_getElem? hs)
            have hx := idxP_at hs
            have HAd := hid (HOv.out.addB (mx_ord HMx.out HOv.out.low) (by omega) (by rw [List.length_reverse, List.length_drop, idxP_len, HK.out]; omega) s hsl (j : Int))
            have h0 : addE ((idxP ins).drop (j + 1)).reverse s = 0 := by obtain ⟨G, es, v, ht⟩ := HOv.out.trA; exact addE_rev ht hx
            rw [h0, errOf_zero, show addP ((idxP ins).drop (j + 1)).reverse s (j : Int) = ((idxP ins).drop j).reverse from by unfold addP; rw [h0, if_pos rfl, rev_drop hx]] at HAd
            obtain ⟨g1, o1, rfl, q1⟩ := (ownR_S HOv.out.row).tx j s hs
            obtain ⟨Ss, hSs⟩ : ∃ S, str s = S := ⟨_, rfl⟩
            rw [hSs] at q1 HAd
            have hj9 : (((j + 1 : Nat) : Int) - 1) = (j : Int) := by omega
            rw [hj9]
            have hjk : j < k := by omega
            clear hs hSs h0 hsl hx hj9
            go_wp2_with (go_at_call 8; (with_reducible refine HAd.out.mono ?_); rintro e w4 ⟨rfl, h4⟩; have HOr4 := hid h4; clear h4)
            go_roundg (j + 1)
            case measure => omega
            case rel => exact ⟨j, by omega, rfl, rfl, by rw [show 64 * (k - j) = 64 * (k - (j + 1)) + 64 by omega]; exact HOr4.out⟩
          | zero =>
            rw [List.drop_zero] at HOv
            obtain ⟨Mb, hMb⟩ : ∃ Mb, 64 * (k - 0) = Mb := ⟨_, rfl⟩
            rw [hMb] at HOv
            clear hMb
            rw [show (((0 : Nat) : Int) - 1) = -1 from rfl]
            have HRvl := hid (fun x => idxP_rev (l := ins) x)
            have HLa := hid (show ∀ W, Ord w W ta tb (idxP ins) (idxP ins).reverse Ma Mb ins (.slice q k d) → Calls Tryd.prog 16 #[.pointer (some ⟨ta, 0, none⟩)] W fun e w' => e = .returned (.int .i64 (k : Int)) ∧ w' = W from fun W h => by obtain ⟨G, es, v, ht⟩ := h.trA; have h9 := len_any ht; rw [idxP_len, HK.out] at h9; exact h9)
            have HFin := hid (show ∀ s ∈ ins, checkP s = true from fun s hs => by obtain ⟨j, hj⟩ := List.getElem?_of_mem hs; obtain ⟨G, es, v, ht⟩ := HOv.out.trA; exact ht.fine _ (List.mem_of_getElem? (idxP_at hj)))
            have HFd := hid (show (begB 47 path = false) ∨ (begB 47 path = true ∧ ∀ p ∈ idxP ins, fitsT (cutT p.1.tail) (cutT path.tail) = none) ∨ (begB 47 path = true ∧ ∃ p F, p ∈ idxP ins ∧ fitsT (cutT p.1.tail) (cutT path.tail) = some F ∧ ∀ x ∈ idxP ins, (fitsT (cutT x.1.tail) (cutT path.tail)).isSome = true → x = p ∨ betterT (cutT p.1.tail) (cutT x.1.tail) = true) from by
              cases hb : begB 47 path with
              | false => exact .inl rfl
              | true =>
                obtain ⟨G, es, v, ht⟩ := HOv.out.trA
                rcases ht.found (cutT path.tail) with ⟨_, h2⟩ | ⟨e0, p, _, h2, _, h4, h5⟩
                · exact .inr (.inl ⟨rfl, h2⟩)
                · obtain ⟨F, hF⟩ := Option.isSome_iff_exists.1 h4
                  exact .inr (.inr ⟨rfl, p, F, h2, hF, h5⟩))
            rcases HFd.out with hb | ⟨hb, hno⟩ | ⟨hb, p, F, hpm, hf, hbest⟩
            · have HFa := hid (fun (W : World) (h : Ord w W ta tb (idxP ins) (idxP ins).reverse Ma Mb ins (.slice q k d)) => find_f h.trA (mx_ord HMx.out h.low) path HP.out hb)
              have HFb := hid (fun (W : World) (h : Ord w W ta tb (idxP ins) (idxP ins).reverse Ma Mb ins (.slice q k d)) => find_f h.trB (mx_ord HMx.out h.low) path HP.out hb)
              have HNu := hid (fun (W : World) (h : EnvE W) => num_any 3 W h)
              rw [errOf3] at HNu
              have HNo := hid (fun (s : B) (hs : s ∈ ins) (W : World) (h : MxAt W) => fits_none (HIl.out s hs) HP.out (fitsO_not hb) W h)
              rw [HSP.out] at HFa HFb
              rw [HSP.out] at HNo
              clear hb
              go_wp2_with (first | (go_at_call 13; first | ((with_reducible refine (HFa.out _ HOv.out).mono ?_); rintro e w5 ⟨rfl, hb5⟩; have HO5 := hid (HOv.out.next hb5); clear hb5 HFa) | ((with_reducible refine (HFb.out _ HO5.out).mono ?_); rintro e w6 ⟨rfl, hb6⟩; have HO6 := hid (HO5.out.next hb6); have HE6 := hid (HE.out.next HO6.out.low); clear hb6)) | (go_at_call 15; (with_reducible refine (fields_same [] none none 0 0 0 rfl _ (fat_nil _) (fat_nil _) (by omega)).mono ?_); rintro e w7 ⟨rfl, hb7⟩; have HO7 := hid (HO6.out.next hb7); have HE7 := hid (HE6.out.next hb7); clear hb7) | (go_at_call 10; first | ((with_reducible refine (HNu.out _ HE7.out).mono ?_); rintro e w8 ⟨rfl, hb8⟩; have HO8 := hid (HO7.out.next hb8); have HE8 := hid (HE7.out.next hb8); clear hb8 HE7) | ((with_reducible refine (HNu.out _ HE8.out).mono ?_); rintro e w9 ⟨rfl, hb9⟩; have HO9 := hid (HO8.out.next hb9); clear hb9)) | (go_at_call 16; (with_reducible refine (HLa.out _ HO9.out).mono ?_); rintro e w10 ⟨rfl, hw10⟩; subst w10))
              go_loopg [16] (k + 1) (fun gk s16 wu => ∃ i : Nat, i ≤ k ∧ gk = k - i + 1 ∧ s16 = .int .i64 (i : Int) ∧ Ord w wu ta tb (idxP ins) (idxP ins).reverse Ma Mb ins (.slice q k d))
              case atStart => exact ⟨0, by omega, rfl, rfl, HO9.out⟩
              case round =>
                obtain ⟨i, hik, rfl, rfl, hor⟩ := hrel
                rename World => wu
                have HOu := hid hor
                clear hor
                by_cases hlt : i < k
                · obtain ⟨s, hs⟩ : ∃ s, ins[i]? = some s := ⟨_, List.getElem?_eq_getElem (by rw [HK.out]; exact hlt)⟩
                  have HNs := hid (HNo.out s (List.mem_of_getElem? hs))
                  obtain ⟨g1, o1, rfl, q1⟩ := (ownR_S HOu.out.row).tx i s hs
                  obtain ⟨Ss, hSs⟩ : ∃ S, str s = S := ⟨_, rfl⟩
                  rw [hSs] at q1 HNs
                  have HMu := hid (mx_ord HMx.out HOu.out.low)
                  clear hs hSs
                  go_wp2_with (go_at_call 20; (with_reducible refine (HNs.out _ HMu.out).mono ?_); rintro e w11 ⟨⟨v11, rfl⟩, hb11⟩; have HO11 := hid (HOu.out.next hb11); clear hb11)
                  go_roundg (k - (i + 1) + 1)
                  case measure => omega
                  case rel => exact ⟨i + 1, by omega, rfl, by push_cast; go_num, HO11.out⟩
                · obtain rfl : k = i := by omega
                  have HMu := hid (mx_ord HMx.out HOu.out.low)
                  go_wp2_with (go_at_call 19; (with_reducible refine (HSu.out _ HMu.out).mono ?_); rintro e w12 ⟨rfl, hb12⟩; have HB12 := hid hb12; clear hb12)
                  go_ret
                  exact ⟨rfl, below_out HOu.out.low HB12.out⟩
            · have HFa := hid (fun (W : World) (h : Ord w W ta tb (idxP ins) (idxP ins).reverse Ma Mb ins (.slice q k d)) => find_n h.trA (mx_ord HMx.out h.low) path HP.out hb hno)
              have HFb := hid (fun (W : World) (h : Ord w W ta tb (idxP ins) (idxP ins).reverse Ma Mb ins (.slice q k d)) => find_n h.trB (mx_ord HMx.out h.low) path HP.out hb (fun p hp => hno p (List.mem_reverse.1 hp)))
              have HNu := hid (fun (W : World) (h : EnvE W) => num_any 8 W h)
              rw [errOf8] at HNu
              have HNo := hid (fun (s : B) (hs : s ∈ ins) (W : World) (h : MxAt W) => fits_no (HIl.out s hs) HP.out ((fitsO_of (HFin.out s hs) hb).trans (by obtain ⟨j, hj⟩ := List.getElem?_of_mem hs; rw [hno _ (List.mem_of_getElem? (idxP_at hj))])) W h)
              rw [HSP.out] at HFa HFb
              rw [HSP.out] at HNo
              clear hb hno
              go_wp2_with (first | (go_at_call 13; first | ((with_reducible refine (HFa.out _ HOv.out).mono ?_); rintro e w5 ⟨rfl, hb5⟩; have HO5 := hid (HOv.out.next hb5); clear hb5 HFa) | ((with_reducible refine (HFb.out _ HO5.out).mono ?_); rintro e w6 ⟨rfl, hb6⟩; have HO6 := hid (HO5.out.next hb6); have HE6 := hid (HE.out.next HO6.out.low); clear hb6)) | (go_at_call 15; (with_reducible refine (fields_same [] none none 0 0 0 rfl _ (fat_nil _) (fat_nil _) (by omega)).mono ?_); rintro e w7 ⟨rfl, hb7⟩; have HO7 := hid (HO6.out.next hb7); have HE7 := hid (HE6.out.next hb7); clear hb7) | (go_at_call 10; first | ((with_reducible refine (HNu.out _ HE7.out).mono ?_); rintro e w8 ⟨rfl, hb8⟩; have HO8 := hid (HO7.out.next hb8); have HE8 := hid (HE7.out.next hb8); clear hb8 HE7) | ((with_reducible refine (HNu.out _ HE8.out).mono ?_); rintro e w9 ⟨rfl, hb9⟩; have HO9 := hid (HO8.out.next hb9); clear hb9)) | (go_at_call 16; (with_reducible refine (HLa.out _ HO9.out).mono ?_); rintro e w10 ⟨rfl, hw10⟩; subst w10))
              go_loopg [16] (k + 1) (fun gk s16 wu => ∃ i : Nat, i ≤ k ∧ gk = k - i + 1 ∧ s16 = .int .i64 (i : Int) ∧ Ord w wu ta tb (idxP ins) (idxP ins).reverse Ma Mb ins (.slice q k d))
              case atStart => exact ⟨0, by omega, rfl, rfl, HO9.out⟩
              case round =>
                obtain ⟨i, hik, rfl, rfl, hor⟩ := hrel
                rename World => wu
                have HOu := hid hor
                clear hor
                by_cases hlt : i < k
                · obtain ⟨s, hs⟩ : ∃ s, ins[i]? = some s := ⟨_, List.getElem?_eq_getElem (by rw [HK.out]; exact hlt)⟩
                  have HNs := hid (HNo.out s (List.mem_of_getElem? hs))
                  obtain ⟨g1, o1, rfl, q1⟩ := (ownR_S HOu.out.row).tx i s hs
                  obtain ⟨Ss, hSs⟩ : ∃ S, str s = S := ⟨_, rfl⟩
                  rw [hSs] at q1 HNs
                  have HMu := hid (mx_ord HMx.out HOu.out.low)
                  clear hs hSs
                  go_wp2_with (go_at_call 20; (with_reducible refine (HNs.out _ HMu.out).mono ?_); rintro e w11 ⟨⟨v11, rfl⟩, hb11⟩; have HO11 := hid (HOu.out.next hb11); clear hb11)
                  go_roundg (k - (i + 1) + 1)
                  case measure => omega
                  case rel => exact ⟨i + 1, by omega, rfl, by push_cast; go_num, HO11.out⟩
                · obtain rfl : k = i := by omega
                  have HMu := hid (mx_ord HMx.out HOu.out.low)
                  go_wp2_with (go_at_call 19; (with_reducible refine (HSu.out _ HMu.out).mono ?_); rintro e w12 ⟨rfl, hb12⟩; have HB12 := hid hb12; clear hb12)
                  go_ret
                  exact ⟨rfl, below_out HOu.out.low HB12.out⟩
            · obtain ⟨n, hn1, hn2⟩ := idxP_of hpm
              obtain ⟨L, hL⟩ : ∃ L, F.length = L := ⟨_, rfl⟩
              have hLb : L ≤ 64 := by rw [← hL]; exact fits_few ((fitsO_of (HFin.out p.1 (List.mem_of_getElem? hn1)) hb).trans (by rw [hf]))
              have HFa := hid (fun (W : World) (h : Ord w W ta tb (idxP ins) (idxP ins).reverse Ma Mb ins (.slice q k d)) => find_y h.trA (mx_ord HMx.out h.low) path HP.out hb (fun x => Iff.rfl) hL hpm hf hbest)
              have HFb := hid (fun (W : World) (h : Ord w W ta tb (idxP ins) (idxP ins).reverse Ma Mb ins (.slice q k d)) => find_y h.trB (mx_ord HMx.out h.low) path HP.out hb (fun x => (HRvl.out x).symm) hL hpm hf hbest)
              rw [hn2] at HFa HFb
              have HNu := hid (fun (W : World) (h : EnvE W) => num_any 0 W h)
              rw [errOf_zero] at HNu
              have HLF := hid hL
              have hnk : n < k := by rw [← HK.out]; exact (List.getElem?_eq_some_iff.1 hn1).1
              have HHb := hid hb
              have HN1 := hid hn1
              have HPF := hid (show fitsO p.1 path = some (some F) from (fitsO_of (HFin.out p.1 (List.mem_of_getElem? hn1)) hb).trans (by rw [hf]))
              have HBt := hid (show ∀ (i : Nat) (s : B) (F2 : List (B × B)), ins[i]? = some s → i ≠ n → fitsO s path = some (some F2) → betterT (cutT p.1.tail) (cutT s.tail) = true from fun i s F2 hs hne h2 => by
                have h3 := fitsO_of (HFin.out s (List.mem_of_getElem? hs)) hb
                rw [h2] at h3
                injection h3 with h3
                rcases hbest (s, (i : Int)) (List.mem_of_getElem? (idxP_at hs)) (by rw [← h3]; rfl) with h4 | h4
                · rw [← h4] at hn2
                  have h5 : (i : Int) = (n : Int) := hn2
                  exact absurd (by omega) hne
                · exact h4)
              rw [HSP.out] at HFa HFb
              clear hb hf hbest hpm hL hn1 hn2
              go_wp2_with (first | (go_at_call 13; first | ((with_reducible refine (HFa.out _ HOv.out).mono ?_); rintro e w5 ⟨hb5, q5, d5, rfl, hf5⟩; have HO5 := hid (HOv.out.next hb5); have HF5 := hid hf5; clear hb5 hf5 HFa) | ((with_reducible refine (HFb.out _ HO5.out).mono ?_); rintro e w6 ⟨hb6, q6, d6, rfl, hf6⟩; have HO6 := hid (HO5.out.next hb6); have HE6 := hid (HE.out.next HO6.out.low); have HF56 := hid (HF5.out.next hb6); have HF6 := hid hf6; clear hb6 hf6)) | (go_at_call 15; (with_reducible refine (fields_same F _ _ L _ _ HLF.out _ HF56.out HF6.out (by omega)).mono ?_); rintro e w7 ⟨rfl, hb7⟩; have HO7 := hid (HO6.out.next hb7); have HE7 := hid (HE6.out.next hb7); clear hb7) | (go_at_call 10; first | ((with_reducible refine (HNu.out _ HE7.out).mono ?_); rintro e w8 ⟨rfl, hb8⟩; have HO8 := hid (HO7.out.next hb8); have HE8 := hid (HE7.out.next hb8); clear hb8 HE7) | ((with_reducible refine (HNu.out _ HE8.out).mono ?_); rintro e w9 ⟨rfl, hb9⟩; have HO9 := hid (HO8.out.next hb9); clear hb9)) | (go_at_call 16; (with_reducible refine (HLa.out _ HO9.out).mono ?_); rintro e w10 ⟨rfl, hw10⟩; subst w10))
              go_loopg [16] (k + 1) (fun gk s16 wu => ∃ i : Nat, i ≤ k ∧ gk = k - i + 1 ∧ s16 = .int .i64 (i : Int) ∧ Ord w wu ta tb (idxP ins) (idxP ins).reverse Ma Mb ins (.slice q k d))
              case atStart => exact ⟨0, by omega, rfl, rfl, HO9.out⟩
              case round =>
                obtain ⟨i, hik, rfl, rfl, hor⟩ := hrel
                rename World => wu
                have HOu := hid hor
                clear hor
                by_cases hlt : i < k
                · obtain ⟨s, hs⟩ : ∃ s, ins[i]? = some s := ⟨_, List.getElem?_eq_getElem (by rw [HK.out]; exact hlt)⟩
                  have hsl := HIl.out s (List.mem_of_getElem? hs)
                  have HMu := hid (mx_ord HMx.out HOu.out.low)
                  obtain ⟨Ss, hSs⟩ : ∃ S, str s = S := ⟨_, rfl⟩
                  have hfo := fitsO_of (HFin.out s (List.mem_of_getElem? hs)) HHb.out
                  have hnI : ¬ (n : Int) < 0 := by omega
                  have hnK : ¬ (k : Int) ≤ (n : Int) := by omega
                  have hdn1 : decide ((n : Int) < 0) = false := decide_eq_false hnI
                  have hdn2 : decide ((k : Int) ≤ (n : Int)) = false := decide_eq_false hnK
                  cases hff : fitsT (cutT s.tail) (cutT path.tail) with
                  | none =>
                    rw [hff] at hfo
                    have HNs := hid (fun (W : World) (h : MxAt W) => fits_no hsl HP.out hfo W h)
                    have hne : ¬ i = n := fun e => by rw [e, HN1.out] at hs; injection hs with hs; rw [← hs, HPF.out] at hfo; cases hfo
                    have hneI : ¬ (i : Int) = (n : Int) := by omega
                    have hneB : ((i : Int) == (n : Int)) = false := by simpa using hneI
                    obtain ⟨g1, o1, rfl, q1⟩ := (ownR_S HOu.out.row).tx i s hs
                    rw [hSs] at q1
                    rw [hSs, HSP.out] at HNs
                    clear hs hSs hff hfo hsl
                    go_wp2_with (go_at_call 20; (with_reducible refine (HNs.out _ HMu.out).mono ?_); rintro e w11 ⟨⟨v11, rfl⟩, hb11⟩; have HO11 := hid (HOu.out.next hb11); clear hb11)
                    go_roundg (k - (i + 1) + 1)
                    case measure => omega
                    case rel => exact ⟨i + 1, by omega, rfl, by push_cast; go_num, HO11.out⟩
                  | some F2 =>
                    rw [hff] at hfo
                    have HNs := hid (fun (W : World) (h : MxAt W) => fits_yes hsl HP.out hfo W h)
                    by_cases hne : i = n
                    · subst hne
                      obtain ⟨g1, o1, rfl, q1⟩ := (ownR_S HOu.out.row).tx i s hs
                      rw [hSs] at q1
                      rw [hSs, HSP.out] at HNs
                      clear hs hSs hff hfo hsl
                      go_wp2_with (go_at_call 20; (with_reducible refine (HNs.out _ HMu.out).mono ?_); rintro e w11 ⟨⟨v11, rfl⟩, hb11⟩; have HO11 := hid (HOu.out.next hb11); clear hb11)
                      go_roundg (k - (i + 1) + 1)
                      case measure => omega
                      case rel => exact ⟨i + 1, by omega, rfl, by push_cast; go_num, HO11.out⟩
                    · have hneI : ¬ (i : Int) = (n : Int) := by omega
                      have hneB : ((i : Int) == (n : Int)) = false := by simpa using hneI
                      have hbt := HBt.out i s F2 hs hne hfo
                      have hpl := HIl.out p.1 (List.mem_of_getElem? HN1.out)
                      have HBe1 := hid (fun (W : World) (h : MxAt W) => beats_any p.1 s path hpl hsl HP.out W h)
                      have HBe2 := hid (fun (W : World) (h : MxAt W) => beats_any s p.1 path hsl hpl HP.out W h)
                      rw [beatsO_of HPF.out hfo, hbt, errOf_zero] at HBe1
                      rw [beatsO_of hfo HPF.out, better_asymm hbt, errOf_zero] at HBe2
                      obtain ⟨g, o, hq, q1⟩ := (ownR_S HOu.out.row).tx i s hs
                      obtain ⟨g', o', hq', q2⟩ := (ownR_S HOu.out.row).tx n p.1 HN1.out
                      subst hq
                      injection hq' with hq'; injection hq' with e1 e2; subst e1 e2
                      obtain ⟨Sp, hSp⟩ : ∃ S, str p.1 = S := ⟨_, rfl⟩
                      rw [hSs] at q1
                      rw [hSp] at q2
                      rw [hSs, HSP.out] at HNs
                      rw [hSs, hSp, HSP.out] at HBe1 HBe2
                      have hgl := lt_of_cell q1
                      have HQ1 := hid q1
                      have HQ2 := hid q2
                      clear hs hSs hff hfo hsl hSp hpl hbt
                      go_wp2_with (go_at_call 20; (with_reducible refine (HNs.out _ HMu.out).mono ?_); rintro e w11 ⟨⟨v11, rfl⟩, hb11⟩; have HB11 := hid hb11; have HO11 := hid (HOu.out.next hb11); have HQ3 := hid (cell_keep hb11 HQ1.out); have HQ4 := hid (cell_keep hb11 HQ2.out); have HM11 := hid (HMu.out.next hb11); clear hb11)
                      have hS0u : TwoS w11.drew g o n i Sp Ss := ⟨HQ4.out, HQ3.out⟩
                      refine wp_region_noPanic ?_
                      refine any_begin 15 (by kernel_rfl) (by kernel_rfl) ?_
                      refine late_begin (fun U => TwoS U g o n i Sp Ss) (fun _ => false) hS0u (fun hS => ?_)
                      refine late_take (i := 0) (some 156) rfl rfl (by kernel_rfl) (by kernel_rfl) (by kernel_rfl) (by kernel_rfl) (by kernel_rfl) (fun _ _ _ h => h) (by rfl) (v := ?v0u) ?hy0u hS ?rest0u
                      case hy0u => intro w0 hSw; obtain ⟨a0, a1⟩ := hSw; go_simp; try with_reducible rfl
                      simp only [Act.put, List.setIfInBounds_toArray, List.set_cons_zero, List.set_cons_succ]
                      refine late_take (i := 1) (some 157) rfl rfl (by kernel_rfl) (by kernel_rfl) (by kernel_rfl) (by kernel_rfl) (by kernel_rfl) (fun _ _ _ h => h) (by rfl) (v := ?v1u) ?hy1u hS ?rest1u
                      case hy1u => intro w0 hSw; obtain ⟨a0, a1⟩ := hSw; go_simp; try with_reducible rfl
                      simp only [Act.put, List.setIfInBounds_toArray, List.set_cons_zero, List.set_cons_succ]
                      refine late_take (i := 2) (some 158) rfl rfl (by kernel_rfl) (by kernel_rfl) (by kernel_rfl) (by kernel_rfl) (by kernel_rfl) (fun _ _ _ h => h) (by rfl) (v := ?v2u) ?hy2u hS ?rest2u
                      case hy2u => intro w0 hSw; obtain ⟨a0, a1⟩ := hSw; go_simp; try with_reducible rfl
                      simp only [Act.put, List.setIfInBounds_toArray, List.set_cons_zero, List.set_cons_succ]
                      refine late_take (i := 3) (some 159) rfl rfl (by kernel_rfl) (by kernel_rfl) (by kernel_rfl) (by kernel_rfl) (by kernel_rfl) (fun _ _ _ h => h) (by rfl) (v := ?v3u) ?hy3u hS ?rest3u
                      case hy3u => intro w0 hSw; obtain ⟨a0, a1⟩ := hSw; go_simp; try with_reducible rfl
                      simp only [Act.put, List.setIfInBounds_toArray, List.set_cons_zero, List.set_cons_succ]
                      refine late_take (i := 4) (some 160) rfl rfl (by kernel_rfl) (by kernel_rfl) (by kernel_rfl) (by kernel_rfl) (by kernel_rfl) (fun _ _ _ h => h) (by rfl) (v := ?v4u) ?hy4u hS ?rest4u
                      case hy4u => intro w0 hSw; obtain ⟨a0, a1⟩ := hSw; go_simp; try with_reducible rfl
                      simp only [Act.put, List.setIfInBounds_toArray, List.set_cons_zero, List.set_cons_succ]
                      refine late_take (i := 5) (some 161) rfl rfl (by kernel_rfl) (by kernel_rfl) (by kernel_rfl) (by kernel_rfl) (by kernel_rfl) (fun _ _ _ h => h) (by rfl) (v := ?v5u) ?hy5u hS ?rest5u
                      case hy5u => intro w0 hSw; obtain ⟨a0, a1⟩ := hSw; go_simp; try with_reducible rfl
                      simp only [Act.put, List.setIfInBounds_toArray, List.set_cons_zero, List.set_cons_succ]
                      refine late_take (i := 6) (some 162) rfl rfl (by kernel_rfl) (by kernel_rfl) (by kernel_rfl) (by kernel_rfl) (by kernel_rfl) (fun _ _ _ h => h) (by rfl) (v := ?v6u) ?hy6u hS ?rest6u
                      case hy6u => intro w0 hSw; obtain ⟨a0, a1⟩ := hSw; go_simp; try with_reducible rfl
                      simp only [Act.put, List.setIfInBounds_toArray, List.set_cons_zero, List.set_cons_succ]
                      refine late_take (i := 7) (some 163) rfl rfl (by kernel_rfl) (by kernel_rfl) (by kernel_rfl) (by kernel_rfl) (by kernel_rfl) (fun _ _ _ h => h) (by rfl) (v := ?v7u) ?hy7u hS ?rest7u
                      case hy7u => intro w0 hSw; obtain ⟨a0, a1⟩ := hSw; go_simp; try with_reducible rfl
                      simp only [Act.put, List.setIfInBounds_toArray, List.set_cons_zero, List.set_cons_succ]
                      refine late_take (i := 8) (some 164) rfl rfl (by kernel_rfl) (by kernel_rfl) (by kernel_rfl) (by kernel_rfl) (by kernel_rfl) (fun _ _ _ h => h) (by rfl) (v := ?v8u) ?hy8u hS ?rest8u
                      case hy8u => intro w0 hSw; obtain ⟨a0, a1⟩ := hSw; go_simp; try with_reducible rfl
                      simp only [Act.put, List.setIfInBounds_toArray, List.set_cons_zero, List.set_cons_succ]
                      refine wpAnyD_one (i := 9) (by kernel_rfl) rfl (fun K hK => ?_)
                      go_simp
                      go_at_call 22
                      (with_reducible refine (HBe1.out _ (HM11.out.same (same_drew1 w11))).mono ?_)
                      rintro e w12 ⟨rfl, hb12⟩
                      have HB12 := hid (below_out (same_drew1 w11).below hb12)
                      have hS1u : TwoS w12 g o n i Sp Ss := ⟨cell_keep HB12.out HQ4.out, cell_keep HB12.out HQ3.out⟩
                      have HM12 := hid (HM11.out.next HB12.out)
                      have HO12 := hid (HO11.out.next HB12.out)
                      clear hb12
                      refine hK _ _ ⟨fun _ => hS1u, ?_⟩
                      clear hK K
                      refine late_take (i := 10) (some 155) rfl rfl (by kernel_rfl) (by kernel_rfl) (by kernel_rfl) (by kernel_rfl) (by kernel_rfl) (fun _ _ _ h => h) (by rfl) (v := ?v10u) ?hy10u hS1u ?rest10u
                      case hy10u => intro w0 hSw; obtain ⟨a0, a1⟩ := hSw; go_simp; try with_reducible rfl
                      simp only [Act.put, List.setIfInBounds_toArray, List.set_cons_zero, List.set_cons_succ]
                      refine late_take (i := 11) (some 166) rfl rfl (by kernel_rfl) (by kernel_rfl) (by kernel_rfl) (by kernel_rfl) (by kernel_rfl) (fun _ _ _ h => h) (by rfl) (v := ?v11u) ?hy11u hS1u ?rest11u
                      case hy11u => intro w0 hSw; obtain ⟨a0, a1⟩ := hSw; go_simp; try with_reducible rfl
                      simp only [Act.put, List.setIfInBounds_toArray, List.set_cons_zero, List.set_cons_succ]
                      refine late_take (i := 12) (some 167) rfl rfl (by kernel_rfl) (by kernel_rfl) (by kernel_rfl) (by kernel_rfl) (by kernel_rfl) (fun _ _ _ h => h) (by rfl) (v := ?v12u) ?hy12u hS1u ?rest12u
                      case hy12u => intro w0 hSw; obtain ⟨a0, a1⟩ := hSw; go_simp; try with_reducible rfl
                      simp only [Act.put, List.setIfInBounds_toArray, List.set_cons_zero, List.set_cons_succ]
                      refine late_take (i := 13) (some 20) rfl rfl (by kernel_rfl) (by kernel_rfl) (by kernel_rfl) (by kernel_rfl) (by kernel_rfl) (fun _ _ _ h => h) (by rfl) (v := ?v13u) ?hy13u hS1u ?rest13u
                      case hy13u => intro w0 hSw; obtain ⟨a0, a1⟩ := hSw; go_simp; try with_reducible rfl
                      simp only [Act.put, List.setIfInBounds_toArray, List.set_cons_zero, List.set_cons_succ]
                      refine late_take (i := 14) (some 21) rfl rfl (by kernel_rfl) (by kernel_rfl) (by kernel_rfl) (by kernel_rfl) (by kernel_rfl) (fun _ _ _ h => h) (by rfl) (v := ?v14u) ?hy14u hS1u ?rest14u
                      case hy14u => intro w0 hSw; obtain ⟨a0, a1⟩ := hSw; go_simp; try with_reducible rfl
                      simp only [Act.put, List.setIfInBounds_toArray, List.set_cons_zero, List.set_cons_succ]
                      refine late_done (by kernel_rfl) ?_ _
                      refine NoPanic.normal ?_
                      go_wp2
                      have hS0v : TwoS w12.drew g o i n Ss Sp := ⟨hS1u.a1, hS1u.a0⟩
                      refine wp_region_noPanic ?_
                      refine any_begin 15 (by kernel_rfl) (by kernel_rfl) ?_
                      refine late_begin (fun U => TwoS U g o i n Ss Sp) (fun _ => false) hS0v (fun hS => ?_)
                      refine late_take (i := 0) (some 169) rfl rfl (by kernel_rfl) (by kernel_rfl) (by kernel_rfl) (by kernel_rfl) (by kernel_rfl) (fun _ _ _ h => h) (by rfl) (v := ?v0v) ?hy0v hS ?rest0v
                      case hy0v => intro w0 hSw; obtain ⟨a0, a1⟩ := hSw; go_simp; try with_reducible rfl
                      simp only [Act.put, List.setIfInBounds_toArray, List.set_cons_zero, List.set_cons_succ]
                      refine late_take (i := 1) (some 170) rfl rfl (by kernel_rfl) (by kernel_rfl) (by kernel_rfl) (by kernel_rfl) (by kernel_rfl) (fun _ _ _ h => h) (by rfl) (v := ?v1v) ?hy1v hS ?rest1v
                      case hy1v => intro w0 hSw; obtain ⟨a0, a1⟩ := hSw; go_simp; try with_reducible rfl
                      simp only [Act.put, List.setIfInBounds_toArray, List.set_cons_zero, List.set_cons_succ]
                      refine late_take (i := 2) (some 171) rfl rfl (by kernel_rfl) (by kernel_rfl) (by kernel_rfl) (by kernel_rfl) (by kernel_rfl) (fun _ _ _ h => h) (by rfl) (v := ?v2v) ?hy2v hS ?rest2v
                      case hy2v => intro w0 hSw; obtain ⟨a0, a1⟩ := hSw; go_simp; try with_reducible rfl
                      simp only [Act.put, List.setIfInBounds_toArray, List.set_cons_zero, List.set_cons_succ]
                      refine late_take (i := 3) (some 172) rfl rfl (by kernel_rfl) (by kernel_rfl) (by kernel_rfl) (by kernel_rfl) (by kernel_rfl) (fun _ _ _ h => h) (by rfl) (v := ?v3v) ?hy3v hS ?rest3v
                      case hy3v => intro w0 hSw; obtain ⟨a0, a1⟩ := hSw; go_simp; try with_reducible rfl
                      simp only [Act.put, List.setIfInBounds_toArray, List.set_cons_zero, List.set_cons_succ]
                      refine late_take (i := 4) (some 173) rfl rfl (by kernel_rfl) (by kernel_rfl) (by kernel_rfl) (by kernel_rfl) (by kernel_rfl) (fun _ _ _ h => h) (by rfl) (v := ?v4v) ?hy4v hS ?rest4v
                      case hy4v => intro w0 hSw; obtain ⟨a0, a1⟩ := hSw; go_simp; try with_reducible rfl
                      simp only [Act.put, List.setIfInBounds_toArray, List.set_cons_zero, List.set_cons_succ]
                      refine late_take (i := 5) (some 174) rfl rfl (by kernel_rfl) (by kernel_rfl) (by kernel_rfl) (by kernel_rfl) (by kernel_rfl) (fun _ _ _ h => h) (by rfl) (v := ?v5v) ?hy5v hS ?rest5v
                      case hy5v => intro w0 hSw; obtain ⟨a0, a1⟩ := hSw; go_simp; try with_reducible rfl
                      simp only [Act.put, List.setIfInBounds_toArray, List.set_cons_zero, List.set_cons_succ]
                      refine late_take (i := 6) (some 175) rfl rfl (by kernel_rfl) (by kernel_rfl) (by kernel_rfl) (by kernel_rfl) (by kernel_rfl) (fun _ _ _ h => h) (by rfl) (v := ?v6v) ?hy6v hS ?rest6v
                      case hy6v => intro w0 hSw; obtain ⟨a0, a1⟩ := hSw; go_simp; try with_reducible rfl
                      simp only [Act.put, List.setIfInBounds_toArray, List.set_cons_zero, List.set_cons_succ]
                      refine late_take (i := 7) (some 176) rfl rfl (by kernel_rfl) (by kernel_rfl) (by kernel_rfl) (by kernel_rfl) (by kernel_rfl) (fun _ _ _ h => h) (by rfl) (v := ?v7v) ?hy7v hS ?rest7v
                      case hy7v => intro w0 hSw; obtain ⟨a0, a1⟩ := hSw; go_simp; try with_reducible rfl
                      simp only [Act.put, List.setIfInBounds_toArray, List.set_cons_zero, List.set_cons_succ]
                      refine late_take (i := 8) (some 177) rfl rfl (by kernel_rfl) (by kernel_rfl) (by kernel_rfl) (by kernel_rfl) (by kernel_rfl) (fun _ _ _ h => h) (by rfl) (v := ?v8v) ?hy8v hS ?rest8v
                      case hy8v => intro w0 hSw; obtain ⟨a0, a1⟩ := hSw; go_simp; try with_reducible rfl
                      simp only [Act.put, List.setIfInBounds_toArray, List.set_cons_zero, List.set_cons_succ]
                      refine wpAnyD_one (i := 9) (by kernel_rfl) rfl (fun K hK => ?_)
                      go_simp
                      go_at_call 22
                      (with_reducible refine (HBe2.out _ (HM12.out.same (same_drew1 w12))).mono ?_)
                      rintro e w13 ⟨rfl, hb13⟩
                      have HB13 := hid (below_out (same_drew1 w12).below hb13)
                      have hS1v : TwoS w13 g o i n Ss Sp := ⟨cell_keep HB13.out hS1u.a1, cell_keep HB13.out hS1u.a0⟩
                      have HO13 := hid (HO12.out.next HB13.out)
                      clear hb13
                      refine hK _ _ ⟨fun _ => hS1v, ?_⟩
                      clear hK K
                      refine late_take (i := 10) (some 168) rfl rfl (by kernel_rfl) (by kernel_rfl) (by kernel_rfl) (by kernel_rfl) (by kernel_rfl) (fun _ _ _ h => h) (by rfl) (v := ?v10v) ?hy10v hS1v ?rest10v
                      case hy10v => intro w0 hSw; obtain ⟨a0, a1⟩ := hSw; go_simp; try with_reducible rfl
                      simp only [Act.put, List.setIfInBounds_toArray, List.set_cons_zero, List.set_cons_succ]
                      refine late_take (i := 11) (some 179) rfl rfl (by kernel_rfl) (by kernel_rfl) (by kernel_rfl) (by kernel_rfl) (by kernel_rfl) (fun _ _ _ h => h) (by rfl) (v := ?v11v) ?hy11v hS1v ?rest11v
                      case hy11v => intro w0 hSw; obtain ⟨a0, a1⟩ := hSw; go_simp; try with_reducible rfl
                      simp only [Act.put, List.setIfInBounds_toArray, List.set_cons_zero, List.set_cons_succ]
                      refine late_take (i := 12) (some 180) rfl rfl (by kernel_rfl) (by kernel_rfl) (by kernel_rfl) (by kernel_rfl) (by kernel_rfl) (fun _ _ _ h => h) (by rfl) (v := ?v12v) ?hy12v hS1v ?rest12v
                      case hy12v => intro w0 hSw; obtain ⟨a0, a1⟩ := hSw; go_simp; try with_reducible rfl
                      simp only [Act.put, List.setIfInBounds_toArray, List.set_cons_zero, List.set_cons_succ]
                      refine late_take (i := 13) (some 22) rfl rfl (by kernel_rfl) (by kernel_rfl) (by kernel_rfl) (by kernel_rfl) (by kernel_rfl) (fun _ _ _ h => h) (by rfl) (v := ?v13v) ?hy13v hS1v ?rest13v
                      case hy13v => intro w0 hSw; obtain ⟨a0, a1⟩ := hSw; go_simp; try with_reducible rfl
                      simp only [Act.put, List.setIfInBounds_toArray, List.set_cons_zero, List.set_cons_succ]
                      refine late_take (i := 14) (some 23) rfl rfl (by kernel_rfl) (by kernel_rfl) (by kernel_rfl) (by kernel_rfl) (by kernel_rfl) (fun _ _ _ h => h) (by rfl) (v := ?v14v) ?hy14v hS1v ?rest14v
                      case hy14v => intro w0 hSw; obtain ⟨a0, a1⟩ := hSw; go_simp; try with_reducible rfl
                      simp only [Act.put, List.setIfInBounds_toArray, List.set_cons_zero, List.set_cons_succ]
                      refine late_done (by kernel_rfl) ?_ _
                      refine NoPanic.normal ?_
                      go_wp2
                      go_roundg (k - (i + 1) + 1)
                      case measure => omega
                      case rel => exact ⟨i + 1, by omega, rfl, by push_cast; go_num, HO13.out⟩
                · obtain rfl : k = i := by omega
                  have HMu := hid (mx_ord HMx.out HOu.out.low)
                  go_wp2_with (go_at_call 19; (with_reducible refine (HSu.out _ HMu.out).mono ?_); rintro e w12 ⟨rfl, hb12⟩; have HB12 := hid hb12; clear hb12)
                  go_ret
                  exact ⟨rfl, below_out HOu.out.low HB12.out⟩
end Go.Proofs.YtdjjkcpnjocafaaDoor
