/- The law HostTables, walked. -/
import Derived.Test.YtkjgdfihhhdjaaaDoorSFnd
namespace Go.Proofs.YtkjgdfihhhdjaaaDoor
open Go.RowKit Go.Maps

set_option maxRecDepth 20000 in
set_option maxHeartbeats 64000000 in
theorem tables_any (ps hs : List B) (pa pb : Option Addr) (na nb ca cb : Nat) (hna : ps.length = na) (hnb : hs.length = nb) (hNa : na ≤ 140737488355328) (hNb : nb ≤ 140737488355328) (hps : ∀ s ∈ ps, s.length ≤ 9223372036854775807) (hhs : ∀ s ∈ hs, s.length ≤ 9223372036854775807) (w : World) (hA : LbAt w pa ps) (hB : LbAt w pb hs) (hmx : MxAt w) :
    Calls Tryd.prog 5 #[.slice pa na ca, .slice pb nb cb] w fun e w' => e = .returned (.bool true) ∧ Below w.heap.size w w' := by
  obtain ⟨t, ht⟩ : ∃ t, w.heap.size = t := ⟨_, rfl⟩
  have HNew := hid (fnd_new w)
  rw [ht] at HNew
  have HPs := hid hps
  have HHs := hid hhs
  have HA := hid hA
  have HBh := hid hB
  have HNa := hid hna
  have HNb := hid hnb
  have HMx := hid hmx
  have HW := hid (fun (W : World) (h : MxAt W) => works_any W h)
  have HF0 := hid (show ∀ W, MxAt W → Calls Tryd.prog 25 #[.pointer none, .string ⟨#[97]⟩] W fun e w' => e = .returned (.tuple #[.int .i64 0, errOf 8]) ∧ Below W.heap.size W w' from fun W h => by
    have h1 := find_nil [97] (by decide) W h
    rw [n_a.1] at h1
    exact h1)
  have HA0 := hid (show ∀ W, MxAt W → Calls Tryd.prog 22 #[.pointer none, .string ⟨#[97]⟩, .int .i64 1] W fun e w' => e = .returned (errOf 9) ∧ Below W.heap.size W w' from fun W h => by
    have h1 := add_nil [97] (by decide) 1 W h
    rw [n_a.2.1] at h1
    exact h1)
  have HA1 := hid (show ∀ W, MxAt W → Calls Tryd.prog 22 #[.pointer none, .string ⟨#[97, 32, 98]⟩, .int .i64 1] W fun e w' => e = .returned (errOf 3) ∧ Below W.heap.size W w' from fun W h => by
    have h1 := add_nil [97, 32, 98] (by decide) 1 W h
    rw [n_a.2.2] at h1
    exact h1)
  have HL0 := hid (fun W : World => len_nil W)
  have HAl0 := hid (fun W : World => all_nil W)
  have HN8 := hid (fun W : World => num_any 8 (by decide) W)
  have HN9 := hid (fun W : World => num_any 9 (by decide) W)
  have HN3 := hid (fun W : World => num_any 3 (by decide) W)
  obtain ⟨E8, hE8⟩ : ∃ E, errOf 8 = E := ⟨_, rfl⟩
  obtain ⟨E9, hE9⟩ : ∃ E, errOf 9 = E := ⟨_, rfl⟩
  obtain ⟨E3, hE3⟩ : ∃ E, errOf 3 = E := ⟨_, rfl⟩
  rw [hE8] at HF0 HN8
  rw [hE9] at HA0 HN9
  rw [hE3] at HA1 HN3
  rw [show ((8 : Nat) : Int) = 8 from rfl] at HN8
  rw [show ((9 : Nat) : Int) = 9 from rfl] at HN9
  rw [show ((3 : Nat) : Int) = 3 from rfl] at HN3
  clear hE8 hE9 hE3 hps hhs hA hB hna hnb hmx
  go_enter Tryd.func5, Tryd.ntmps5
  go_wp2_with (go_at_call 20; (with_reducible refine HNew.out.mono ?_); rintro e w1 ⟨rfl, h1⟩; have HS0 := hid h1; clear h1 HNew)
  go_loopg [6, 7] 201 (fun gk s6 s7 wr => ∃ (i n c : Nat) (pr : Option Addr) (P : List (B × Int)), i ≤ na ∧ i ≤ 200 ∧ gk = 200 - i + 1 ∧ s7 = .int .i64 (i : Int) ∧ s6 = .slice pr n c ∧ FndS w wr t P P (.slice pr n c))
  case atStart => exact ⟨0, 0, 0, none, [], by omega, by omega, rfl, rfl, rfl, HS0.out⟩
  case round =>
    clear HS0
    obtain ⟨i, n, c, pr, P, hi, hi2, rfl, rfl, rfl, hS⟩ := hrel
    have HS := hid hS
    clear hS
    by_cases hin : i < na ∧ i < 200
    · obtain ⟨hin1, hin2⟩ := hin
      obtain ⟨x, hx⟩ : ∃ x, ps[i]? = some x := ⟨_, List.getElem?_eq_getElem (by rw [HNa.out]; exact hin1)⟩
      obtain ⟨g1, o1, rfl, q1⟩ := (HA.out.next HS.out.below) i x hx
      have hxl := HPs.out x (List.mem_of_getElem? hx)
      have HRA := hid (fnd_radd HS.out x hxl ((i : Int) * 3))
      have HTA := hid (fun (W : World) (R : List (B × Int)) (v : Value) (h : FndS w W t P R v) => fnd_tadd h HMx.out x hxl ((i : Int) * 3) (by rw [show ((i : Int) * 3) = ((i * 3 : Nat) : Int) by push_cast; rfl]; exact WalkArith.wf_i64 (by omega)))
      have HNu := hid (fun W : World => num_any (addE P x) (addE_le P x) W)
      have HAx := hid (fun (W : World) (R : List (B × Int)) (v : Value) (h : FndS w W t P R v) => (HA.out.next h.below) i x hx)
      obtain ⟨Sx, hSx⟩ : ∃ S, str x = S := ⟨_, rfl⟩
      obtain ⟨EV, hEV⟩ : ∃ E, errOf (addE P x) = E := ⟨_, rfl⟩
      obtain ⟨EK, hEK⟩ : ∃ E : Int, (addE P x : Int) = E := ⟨_, rfl⟩
      rw [hSx] at q1 HRA HTA HAx
      rw [hEK] at HRA
      rw [hEV] at HTA
      rw [hEV, hEK] at HNu
      have h2 : (i : Int) < (na : Int) := by omega
      have h3 : (i : Int) < 200 := by omega
      clear hx hxl hSx hEV hEK
      go_wp2_with (first | (go_at_call 21; (with_reducible refine HRA.out.mono ?_); rintro e w2 ⟨q2, n2, d2, rfl, hs2⟩; have HS2 := hid hs2; obtain ⟨g2, o2, e2, q2x⟩ := HAx.out _ _ _ hs2; injection e2 with e2; injection e2 with e3 e4 _; subst e3; subst e4; clear hs2 HRA HAx) | (go_at_call 22; (with_reducible refine (HTA.out _ _ _ HS2.out).mono ?_); rintro e w3 ⟨rfl, hs3⟩; have HS3 := hid hs3; clear hs3 HTA HS2) | (go_at_call 12; (with_reducible refine (HNu.out _).mono ?_); rintro e w4 ⟨rfl, rfl⟩))
      go_roundg (200 - (i + 1) + 1)
      case measure => omega
      case rel => exact ⟨i + 1, n2, d2, q2, _, by omega, by omega, rfl, by push_cast; go_num, rfl, HS3.out⟩
    · by_cases hin1 : i < na
      · have hin2 : ¬ (i : Int) < 200 := by omega
        have h2 : (i : Int) < (na : Int) := by omega
        clear hin hin1
        have hnP : P.length = n := (row_lenH HS.out.row).symm
        have hnn : n ≤ 64 := by have := HS.out.len; omega
        have HNP := hid hnP
        have HAll := hid (fnd_all HS.out)
        rw [hnP] at HAll
        have HLen := hid (fun (W : World) (h : FndS w W t P P (.slice pr n c)) => by have h1 := fnd_len h; rw [hnP] at h1; exact h1)
        clear hnP
        go_wp2_with (first | (go_at_call 23; (with_reducible refine HAll.out.mono ?_); rintro e w2 ⟨q2, d2, rfl, hl2, hs2⟩; have HS2 := hid hs2; have HL2 := hid hl2; clear hs2 hl2 HAll HS) | (go_at_call 24; (with_reducible refine (HLen.out _ HS2.out).mono ?_); rintro e w3 ⟨rfl, rfl⟩))
        go_loopg [11] (n + 1) (fun gk s11 wu => ∃ k : Nat, k ≤ n ∧ gk = n - k + 1 ∧ s11 = .int .i64 (k : Int) ∧ FndS w wu t P P (.slice pr n c) ∧ LbAt wu q2 (P.map (·.1)))
        case atStart => exact ⟨0, by omega, rfl, rfl, HS2.out, HL2.out⟩
        case round =>
          clear HS2 HL2
          obtain ⟨k, hk, rfl, rfl, hS, hL⟩ := hrel
          have HS3 := hid hS
          have HL3 := hid hL
          clear hS hL
          by_cases hkn : k < n
          · obtain ⟨p, hp⟩ : ∃ p, P[k]? = some p := ⟨_, List.getElem?_eq_getElem (by rw [HNP.out]; exact hkn)⟩
            obtain ⟨g4, o4, rfl, q4, _⟩ := (OwnP.pt HS3.out.row) k p hp
            obtain ⟨g5, o5, rfl, q5⟩ := HL3.out k p.1 (by rw [List.getElem?_map, hp]; rfl)
            obtain ⟨Sp, hSp⟩ : ∃ S, str p.1 = S := ⟨_, rfl⟩
            rw [hSp] at q4 q5
            have hk2 : (k : Int) < (n : Int) := by omega
            clear hp hSp
            go_wp2
            go_quiet (fail)
            go_wp2
            go_roundg (n - (k + 1) + 1)
            case measure => omega
            case rel => exact ⟨k + 1, by omega, rfl, by push_cast; go_num, HS3.out.next (below_drewH _ _), HL3.out.next (below_drewH _ _)⟩
          · obtain rfl : n = k := by omega
            clear HL3 hkn
            go_wp2
            go_loopg [12] 51 (fun gk s12 wv => ∃ j : Nat, j ≤ nb ∧ j ≤ 50 ∧ gk = 50 - j + 1 ∧ s12 = .int .i64 (j : Int) ∧ FndS w wv t P P (.slice pr n c))
            case atStart => exact ⟨0, by omega, by omega, rfl, rfl, HS3.out⟩
            case round =>
              clear HS3
              obtain ⟨j, hj, hj2, rfl, rfl, hS⟩ := hrel
              have HS5 := hid hS
              clear hS
              by_cases hjn : j < nb ∧ j < 50
              · obtain ⟨hj3, hj4⟩ := hjn
                obtain ⟨x, hx⟩ : ∃ x, hs[j]? = some x := ⟨_, List.getElem?_eq_getElem (by rw [HNb.out]; exact hj3)⟩
                obtain ⟨g6, o6, rfl, q6⟩ := (HBh.out.next HS5.out.below) j x hx
                have hxl := HHs.out x (List.mem_of_getElem? hx)
                have HFi := hid (fnd_find HS5.out HMx.out x hxl)
                have hRF2 := fnd_rfind2 P x hxl
                have HBx := hid (fun (W : World) (h : FndS w W t P P (.slice pr n c)) => (HBh.out.next h.below) j x hx)
                have HNu := hid (fun W : World => num_any (findN P x).2 (findN_le P x) W)
                obtain ⟨Sx, hSx⟩ : ∃ S, str x = S := ⟨_, rfl⟩
                obtain ⟨V, hV⟩ : ∃ V, (findN P x).1 = V := ⟨_, rfl⟩
                obtain ⟨EV, hEV⟩ : ∃ E, errOf (findN P x).2 = E := ⟨_, rfl⟩
                obtain ⟨EK, hEK⟩ : ∃ E : Int, ((findN P x).2 : Int) = E := ⟨_, rfl⟩
                rw [hSx] at q6 HFi hRF2 HBx
                rw [hV, hEV] at HFi
                rw [hV, hEK] at hRF2
                rw [hEV, hEK] at HNu
                have hj5 : (j : Int) < (nb : Int) := by omega
                have hj6 : (j : Int) < 50 := by omega
                clear hx hxl hSx hV hEV hEK
                rcases hRF2 with ⟨rfl, hRF⟩ | ⟨p, rfl, hRF⟩
                · have HRF := hid hRF
                  clear hRF
                  go_wp2_with (first | (go_at_call 25; (with_reducible refine HFi.out.mono ?_); rintro e w6 ⟨rfl, hs6⟩; have HS6 := hid hs6; obtain ⟨g7, o7, e7, q7⟩ := HBx.out _ hs6; injection e7 with e7; injection e7 with e8 e9 _; subst e8; subst e9; clear hs6 HFi HBx HS5) | (go_at_call 26; (with_reducible refine (HRF.out w _ t pr n c HS6.out).mono ?_); rintro e w7 ⟨hs7, rfl⟩; have HS7 := hid hs7; clear hs7 HRF HS6) | (go_at_call 12; (with_reducible refine (HNu.out _).mono ?_); rintro e w8 ⟨rfl, rfl⟩))
                  go_roundg (50 - (j + 1) + 1)
                  case measure => omega
                  case rel => exact ⟨j + 1, by omega, by omega, rfl, by push_cast; go_num, HS7.out⟩
                · have HRF := hid hRF
                  clear hRF
                  go_wp2_with (first | (go_at_call 25; (with_reducible refine HFi.out.mono ?_); rintro e w6 ⟨rfl, hs6⟩; have HS6 := hid hs6; obtain ⟨g7, o7, e7, q7⟩ := HBx.out _ hs6; injection e7 with e7; injection e7 with e8 e9 _; subst e8; subst e9; clear hs6 HFi HBx HS5) | (go_at_call 26; (with_reducible refine (HRF.out w _ t pr n c HS6.out).mono ?_); rintro e w7 ⟨hs7, b, hpb, rfl⟩; have HS7 := hid hs7; obtain ⟨g8, o8, rfl, _, q8⟩ := (OwnP.pt hs7.row) b p hpb; have hbn : b < n := (by rw [← HNP.out]; exact (List.getElem?_eq_some_iff.1 hpb).1); have hb0 : (0 : Int) ≤ (b : Int) := (by omega); have hbn2 : (b : Int) < (n : Int) := (by omega); clear hs7 HRF HS6 hpb) | (go_at_call 12; (with_reducible refine (HNu.out _).mono ?_); rintro e w8 ⟨rfl, rfl⟩))
                  go_roundg (50 - (j + 1) + 1)
                  case measure => omega
                  case rel => exact ⟨j + 1, by omega, by omega, rfl, by push_cast; go_num, HS7.out⟩
              · by_cases hj3 : j < nb
                · have hj4 : ¬ (j : Int) < 50 := by omega
                  have hj5 : (j : Int) < (nb : Int) := by omega
                  clear hjn hj3
                  go_wp2_with (first | (go_at_call 25; (with_reducible refine (HF0.out _ (HMx.out.next HS5.out.below)).mono ?_); rintro e wa ⟨rfl, hb⟩; have HBa := hid (below_out HS5.out.below hb); clear hb HF0) | (go_at_call 22; first | ((with_reducible refine (HA0.out _ (HMx.out.next HBa.out)).mono ?_); rintro e wb ⟨rfl, hb⟩; have HBb := hid (below_out HBa.out hb); clear hb HA0) | ((with_reducible refine (HA1.out _ (HMx.out.next HBb.out)).mono ?_); rintro e wc ⟨rfl, hb⟩; have HBc := hid (below_out HBb.out hb); clear hb HA1)) | (go_at_call 12; first | ((with_reducible refine (HN9.out _).mono ?_); rintro e wd ⟨rfl, rfl⟩) | ((with_reducible refine (HN3.out _).mono ?_); rintro e wd ⟨rfl, rfl⟩) | ((with_reducible refine (HN8.out _).mono ?_); rintro e wd ⟨rfl, rfl⟩)) | (go_at_call 24; (with_reducible refine (HL0.out _).mono ?_); rintro e wd ⟨rfl, rfl⟩) | (go_at_call 23; (with_reducible refine (HAl0.out _).mono ?_); rintro e wd ⟨rfl, rfl⟩) | (go_at_call 15; (with_reducible refine (HW.out _ (HMx.out.next HBc.out)).mono ?_); rintro e we ⟨rfl, hb⟩; have HBe := hid (below_out HBc.out hb); clear hb HW))
                  go_ret
                  exact ⟨rfl, HBe.out⟩
                · have hj5 : ¬ (j : Int) < (nb : Int) := by omega
                  clear hjn hj3
                  go_wp2_with (first | (go_at_call 25; (with_reducible refine (HF0.out _ (HMx.out.next HS5.out.below)).mono ?_); rintro e wa ⟨rfl, hb⟩; have HBa := hid (below_out HS5.out.below hb); clear hb HF0) | (go_at_call 22; first | ((with_reducible refine (HA0.out _ (HMx.out.next HBa.out)).mono ?_); rintro e wb ⟨rfl, hb⟩; have HBb := hid (below_out HBa.out hb); clear hb HA0) | ((with_reducible refine (HA1.out _ (HMx.out.next HBb.out)).mono ?_); rintro e wc ⟨rfl, hb⟩; have HBc := hid (below_out HBb.out hb); clear hb HA1)) | (go_at_call 12; first | ((with_reducible refine (HN9.out _).mono ?_); rintro e wd ⟨rfl, rfl⟩) | ((with_reducible refine (HN3.out _).mono ?_); rintro e wd ⟨rfl, rfl⟩) | ((with_reducible refine (HN8.out _).mono ?_); rintro e wd ⟨rfl, rfl⟩)) | (go_at_call 24; (with_reducible refine (HL0.out _).mono ?_); rintro e wd ⟨rfl, rfl⟩) | (go_at_call 23; (with_reducible refine (HAl0.out _).mono ?_); rintro e wd ⟨rfl, rfl⟩) | (go_at_call 15; (with_reducible refine (HW.out _ (HMx.out.next HBc.out)).mono ?_); rintro e we ⟨rfl, hb⟩; have HBe := hid (below_out HBc.out hb); clear hb HW))
                  go_ret
                  exact ⟨rfl, HBe.out⟩
      · have h2 : ¬ (i : Int) < (na : Int) := by omega
        clear hin hin1
        have hnP : P.length = n := (row_lenH HS.out.row).symm
        have hnn : n ≤ 64 := by have := HS.out.len; omega
        have HNP := hid hnP
        have HAll := hid (fnd_all HS.out)
        rw [hnP] at HAll
        have HLen := hid (fun (W : World) (h : FndS w W t P P (.slice pr n c)) => by have h1 := fnd_len h; rw [hnP] at h1; exact h1)
        clear hnP
        go_wp2_with (first | (go_at_call 23; (with_reducible refine HAll.out.mono ?_); rintro e w2 ⟨q2, d2, rfl, hl2, hs2⟩; have HS2 := hid hs2; have HL2 := hid hl2; clear hs2 hl2 HAll HS) | (go_at_call 24; (with_reducible refine (HLen.out _ HS2.out).mono ?_); rintro e w3 ⟨rfl, rfl⟩))
        go_loopg [11] (n + 1) (fun gk s11 wu => ∃ k : Nat, k ≤ n ∧ gk = n - k + 1 ∧ s11 = .int .i64 (k : Int) ∧ FndS w wu t P P (.slice pr n c) ∧ LbAt wu q2 (P.map (·.1)))
        case atStart => exact ⟨0, by omega, rfl, rfl, HS2.out, HL2.out⟩
        case round =>
          clear HS2 HL2
          obtain ⟨k, hk, rfl, rfl, hS, hL⟩ := hrel
          have HS3 := hid hS
          have HL3 := hid hL
          clear hS hL
          by_cases hkn : k < n
          · obtain ⟨p, hp⟩ : ∃ p, P[k]? = some p := ⟨_, List.getElem?_eq_getElem (by rw [HNP.out]; exact hkn)⟩
            obtain ⟨g4, o4, rfl, q4, _⟩ := (OwnP.pt HS3.out.row) k p hp
            obtain ⟨g5, o5, rfl, q5⟩ := HL3.out k p.1 (by rw [List.getElem?_map, hp]; rfl)
            obtain ⟨Sp, hSp⟩ : ∃ S, str p.1 = S := ⟨_, rfl⟩
            rw [hSp] at q4 q5
            have hk2 : (k : Int) < (n : Int) := by omega
            clear hp hSp
            go_wp2
            go_quiet (fail)
            go_wp2
            go_roundg (n - (k + 1) + 1)
            case measure => omega
            case rel => exact ⟨k + 1, by omega, rfl, by push_cast; go_num, HS3.out.next (below_drewH _ _), HL3.out.next (below_drewH _ _)⟩
          · obtain rfl : n = k := by omega
            clear HL3 hkn
            go_wp2
            go_loopg [12] 51 (fun gk s12 wv => ∃ j : Nat, j ≤ nb ∧ j ≤ 50 ∧ gk = 50 - j + 1 ∧ s12 = .int .i64 (j : Int) ∧ FndS w wv t P P (.slice pr n c))
            case atStart => exact ⟨0, by omega, by omega, rfl, rfl, HS3.out⟩
            case round =>
              clear HS3
              obtain ⟨j, hj, hj2, rfl, rfl, hS⟩ := hrel
              have HS5 := hid hS
              clear hS
              by_cases hjn : j < nb ∧ j < 50
              · obtain ⟨hj3, hj4⟩ := hjn
                obtain ⟨x, hx⟩ : ∃ x, hs[j]? = some x := ⟨_, List.getElem?_eq_getElem (by rw [HNb.out]; exact hj3)⟩
                obtain ⟨g6, o6, rfl, q6⟩ := (HBh.out.next HS5.out.below) j x hx
                have hxl := HHs.out x (List.mem_of_getElem? hx)
                have HFi := hid (fnd_find HS5.out HMx.out x hxl)
                have hRF2 := fnd_rfind2 P x hxl
                have HBx := hid (fun (W : World) (h : FndS w W t P P (.slice pr n c)) => (HBh.out.next h.below) j x hx)
                have HNu := hid (fun W : World => num_any (findN P x).2 (findN_le P x) W)
                obtain ⟨Sx, hSx⟩ : ∃ S, str x = S := ⟨_, rfl⟩
                obtain ⟨V, hV⟩ : ∃ V, (findN P x).1 = V := ⟨_, rfl⟩
                obtain ⟨EV, hEV⟩ : ∃ E, errOf (findN P x).2 = E := ⟨_, rfl⟩
                obtain ⟨EK, hEK⟩ : ∃ E : Int, ((findN P x).2 : Int) = E := ⟨_, rfl⟩
                rw [hSx] at q6 HFi hRF2 HBx
                rw [hV, hEV] at HFi
                rw [hV, hEK] at hRF2
                rw [hEV, hEK] at HNu
                have hj5 : (j : Int) < (nb : Int) := by omega
                have hj6 : (j : Int) < 50 := by omega
                clear hx hxl hSx hV hEV hEK
                rcases hRF2 with ⟨rfl, hRF⟩ | ⟨p, rfl, hRF⟩
                · have HRF := hid hRF
                  clear hRF
                  go_wp2_with (first | (go_at_call 25; (with_reducible refine HFi.out.mono ?_); rintro e w6 ⟨rfl, hs6⟩; have HS6 := hid hs6; obtain ⟨g7, o7, e7, q7⟩ := HBx.out _ hs6; injection e7 with e7; injection e7 with e8 e9 _; subst e8; subst e9; clear hs6 HFi HBx HS5) | (go_at_call 26; (with_reducible refine (HRF.out w _ t pr n c HS6.out).mono ?_); rintro e w7 ⟨hs7, rfl⟩; have HS7 := hid hs7; clear hs7 HRF HS6) | (go_at_call 12; (with_reducible refine (HNu.out _).mono ?_); rintro e w8 ⟨rfl, rfl⟩))
                  go_roundg (50 - (j + 1) + 1)
                  case measure => omega
                  case rel => exact ⟨j + 1, by omega, by omega, rfl, by push_cast; go_num, HS7.out⟩
                · have HRF := hid hRF
                  clear hRF
                  go_wp2_with (first | (go_at_call 25; (with_reducible refine HFi.out.mono ?_); rintro e w6 ⟨rfl, hs6⟩; have HS6 := hid hs6; obtain ⟨g7, o7, e7, q7⟩ := HBx.out _ hs6; injection e7 with e7; injection e7 with e8 e9 _; subst e8; subst e9; clear hs6 HFi HBx HS5) | (go_at_call 26; (with_reducible refine (HRF.out w _ t pr n c HS6.out).mono ?_); rintro e w7 ⟨hs7, b, hpb, rfl⟩; have HS7 := hid hs7; obtain ⟨g8, o8, rfl, _, q8⟩ := (OwnP.pt hs7.row) b p hpb; have hbn : b < n := (by rw [← HNP.out]; exact (List.getElem?_eq_some_iff.1 hpb).1); have hb0 : (0 : Int) ≤ (b : Int) := (by omega); have hbn2 : (b : Int) < (n : Int) := (by omega); clear hs7 HRF HS6 hpb) | (go_at_call 12; (with_reducible refine (HNu.out _).mono ?_); rintro e w8 ⟨rfl, rfl⟩))
                  go_roundg (50 - (j + 1) + 1)
                  case measure => omega
                  case rel => exact ⟨j + 1, by omega, by omega, rfl, by push_cast; go_num, HS7.out⟩
              · by_cases hj3 : j < nb
                · have hj4 : ¬ (j : Int) < 50 := by omega
                  have hj5 : (j : Int) < (nb : Int) := by omega
                  clear hjn hj3
                  go_wp2_with (first | (go_at_call 25; (with_reducible refine (HF0.out _ (HMx.out.next HS5.out.below)).mono ?_); rintro e wa ⟨rfl, hb⟩; have HBa := hid (below_out HS5.out.below hb); clear hb HF0) | (go_at_call 22; first | ((with_reducible refine (HA0.out _ (HMx.out.next HBa.out)).mono ?_); rintro e wb ⟨rfl, hb⟩; have HBb := hid (below_out HBa.out hb); clear hb HA0) | ((with_reducible refine (HA1.out _ (HMx.out.next HBb.out)).mono ?_); rintro e wc ⟨rfl, hb⟩; have HBc := hid (below_out HBb.out hb); clear hb HA1)) | (go_at_call 12; first | ((with_reducible refine (HN9.out _).mono ?_); rintro e wd ⟨rfl, rfl⟩) | ((with_reducible refine (HN3.out _).mono ?_); rintro e wd ⟨rfl, rfl⟩) | ((with_reducible refine (HN8.out _).mono ?_); rintro e wd ⟨rfl, rfl⟩)) | (go_at_call 24; (with_reducible refine (HL0.out _).mono ?_); rintro e wd ⟨rfl, rfl⟩) | (go_at_call 23; (with_reducible refine (HAl0.out _).mono ?_); rintro e wd ⟨rfl, rfl⟩) | (go_at_call 15; (with_reducible refine (HW.out _ (HMx.out.next HBc.out)).mono ?_); rintro e we ⟨rfl, hb⟩; have HBe := hid (below_out HBc.out hb); clear hb HW))
                  go_ret
                  exact ⟨rfl, HBe.out⟩
                · have hj5 : ¬ (j : Int) < (nb : Int) := by omega
                  clear hjn hj3
                  go_wp2_with (first | (go_at_call 25; (with_reducible refine (HF0.out _ (HMx.out.next HS5.out.below)).mono ?_); rintro e wa ⟨rfl, hb⟩; have HBa := hid (below_out HS5.out.below hb); clear hb HF0) | (go_at_call 22; first | ((with_reducible refine (HA0.out _ (HMx.out.next HBa.out)).mono ?_); rintro e wb ⟨rfl, hb⟩; have HBb := hid (below_out HBa.out hb); clear hb HA0) | ((with_reducible refine (HA1.out _ (HMx.out.next HBb.out)).mono ?_); rintro e wc ⟨rfl, hb⟩; have HBc := hid (below_out HBb.out hb); clear hb HA1)) | (go_at_call 12; first | ((with_reducible refine (HN9.out _).mono ?_); rintro e wd ⟨rfl, rfl⟩) | ((with_reducible refine (HN3.out _).mono ?_); rintro e wd ⟨rfl, rfl⟩) | ((with_reducible refine (HN8.out _).mono ?_); rintro e wd ⟨rfl, rfl⟩)) | (go_at_call 24; (with_reducible refine (HL0.out _).mono ?_); rintro e wd ⟨rfl, rfl⟩) | (go_at_call 23; (with_reducible refine (HAl0.out _).mono ?_); rintro e wd ⟨rfl, rfl⟩) | (go_at_call 15; (with_reducible refine (HW.out _ (HMx.out.next HBc.out)).mono ?_); rintro e we ⟨rfl, hb⟩; have HBe := hid (below_out HBc.out hb); clear hb HW))
                  go_ret
                  exact ⟨rfl, HBe.out⟩
end Go.Proofs.YtkjgdfihhhdjaaaDoor
