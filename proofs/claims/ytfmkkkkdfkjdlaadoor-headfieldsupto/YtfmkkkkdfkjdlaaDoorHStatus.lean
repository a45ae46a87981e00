/- The document's status line, begun or whole. -/
import Derived.Test.YtfmkkkkdfkjdlaaDoorHBegin
namespace Go.Proofs.YtfmkkkkdfkjdlaaDoor
open Go.RowKit

def okD (i : Nat) (c : UInt8) : Bool := digB (c.toNat : Int) && !(decide (i = 9) && (decide (c.toNat = 48) || decide (53 < c.toNat)))
def okB (s : B) : Bool := [9, 10, 11].all fun i => (s[i]?.map (okD i)).getD true
theorem okB_no {s : B} {i : Nat} {c : UInt8} (h1 : 9 ≤ i) (h2 : i < 12) (hc : s[i]? = some c) (h : okD i c = false) : okB s = false := by
  unfold okB
  rw [List.all_eq_false]
  refine ⟨i, by simp; omega, ?_⟩
  rw [hc]
  simp [h]
theorem okB_yes {s : B} (h : ∀ i, 9 ≤ i → i < 12 → ∀ c, s[i]? = some c → okD i c = true) : okB s = true := by
  unfold okB
  rw [List.all_eq_true]
  intro i hi
  have hi2 : 9 ≤ i ∧ i < 12 := by simp at hi; omega
  cases e : s[i]? with
  | none => rfl
  | some c => exact h i hi2.1 hi2.2 c e
def statusB (s : B) (whole : Bool) : Bool := if s.length ≤ 8 then !whole && beginsB s false else if beginsB (s.take 8) true = false ∨ s[8]? ≠ some 32 then false else if okB s = false then false else if s.length < 13 then !whole else decide (s[12]? = some 32) && allB 2 (s.drop 13)
set_option maxRecDepth 20000 in
set_option maxHeartbeats 8000000 in
theorem status_any (s : B) (wh : Bool) (hs : s.length ≤ 70368744177664) (w : World) : Calls Tryd.prog 77 #[.string (str s), .bool wh] w fun e w' => e = .returned (.bool (statusB s wh)) ∧ w' = w := by
  obtain ⟨n, hn⟩ : ∃ n, s.length = n := ⟨_, rfl⟩
  have HN := hid hn
  have HEx := hid (ext_str s)
  obtain ⟨S, hS⟩ : ∃ S, str s = S := ⟨_, rfl⟩
  have hSn : S.size = n := by rw [← hS, str_size, hn]
  have HByte := hid (show ∀ (k : Nat) (h : k < s.length) (h2 : k < S.size), S[k]'h2 = s[k]'h from fun k h h2 => by subst hS; rfl)
  obtain ⟨R, hR⟩ : ∃ R, statusB s wh = R := ⟨_, rfl⟩
  have HR := hid hR
  have HBs := hid (begins_any s false hs)
  have HBt := hid (begins_any (s.take 8) true (by rw [List.length_take]; omega))
  have HAt := hid (all_any2 (s.drop 13) (by rw [List.length_drop]; omega))
  rw [hS] at HBs HEx
  rw [hn] at hs
  rw [hS, hR]
  clear hn hS hR
  go_enter Tryd.func77, Tryd.ntmps77
  by_cases h8 : n ≤ 8
  · have h82 : (n : Int) ≤ 8 := by omega
    obtain ⟨b, hb⟩ : ∃ b, beginsB s false = b := ⟨_, rfl⟩
    have HV := hid (show R = (!wh && b) from by rw [← HR.out]; unfold statusB; rw [if_pos (by rw [HN.out]; exact h8), hb])
    rw [hb] at HBs
    clear hb
    cases wh with
    | true =>
      go_wp2
      go_ret
      exact ⟨by rw [HV.out]; rfl, rfl⟩
    | false =>
      go_wp2_with (first | (go_at_call 86; (with_reducible refine (HBs.out _).mono ?_); rintro e w1 ⟨rfl, hw1⟩; subst w1))
      go_ret
      exact ⟨by rw [HV.out]; rfl, rfl⟩
  · have h83 : 8 < n := by omega
    have h84 : ¬ (n : Int) ≤ 8 := by omega
    have h85 : (8 : Int) < (n : Int) := by omega
    have HR1 := hid (show R = if beginsB (s.take 8) true = false ∨ s[8]? ≠ some 32 then false else if okB s = false then false else if n < 13 then !wh else decide (s[12]? = some 32) && allB 2 (s.drop 13) from by
      rw [← HR.out]; unfold statusB; rw [if_neg (by rw [HN.out]; exact h8), HN.out])
    clear h8
    have hx1 : S.extract 0 8 = str (s.take 8) := by rw [HEx.out]; simp
    rw [← hx1] at HBt
    clear hx1
    obtain ⟨b, hb⟩ : ∃ b, beginsB (s.take 8) true = b := ⟨_, rfl⟩
    rw [hb] at HBt HR1
    clear hb
    cases b with
    | false =>
      have HV := hid (show R = false from by rw [HR1.out, if_pos (.inl rfl)])
      go_wp2_with (first | (go_at_call 86; (with_reducible refine (HBt.out _).mono ?_); rintro e w1 ⟨rfl, hw1⟩; subst w1))
      go_ret
      exact ⟨by rw [HV.out]; rfl, rfl⟩
    | true =>
      have h8l : 8 < s.length := by rw [HN.out]; exact h83
      obtain ⟨y, hy⟩ : ∃ y, s[8] = y := ⟨_, rfl⟩
      have hbyte : ∀ h : 8 < S.size, (S[8]'h).toNat = y.toNat := fun h => by rw [HByte.out 8 h8l h, hy]
      have HI := hid (show s[8]? = some y from by rw [List.getElem?_eq_getElem h8l, hy])
      clear hy h8l
      by_cases hy : y = 32
      · subst hy
        have hbyte2 : ∀ h : 8 < S.size, ((S[8]'h).toNat : Int) = 32 := fun h => by rw [hbyte h]; rfl
        have HR2 := hid (show R = if okB s = false then false else if n < 13 then !wh else decide (s[12]? = some 32) && allB 2 (s.drop 13) from by
          rw [HR1.out, if_neg (by rw [HI.out]; simp)])
        clear hbyte
        go_wp2_with (first | (go_at_call 86; (with_reducible refine (HBt.out _).mono ?_); rintro e w1 ⟨rfl, hw1⟩; subst w1))
        go_loopg [5] 4 (fun gk s5 wr => ∃ i : Nat, 9 ≤ i ∧ i ≤ 12 ∧ i ≤ n ∧ gk = 12 - i + 1 ∧ s5 = .int .i64 (i : Int) ∧ (∀ j, 9 ≤ j → j < i → ∀ c, s[j]? = some c → okD j c = true) ∧ wr = w)
        case atStart => exact ⟨9, by omega, by omega, by omega, rfl, rfl, fun j h1 h2 => by omega, rfl⟩
        case round =>
          obtain ⟨i, h9, h12, hi, rfl, rfl, hno, rfl⟩ := hrel
          have HNo := hid hno
          clear hno hbyte2
          by_cases hin : i < n
          · have hin2 : (i : Int) < (n : Int) := by omega
            have hi1 : i < s.length := by rw [HN.out]; exact hin
            by_cases hit : i < 12
            · have hit2 : (i : Int) < 12 := by omega
              obtain ⟨y, hy⟩ : ∃ y, s[i] = y := ⟨_, rfl⟩
              have hbyte : ∀ h : i < S.size, (S[i]'h).toNat = y.toNat := fun h => by rw [HByte.out i hi1 h, hy]
              have HIi := hid (show s[i]? = some y from by rw [List.getElem?_eq_getElem hi1, hy])
              have hy0 : (0 : Int) ≤ (y.toNat : Int) := by omega
              have hy1 : (y.toNat : Int) ≤ 255 := by have := y.toNat_lt; omega
              have HDg := hid (show ∀ w, _ from fun w => rdigit_any (y.toNat : Int) w hy0 hy1)
              have HBad := hid (show okD i y = false → R = false from fun h => by rw [HR2.out, if_pos (okB_no h9 hit HIi.out h)])
              have HGood := hid (show okD i y = true → ∀ j, 9 ≤ j → j < i + 1 → ∀ c, s[j]? = some c → okD j c = true from fun h j h1 h2 c hc => by
                by_cases hj : j = i
                · subst hj; rw [HIi.out] at hc; cases hc; exact h
                · exact HNo.out j h1 (by omega) c hc)
              obtain ⟨b, hb⟩ : ∃ b, digB (y.toNat : Int) = b := ⟨_, rfl⟩
              have HOk := hid (show okD i y = (b && !(decide (i = 9) && (decide (y.toNat = 48) || decide (53 < y.toNat)))) from by unfold okD; rw [hb])
              rw [hb] at HDg
              clear hb hy hi1
              cases b with
              | false =>
                have HV := hid (HBad.out (by rw [HOk.out]; rfl))
                go_wp2_with (first | (go_at_call 81; (with_reducible refine (HDg.out _).mono ?_); rintro e w1 ⟨rfl, hw1⟩; subst w1))
                go_ret
                exact ⟨by rw [HV.out]; rfl, rfl⟩
              | true =>
                by_cases e9 : i = 9
                · subst e9
                  by_cases z0 : y.toNat = 48
                  · have z1 : (y.toNat : Int) = 48 := by omega
                    have HV := hid (HBad.out (by rw [HOk.out]; simp [z0]))
                    rw [z1] at HDg
                    go_wp2_with (first | (go_at_call 81; (with_reducible refine (HDg.out _).mono ?_); rintro e w1 ⟨rfl, hw1⟩; subst w1))
                    go_ret
                    exact ⟨by rw [HV.out]; rfl, rfl⟩
                  · have z1 : ¬ (y.toNat : Int) = 48 := by omega
                    have z2 : ((y.toNat : Int) == 48) = false := by simpa using z1
                    by_cases z3 : 53 < y.toNat
                    · have z4 : (53 : Int) < (y.toNat : Int) := by omega
                      have HV := hid (HBad.out (by rw [HOk.out]; simp [z3]))
                      go_wp2_with (first | (go_at_call 81; (with_reducible refine (HDg.out _).mono ?_); rintro e w1 ⟨rfl, hw1⟩; subst w1))
                      go_ret
                      exact ⟨by rw [HV.out]; rfl, rfl⟩
                    · have z4 : ¬ (53 : Int) < (y.toNat : Int) := by omega
                      have HNx := hid (HGood.out (by rw [HOk.out]; simp [z0, z3]))
                      go_wp2_with (first | (go_at_call 81; (with_reducible refine (HDg.out _).mono ?_); rintro e w1 ⟨rfl, hw1⟩; subst w1))
                      go_roundg (12 - (9 + 1) + 1)
                      case measure => omega
                      case rel => exact ⟨9 + 1, by omega, by omega, by omega, rfl, by push_cast; rfl, HNx.out, rfl⟩
                · have z1 : ¬ (i : Int) = 9 := by omega
                  have z2 : ((i : Int) == 9) = false := by simpa using z1
                  have HNx := hid (HGood.out (by rw [HOk.out]; simp [e9]))
                  go_wp2_with (first | (go_at_call 81; (with_reducible refine (HDg.out _).mono ?_); rintro e w1 ⟨rfl, hw1⟩; subst w1))
                  go_roundg (12 - (i + 1) + 1)
                  case measure => omega
                  case rel => exact ⟨i + 1, by omega, by omega, by omega, rfl, by push_cast; rfl, HNx.out, rfl⟩
            · obtain rfl : i = 12 := by omega
              obtain ⟨y, hy⟩ : ∃ y, s[12] = y := ⟨_, rfl⟩
              have hbyte : ∀ h : 12 < S.size, (S[12]'h).toNat = y.toNat := fun h => by rw [HByte.out 12 hi1 h, hy]
              have HIi := hid (show s[12]? = some y from by rw [List.getElem?_eq_getElem hi1, hy])
              have HV0 := hid (show R = (decide (s[12]? = some 32) && allB 2 (s.drop 13)) from by
                rw [HR2.out, if_neg (by rw [okB_yes HNo.out]; simp), if_neg (by omega)])
              have hx2 : S.extract 13 n = str (s.drop 13) := by
                rw [HEx.out]
                congr 2
                exact List.take_of_length_le (by rw [List.length_drop, HN.out]; exact Nat.le_refl _)
              rw [← hx2] at HAt
              obtain ⟨b, hb⟩ : ∃ b, allB 2 (s.drop 13) = b := ⟨_, rfl⟩
              rw [hb] at HAt HV0
              clear hb hx2 hy hi1
              have h13 : ¬ (n : Int) < 13 := by omega
              have h14 : 13 ≤ n := by omega
              by_cases hy : y = 32
              · subst hy
                have hbyte2 : ∀ h : 12 < S.size, ((S[12]'h).toNat : Int) = 32 := fun h => by rw [hbyte h]; rfl
                have HV := hid (show R = b from by rw [HV0.out, HIi.out]; simp)
                clear hbyte
                go_wp2_with (first | (go_at_call 85; (with_reducible refine (HAt.out _).mono ?_); rintro e w1 ⟨rfl, hw1⟩; subst w1))
                go_ret
                exact ⟨by rw [HV.out]; rfl, rfl⟩
              · have z1 : ¬ (y.toNat : Int) = 32 := fun e => hy (UInt8.toNat_inj.1 (by show y.toNat = 32; omega))
                have z2 : ((y.toNat : Int) == 32) = false := by simpa using z1
                have HV := hid (show R = false from by rw [HV0.out, HIi.out]; simp [hy])
                clear hy
                go_wp2
                go_ret
                exact ⟨by rw [HV.out]; rfl, rfl⟩
          · obtain rfl : n = i := by omega
            have HV := hid (show R = !wh from by
              rw [HR2.out, if_neg (by rw [okB_yes (fun j h1 h2 c hc => HNo.out j h1 (by have := (List.getElem?_eq_some_iff.1 hc).1; rw [HN.out] at this; omega) c hc)]; simp), if_pos (by omega)])
            have h13 : (n : Int) < 13 := by omega
            go_wp2
            go_ret
            exact ⟨by rw [HV.out]; rfl, rfl⟩
      · have z1 : ¬ (y.toNat : Int) = 32 := fun e => hy (UInt8.toNat_inj.1 (by show y.toNat = 32; omega))
        have z2 : ((y.toNat : Int) != 32) = true := by simpa using z1
        have HV := hid (show R = false from by rw [HR1.out, if_pos (.inr (by rw [HI.out]; simpa using hy))])
        clear hy
        go_wp2_with (first | (go_at_call 86; (with_reducible refine (HBt.out _).mono ?_); rintro e w1 ⟨rfl, hw1⟩; subst w1))
        go_ret
        exact ⟨by rw [HV.out]; rfl, rfl⟩
end Go.Proofs.YtfmkkkkdfkjdlaaDoor
