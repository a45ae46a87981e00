/- The document's texts of path bytes and codes: paths, queries; what stands ahead of a byte. -/
import Derived.Test.YtbdbmlklijmefaaDoorRCode
namespace Go.Proofs.YtbdbmlklijmefaaDoor
open Go.RowKit

theorem made_ok {o : B} {soft : Bool} {c : UInt8} (h : (plainB c || o.contains c) = true) : ∀ l : B, made o soft (c :: l) = made o soft l
  | [] => by simp only [made]; exact h
  | [d] => by simp only [made]; rw [h]; rfl
  | a :: b :: r => by simp only [made]; rw [if_pos h]
theorem codeI_some {c a b v : UInt8} {r : B} (h : codeOf c a b = some v) : codeI (c :: a :: b :: r) = (v.toNat : Int) := by simp only [codeI, h]
theorem codeI_none {c a b : UInt8} {r : B} (h : codeOf c a b = none) : codeI (c :: a :: b :: r) = -1 := by simp only [codeI, h]
/-- The text behind a code. -/
theorem made_step {o : B} {soft : Bool} {c : UInt8} {l : B} (h : (plainB c || o.contains c) = false) : made o soft (c :: l) = if codeI (c :: l) < 0 ∨ (soft = true ∧ (codeI (c :: l) < 32 ∨ codeI (c :: l) = 127)) then false else made o soft (l.drop 2) := by
  match l with
  | [] => rw [codeI_short (by simp)]; simp only [made]; rw [h]; simp
  | [d] => rw [codeI_short (by simp)]; simp only [made]; rw [h]; simp
  | a :: b :: r =>
    rw [made, if_neg (by rw [h]; simp)]
    cases hv : codeOf c a b with
    | none => rw [codeI_none hv]; simp
    | some v =>
      rw [codeI_some hv]
      have e1 : v < 32 ↔ (v.toNat : Int) < 32 := by rw [UInt8.lt_iff_toNat_lt]; show v.toNat < 32 ↔ _; omega
      have e2 : v = 127 ↔ (v.toNat : Int) = 127 := by
        rw [← UInt8.toNat_inj]
        show v.toNat = 127 ↔ _
        omega
      simp only [List.drop_succ_cons, List.drop_zero]
      cases soft with
      | false => simp
      | true =>
        simp only [Bool.true_and, Bool.or_eq_true, decide_eq_true_eq, beq_iff_eq, e1, e2, true_and]
        by_cases q : (v.toNat : Int) < 32 ∨ (v.toNat : Int) = 127
        · rw [if_pos q, if_pos (.inr q)]
        · rw [if_neg q, if_neg (by rintro (z | z); exact absurd z (by omega); exact q z)]
theorem below_drew {Bd : Nat} {a w : World} (h : Below Bd a w) : ∀ q, Below Bd a (w.drewN q) := fun _ => ⟨h.os, h.tape, h.output, h.size, h.block⟩
theorem code_long {c : UInt8} {l : B} (h : 0 ≤ codeI (c :: l)) : 2 ≤ l.length := by
  rcases Nat.lt_or_ge l.length 2 with q | q
  · rw [codeI_short (by simp; omega)] at h
    omega
  · exact q
set_option maxRecDepth 20000 in
set_option maxHeartbeats 8000000 in
theorem made_any (s o : B) (soft : Bool) (hs : s.length ≤ 35184372088832) (ho : o.length ≤ 1048576) (w : World) : Calls Tryd.prog 64 #[.string (str s), .string (str o), .bool soft] w fun e w' => e = .returned (.bool (made o soft s)) ∧ Below w.heap.size w w' := by
  obtain ⟨n, hn⟩ : ∃ n, s.length = n := ⟨_, rfl⟩
  have HN := hid hn
  obtain ⟨S, hS⟩ : ∃ S, str s = S := ⟨_, rfl⟩
  have hSn : S.size = n := by rw [← hS, str_size, hn]
  have HByte := hid (show ∀ (k : Nat) (h : k < s.length) (h2 : k < S.size), S[k]'h2 = s[k]'h from fun k h h2 => by subst hS; rfl)
  obtain ⟨R, hR⟩ : ∃ R, made o soft s = R := ⟨_, rfl⟩
  have HR := hid hR
  have HCo := hid (show ∀ i, i ≤ n → ∀ w, _ from fun i hi => code_any s i (by omega) (by omega))
  have HAm := hid (show ∀ c w, _ from fun c => among_any c o (by omega))
  obtain ⟨O, hO⟩ : ∃ O, str o = O := ⟨_, rfl⟩
  rw [hS] at HCo
  rw [hO] at HAm
  rw [hn] at hs
  rw [hS, hO, hR]
  clear hn hS hR hO ho
  go_enter Tryd.func64, Tryd.ntmps64
  go_wp2
  go_loopg [7] (n + 1) (fun gk s7 wr => ∃ i : Nat, i ≤ n ∧ gk = n - i + 1 ∧ s7 = .int .i64 (i : Int) ∧ made o soft (s.drop i) = R ∧ Below w.heap.size w wr)
  case atStart => exact ⟨0, by omega, rfl, rfl, HR.out, Below.refl _ _⟩
  case round =>
    obtain ⟨i, hi, rfl, rfl, hm, hb⟩ := hrel
    have HM := hid hm
    have HB := hid hb
    clear hm hb
    by_cases hin : i < n
    · have hi1 : i < s.length := by rw [HN.out]; exact hin
      obtain ⟨c, hc⟩ : ∃ c, s[i] = c := ⟨_, rfl⟩
      have hbyte : ∀ h : i < S.size, (S[i]'h) = c := fun h => by rw [HByte.out i hi1 h, hc]
      have HD := hid (show s.drop i = c :: s.drop (i + 1) from by rw [List.drop_eq_getElem_cons hi1, hc])
      have HPl := hid (plain_any c)
      have HAc := hid (HAm.out c)
      rw [HD.out] at HM
      clear hc hi1
      cases hp : plainB c with
      | true =>
        have HNx := hid (show made o soft (s.drop (i + 1)) = R from by rw [← HM.out, made_ok (by rw [hp]; rfl)])
        rw [hp] at HPl
        clear hp
        go_wp2_with (go_at_call 82; (with_reducible refine (HPl.out _).mono ?_); rintro e w1 ⟨rfl, rfl⟩)
        go_roundg (n - (i + 1) + 1)
        case measure => omega
        case rel => exact ⟨i + 1, by omega, rfl, by push_cast; rfl, HNx.out, HB.out⟩
      | false =>
        rw [hp] at HPl
        cases hq : o.contains c with
        | true =>
          have HNx := hid (show made o soft (s.drop (i + 1)) = R from by rw [← HM.out, made_ok (by rw [hp, hq]; rfl)])
          rw [hq] at HAc
          clear hp hq
          go_wp2_with (first | (go_at_call 82; (with_reducible refine (HPl.out _).mono ?_); rintro e w1 ⟨rfl, rfl⟩) | (go_at_call 33; (with_reducible refine (HAc.out _).mono ?_); rintro e w1 ⟨rfl, rfl⟩))
          go_roundg (n - (i + 1) + 1)
          case measure => omega
          case rel => exact ⟨i + 1, by omega, rfl, by push_cast; rfl, HNx.out, HB.out⟩
        | false =>
          rw [hq] at HAc
          have HSt := hid (show R = if codeI (s.drop i) < 0 ∨ (soft = true ∧ (codeI (s.drop i) < 32 ∨ codeI (s.drop i) = 127)) then false else made o soft (s.drop (i + 3)) from by
            rw [HD.out, ← HM.out, made_step (by rw [hp, hq]; rfl)]
            rw [List.drop_drop])
          have HLg := hid (show 0 ≤ codeI (s.drop i) → i + 3 ≤ n from fun h => by
            rw [HD.out] at h
            have := code_long h
            rw [List.length_drop, HN.out] at this
            omega)
          have HCi := hid (HCo.out i (by omega))
          have hbd := codeI_bd (s.drop i)
          obtain ⟨V, hV⟩ : ∃ V, codeI (s.drop i) = V := ⟨_, rfl⟩
          rw [hV] at HSt HLg HCi hbd
          clear hp hq hV
          by_cases hneg : V < 0
          · have HF := hid (show R = false from by rw [HSt.out, if_pos (.inl hneg)])
            go_wp2_with (first | (go_at_call 82; (with_reducible refine (HPl.out _).mono ?_); rintro e w1 ⟨rfl, rfl⟩) | (go_at_call 33; (with_reducible refine (HAc.out _).mono ?_); rintro e w1 ⟨rfl, rfl⟩) | (go_at_call 46; (with_reducible refine (HCi.out _).mono ?_); rintro e w1 ⟨rfl, q, rfl⟩))
            go_ret
            rw [HF.out]
            exact ⟨rfl, below_drew HB.out _⟩
          · have hi3 : i + 3 ≤ n := HLg.out (by omega)
            cases soft with
            | false =>
              have HNx := hid (show made o false (s.drop (i + 3)) = R from by rw [HSt.out, if_neg (by simp; omega)])
              go_wp2_with (first | (go_at_call 82; (with_reducible refine (HPl.out _).mono ?_); rintro e w1 ⟨rfl, rfl⟩) | (go_at_call 33; (with_reducible refine (HAc.out _).mono ?_); rintro e w1 ⟨rfl, rfl⟩) | (go_at_call 46; (with_reducible refine (HCi.out _).mono ?_); rintro e w1 ⟨rfl, q, rfl⟩))
              go_roundg (n - (i + 3) + 1)
              case measure => omega
              case rel => exact ⟨i + 3, by omega, rfl, by push_cast; go_num, HNx.out, below_drew HB.out _⟩
            | true =>
              by_cases h32 : V < 32
              · have HF := hid (show R = false from by rw [HSt.out, if_pos (.inr ⟨rfl, .inl h32⟩)])
                go_wp2_with (first | (go_at_call 82; (with_reducible refine (HPl.out _).mono ?_); rintro e w1 ⟨rfl, rfl⟩) | (go_at_call 33; (with_reducible refine (HAc.out _).mono ?_); rintro e w1 ⟨rfl, rfl⟩) | (go_at_call 46; (with_reducible refine (HCi.out _).mono ?_); rintro e w1 ⟨rfl, q, rfl⟩))
                go_ret
                rw [HF.out]
                exact ⟨rfl, below_drew HB.out _⟩
              · by_cases h127 : V = 127
                · have HF := hid (show R = false from by rw [HSt.out, if_pos (.inr ⟨rfl, .inr h127⟩)])
                  subst h127
                  go_wp2_with (first | (go_at_call 82; (with_reducible refine (HPl.out _).mono ?_); rintro e w1 ⟨rfl, rfl⟩) | (go_at_call 33; (with_reducible refine (HAc.out _).mono ?_); rintro e w1 ⟨rfl, rfl⟩) | (go_at_call 46; (with_reducible refine (HCi.out _).mono ?_); rintro e w1 ⟨rfl, q, rfl⟩))
                  go_ret
                  rw [HF.out]
                  exact ⟨rfl, below_drew HB.out _⟩
                · have HNx := hid (show made o true (s.drop (i + 3)) = R from by rw [HSt.out, if_neg (by simp; omega)])
                  have h127b : (V == 127) = false := by simpa using h127
                  go_wp2_with (first | (go_at_call 82; (with_reducible refine (HPl.out _).mono ?_); rintro e w1 ⟨rfl, rfl⟩) | (go_at_call 33; (with_reducible refine (HAc.out _).mono ?_); rintro e w1 ⟨rfl, rfl⟩) | (go_at_call 46; (with_reducible refine (HCi.out _).mono ?_); rintro e w1 ⟨rfl, q, rfl⟩))
                  go_roundg (n - (i + 3) + 1)
                  case measure => omega
                  case rel => exact ⟨i + 3, by omega, rfl, by push_cast; go_num, HNx.out, below_drew HB.out _⟩
    · obtain rfl : n = i := by omega
      have HT := hid (show R = true from by rw [← HM.out, List.drop_of_length_le (by rw [HN.out]; exact Nat.le_refl _)]; rfl)
      go_wp2
      go_ret
      rw [HT.out]
      exact ⟨rfl, HB.out⟩
end Go.Proofs.YtbdbmlklijmefaaDoor
