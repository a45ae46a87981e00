/- The document's bytes: letters, unreserved and path bytes, digits. -/
import Derived.Test.YtbdbmlklijmefaaDoorPPlain
import Derived.Test.YtbdbmlklijmefaaDoorProg
import Derived.WalkKit
import Derived.WalkSpells
import Derived.WalkLawsBesides
import Derived.Lib.Strings
import Derived.Deep.QuietTactic
import Derived.BigQuiet
import Derived.Laws.Tables
import Derived.Laws.Rows
import Derived.Laws.BytesArg
import Derived.Laws.ResultCell
import Derived.OwnWalk
import Derived.Deep.LoopGhost
import Derived.Deep.RegionHeld3
namespace Go.Proofs.YtbdbmlklijmefaaDoor
open Go.RowKit

theorem hid {p : Prop} (h : p) : Hid p := h
abbrev str (t : B) : ByteArray := ⟨t.toArray⟩
theorem str_size (t : B) : (str t).size = t.length := by simp [ByteArray.size]
/-- A byte in memory. -/
abbrev byteV (c : UInt8) : Value := .int .u8 (c.toNat : Int)
theorem ret_bool {a b : Bool} (h : a = b) : Ending.returned (.bool a) = .returned (.bool b) := by rw [h]
theorem letter_int (c : UInt8) : letterB c = decide ((97 ≤ (c.toNat : Int) ∧ (c.toNat : Int) ≤ 122) ∨ (65 ≤ (c.toNat : Int) ∧ (c.toNat : Int) ≤ 90) ∨ (48 ≤ (c.toNat : Int) ∧ (c.toNat : Int) ≤ 57)) := by
  unfold letterB
  rw [Bool.eq_iff_iff]
  simp only [Bool.or_eq_true, decide_eq_true_eq, UInt8.le_iff_toNat_le]
  simp
  omega
set_option maxHeartbeats 400000 in
theorem letter_any (c : UInt8) (w : World) : Calls Tryd.prog 32 #[byteV c] w fun e w' => e = .returned (.bool (letterB c)) ∧ w' = w := by
  rw [letter_int]
  have h1 : c.toNat < 256 := c.toNat_lt
  obtain ⟨X, hX⟩ : ∃ X, c.toNat = X := ⟨_, rfl⟩
  unfold byteV
  rw [hX] at h1 ⊢
  clear hX
  go_enter Tryd.func32, Tryd.ntmps32
  go_wp2
  all_goals
    go_ret
    exact ⟨ret_bool (by first | rfl | (rw [Bool.eq_iff_iff]; first | omega | (simp; omega) | simp)), rfl⟩
theorem con_take {s : B} {c : UInt8} {i : Nat} (h : i < s.length) : (s.take (i + 1)).contains c = ((s.take i).contains c || s[i] == c) := by
  rw [List.take_add_one, List.getElem?_eq_getElem h]
  simp only [Option.toList_some, List.contains_eq_any_beq, List.any_append, List.any_cons, List.any_nil, Bool.or_false]
  congr 1
  exact Bool.eq_iff_iff.2 ⟨fun h => by rw [beq_iff_eq] at h ⊢; exact h.symm, fun h => by rw [beq_iff_eq] at h ⊢; exact h.symm⟩
set_option maxHeartbeats 2000000 in
theorem among_any (c : UInt8) (s : B) (hs : s.length ≤ 70368744177664) (w : World) : Calls Tryd.prog 33 #[byteV c, .string (str s)] w fun e w' => e = .returned (.bool (s.contains c)) ∧ w' = w := by
  have h1 : c.toNat < 256 := c.toNat_lt
  obtain ⟨n, hn⟩ : ∃ n, s.length = n := ⟨_, rfl⟩
  have HN := hid hn
  obtain ⟨S, hS⟩ : ∃ S, str s = S := ⟨_, rfl⟩
  have hSn : S.size = n := by rw [← hS, str_size, hn]
  have HByte := hid (show ∀ (k : Nat) (h : k < s.length) (h2 : k < S.size), S[k]'h2 = s[k]'h from fun k h h2 => by subst hS; rfl)
  have HS := hid hS
  obtain ⟨R, hR⟩ : ∃ R, s.contains c = R := ⟨_, rfl⟩
  have HR := hid hR
  rw [hn] at hs
  rw [hS, hR]
  clear hn hS hR
  go_enter Tryd.func33, Tryd.ntmps33
  go_wp2
  go_loopg [5] (n + 1) (fun gk s5 wr => ∃ i : Nat, i ≤ n ∧ gk = n - i + 1 ∧ s5 = .int .i64 (i : Int) ∧ (s.take i).contains c = false ∧ wr = w)
  case atStart => exact ⟨0, by omega, rfl, rfl, rfl, rfl⟩
  case round =>
    obtain ⟨i, hi, rfl, rfl, hcon, rfl⟩ := hrel
    have HCo := hid hcon
    clear hcon
    by_cases hin : i < n
    · have hi1 : i < s.length := by rw [HN.out]; exact hin
      obtain ⟨y, hy⟩ : ∃ y, s[i] = y := ⟨_, rfl⟩
      have hbyte : ∀ h : i < S.size, (S[i]'h) = y := fun h => by rw [HByte.out i hi1 h, hy]
      have HSt := hid (con_take (c := c) hi1)
      rw [hy, HCo.out, Bool.false_or] at HSt
      have HMem := hid (show y = c → R = true from fun e => by rw [← HR.out, ← e, ← hy]; simp)
      clear hy hi1
      by_cases hyc : y = c
      · have HT := hid (HMem.out hyc)
        subst hyc
        go_wp2
        go_ret
        rw [HT.out]
        exact ⟨rfl, rfl⟩
      · have hb1 : (y == c) = false := by simpa using hyc
        rw [hb1] at HSt
        have hb2 : ((y.toNat : Int) == (c.toNat : Int)) = false := by
          simp only [beq_eq_false_iff_ne, ne_eq]
          intro e
          exact hyc (UInt8.toNat_inj.1 (by omega))
        have hb3 : ¬ (y.toNat : Int) = (c.toNat : Int) := by simpa using hb2
        clear hb1 hyc
        go_wp2
        go_roundg (n - (i + 1) + 1)
        case measure => omega
        case rel => exact ⟨i + 1, by omega, rfl, by push_cast; rfl, HSt.out, rfl⟩
    · obtain rfl : n = i := by omega
      have HT := hid (show R = false from by rw [← HR.out]; have := HCo.out; rw [List.take_of_length_le (by rw [HN.out]; exact Nat.le_refl _)] at this; exact this)
      go_wp2
      go_ret
      rw [HT.out]
      exact ⟨rfl, rfl⟩
theorem unres_any (c : UInt8) (w : World) : Calls Tryd.prog 27 #[byteV c] w fun e w' => e = .returned (.bool (unres c)) ∧ w' = w := by
  have HL := hid (letter_any c)
  have HA := hid (among_any c [45, 46, 95, 126] (by decide))
  have e0 : unres c = (letterB c || ([45, 46, 95, 126] : B).contains c) := rfl
  rw [e0]
  obtain ⟨l, hl⟩ : ∃ l, letterB c = l := ⟨_, rfl⟩
  obtain ⟨m, hm⟩ : ∃ m, ([45, 46, 95, 126] : B).contains c = m := ⟨_, rfl⟩
  rw [hl] at HL
  rw [hm] at HA
  rw [hl, hm]
  obtain ⟨V, hV⟩ : ∃ V, byteV c = V := ⟨_, rfl⟩
  rw [hV] at HL HA ⊢
  clear hl hm hV e0
  cases l with
  | true =>
    go_enter Tryd.func27, Tryd.ntmps27
    go_wp2_with (go_at_call 32; (with_reducible refine (HL.out _).mono ?_); rintro e w1 ⟨rfl, rfl⟩)
    go_ret
    exact ⟨rfl, rfl⟩
  | false =>
    go_enter Tryd.func27, Tryd.ntmps27
    go_wp2_with (first | (go_at_call 32; (with_reducible refine (HL.out _).mono ?_); rintro e w1 ⟨rfl, rfl⟩) | (go_at_call 33; (with_reducible refine (HA.out _).mono ?_); rintro e w2 ⟨rfl, rfl⟩))
    go_ret
    exact ⟨rfl, rfl⟩
theorem plain_any (c : UInt8) (w : World) : Calls Tryd.prog 82 #[byteV c] w fun e w' => e = .returned (.bool (plainB c)) ∧ w' = w := by
  have HL := hid (unres_any c)
  have HA := hid (among_any c [33, 36, 38, 39, 40, 41, 42, 43, 44, 59, 61, 58, 64] (by decide))
  have e0 : plainB c = (unres c || ([33, 36, 38, 39, 40, 41, 42, 43, 44, 59, 61, 58, 64] : B).contains c) := rfl
  rw [e0]
  obtain ⟨l, hl⟩ : ∃ l, unres c = l := ⟨_, rfl⟩
  obtain ⟨m, hm⟩ : ∃ m, ([33, 36, 38, 39, 40, 41, 42, 43, 44, 59, 61, 58, 64] : B).contains c = m := ⟨_, rfl⟩
  rw [hl] at HL
  rw [hm] at HA
  rw [hl, hm]
  obtain ⟨V, hV⟩ : ∃ V, byteV c = V := ⟨_, rfl⟩
  rw [hV] at HL HA ⊢
  clear hl hm hV e0
  cases l with
  | true =>
    go_enter Tryd.func82, Tryd.ntmps82
    go_wp2_with (go_at_call 27; (with_reducible refine (HL.out _).mono ?_); rintro e w1 ⟨rfl, rfl⟩)
    go_ret
    exact ⟨rfl, rfl⟩
  | false =>
    go_enter Tryd.func82, Tryd.ntmps82
    go_wp2_with (first | (go_at_call 27; (with_reducible refine (HL.out _).mono ?_); rintro e w1 ⟨rfl, rfl⟩) | (go_at_call 33; (with_reducible refine (HA.out _).mono ?_); rintro e w2 ⟨rfl, rfl⟩))
    go_ret
    exact ⟨rfl, rfl⟩
end Go.Proofs.YtbdbmlklijmefaaDoor
