/- The classes of bytes of package chars, and the document's: each call returns the plain function's answer and leaves the world as it was; for every byte. -/
import Derived.Test.YtnlmjlfoeodleaaGreatDoorBase
import Derived.Test.YtnlmjlfoeodleaaGreatDoorShelf
namespace Go.Proofs.YtnlmjlfoeodleaaGreatDoor
open Go.RowKit

def digB (c : Int) : Bool := decide (48 ≤ c ∧ c ≤ 57)
def letB (c : Int) : Bool := decide ((97 ≤ c ∧ c ≤ 122) ∨ (65 ≤ c ∧ c ≤ 90))
def othB (c : Int) : Bool := decide (c = 33 ∨ c = 35 ∨ c = 36 ∨ c = 37 ∨ c = 38 ∨ c = 39 ∨ c = 42 ∨ c = 43 ∨ c = 45 ∨ c = 46 ∨ c = 94 ∨ c = 95 ∨ c = 96 ∨ c = 124 ∨ c = 126)
def tokB (c : Int) : Bool := othB c || letB c || digB c
def valB (c : Int) : Bool := decide (c = 9 ∨ (32 ≤ c ∧ c ≠ 127))
def visB (c : Int) : Bool := decide (33 ≤ c ∧ c ≤ 126)
def hexB (c : Int) : Bool := decide ((48 ≤ c ∧ c ≤ 57) ∨ (97 ≤ c ∧ c ≤ 102) ∨ (65 ≤ c ∧ c ≤ 70))
def hexV (c : Int) : Int := if 48 ≤ c ∧ c ≤ 57 then c - 48 else if 97 ≤ c ∧ c ≤ 102 then c - 87 else if 65 ≤ c ∧ c ≤ 70 then c - 55 else 0



set_option maxHeartbeats 400000 in
theorem digit_any (c : Int) (w : World) (h0 : 0 ≤ c) (h1 : c ≤ 255) :
    Calls Tryz.prog 140 #[.int .u8 c] w fun e w' => e = .returned (.bool (digB c)) ∧ w' = w := by
  go_enter Tryz.func140, Tryz.ntmps140
  go_wp2
  all_goals
    go_ret
    exact ⟨ret_bool (by rw [Bool.eq_iff_iff]; simp [digB]; try omega), rfl⟩

set_option maxHeartbeats 400000 in
theorem rdigit_any (c : Int) (w : World) (h0 : 0 ≤ c) (h1 : c ≤ 255) :
    Calls Tryz.prog 102 #[.int .u8 c] w fun e w' => e = .returned (.bool (digB c)) ∧ w' = w := by
  go_enter Tryz.func102, Tryz.ntmps102
  go_wp2
  all_goals
    go_ret
    exact ⟨ret_bool (by rw [Bool.eq_iff_iff]; simp [digB]; try omega), rfl⟩

set_option maxHeartbeats 400000 in
theorem value_any (c : Int) (w : World) (h0 : 0 ≤ c) (h1 : c ≤ 255) :
    Calls Tryz.prog 101 #[.int .u8 c] w fun e w' => e = .returned (.bool (valB c)) ∧ w' = w := by
  go_enter Tryz.func101, Tryz.ntmps101
  go_wp2
  all_goals
    go_ret
    exact ⟨ret_bool (by rw [Bool.eq_iff_iff]; simp [valB]; try omega), rfl⟩

set_option maxHeartbeats 400000 in
theorem visible_any (c : Int) (w : World) (h0 : 0 ≤ c) (h1 : c ≤ 255) :
    Calls Tryz.prog 121 #[.int .u8 c] w fun e w' => e = .returned (.bool (visB c)) ∧ w' = w := by
  go_enter Tryz.func121, Tryz.ntmps121
  go_wp2
  all_goals
    go_ret
    exact ⟨ret_bool (by rw [Bool.eq_iff_iff]; simp [visB]; try omega), rfl⟩

set_option maxHeartbeats 400000 in
theorem rletter_any (c : Int) (w : World) (h0 : 0 ≤ c) (h1 : c ≤ 255) :
    Calls Tryz.prog 142 #[.int .u8 c] w fun e w' => e = .returned (.bool (letB c)) ∧ w' = w := by
  go_enter Tryz.func142, Tryz.ntmps142
  go_wp2
  all_goals
    go_ret
    exact ⟨ret_bool (by rw [Bool.eq_iff_iff]; simp [letB]; try omega), rfl⟩

def smallV (c : Int) : Int := if 65 ≤ c ∧ c ≤ 90 then c + 32 else c
theorem smallV_bd {c : Int} (h0 : 0 ≤ c) (h1 : c ≤ 255) : 0 ≤ smallV c ∧ smallV c ≤ 255 := by unfold smallV; split <;> omega
theorem ret_int {k : IntKind} {a b : Int} (h : a = b) : Ending.returned (.int k a) = .returned (.int k b) := by rw [h]
theorem ret_ib {k : IntKind} {a b : Int} {x y : Bool} (h : a = b) (g : x = y) : Ending.returned (.tuple #[.int k a, .bool x]) = .returned (.tuple #[.int k b, .bool y]) := by rw [h, g]

set_option maxHeartbeats 400000 in
theorem small_any (c : Int) (w : World) (h0 : 0 ≤ c) (h1 : c ≤ 255) :
    Calls Tryz.prog 128 #[.int .u8 c] w fun e w' => e = .returned (.int .u8 (smallV c)) ∧ w' = w := by
  by_cases h : 65 ≤ c ∧ c ≤ 90
  · obtain ⟨ha, hb⟩ := h
    go_enter Tryz.func128, Tryz.ntmps128
    go_wp2
    go_ret
    exact ⟨ret_int (by unfold smallV; rw [if_pos ⟨ha, hb⟩]), rfl⟩
  · go_enter Tryz.func128, Tryz.ntmps128
    go_wp2
    all_goals
      go_ret
      exact ⟨ret_int (by unfold smallV; rw [if_neg h]), rfl⟩

set_option maxHeartbeats 400000 in
theorem letter_any (c : Int) (w : World) (h0 : 0 ≤ c) (h1 : c ≤ 255) :
    Calls Tryz.prog 139 #[.int .u8 c] w fun e w' => e = .returned (.bool (letB c)) ∧ w' = w := by
  go_enter Tryz.func139, Tryz.ntmps139
  go_wp2
  all_goals
    go_ret
    exact ⟨ret_bool (by rw [Bool.eq_iff_iff]; simp [letB]; try omega), rfl⟩

set_option maxHeartbeats 400000 in
theorem hex_any (c : Int) (w : World) (h0 : 0 ≤ c) (h1 : c ≤ 255) :
    Calls Tryz.prog 160 #[.int .u8 c] w fun e w' => e = .returned (.tuple #[.int .i64 (hexV c), .bool (hexB c)]) ∧ w' = w := by
  go_enter Tryz.func160, Tryz.ntmps160
  go_wp2
  all_goals
    go_ret2
    refine ⟨ret_ib ?_ ?_, rfl⟩
    · unfold hexV; (repeat' split) <;> omega
    · rw [Bool.eq_iff_iff]; simp [hexB]; try omega

set_option maxHeartbeats 1000000 in
theorem token_any (c : Int) (w : World) (h0 : 0 ≤ c) (h1 : c ≤ 255) :
    Calls Tryz.prog 120 #[.int .u8 c] w fun e w' => e = .returned (.bool (tokB c)) ∧ w' = w := by
  go_enter Tryz.func120, Tryz.ntmps120
  go_wp2_with (first | (go_at_call 139; refine (letter_any _ _ (by omega) (by omega)).mono ?_; rintro e w' ⟨rfl, rfl⟩) | (go_at_call 140; refine (digit_any _ _ (by omega) (by omega)).mono ?_; rintro e w' ⟨rfl, rfl⟩))
  all_goals
    go_ret
    exact ⟨ret_bool (by (try simp only [beq_iff_eq, beq_eq_false_iff_ne, ne_eq, letB, decide_eq_true_eq] at *); rw [Bool.eq_iff_iff]; simp [tokB, othB, letB, digB]; try omega), rfl⟩

def othS : ByteArray := { data := #[33, 35, 36, 37, 38, 39, 42, 43, 45, 46, 94, 95, 124, 126] }
def othAt (k : Nat) : Int := ((othS.data.toList.getD k 0).toNat : Int)

theorem oth_all : ∀ k : Nat, (h : k < 14) → othB (({ data := #[33, 35, 36, 37, 38, 39, 42, 43, 45, 46, 94, 95, 124, 126] } : ByteArray)[k].toNat : Int) = true := by decide
theorem oth_hit {k : Nat} {c : Int} (h : k < 14) (e : ((({ data := #[33, 35, 36, 37, 38, 39, 42, 43, 45, 46, 94, 95, 124, 126] } : ByteArray)[k].toNat : Int) == c) = true) : tokB c = true := by
  have := oth_all k h
  rw [eq_of_beq e] at this
  simp [tokB, this]
theorem othAt_eq : ∀ k : Nat, (h : k < 14) → othAt k = (({ data := #[33, 35, 36, 37, 38, 39, 42, 43, 45, 46, 94, 95, 124, 126] } : ByteArray)[k].toNat : Int) := by decide
theorem oth_miss {k : Nat} {c : Int} (h : k < 14) (hno : ∀ j : Nat, j < k → othAt j ≠ c) (e : ((({ data := #[33, 35, 36, 37, 38, 39, 42, 43, 45, 46, 94, 95, 124, 126] } : ByteArray)[k].toNat : Int) == c) = false) : ∀ j : Nat, j < k + 1 → othAt j ≠ c := by
  intro j hj
  by_cases hjk : j = k
  · subst hjk; rw [othAt_eq j h]; exact ne_of_beq_false e
  · exact hno j (by omega)
theorem oth_none {c : Int} (hd : ¬ digB c = true) (hl : ¬ letB c = true) (h96 : ¬ c = 96) (hno : ∀ j : Nat, j < 14 → othAt j ≠ c) : tokB c = false := by
  have e0 := hno 0 (by omega); have e1 := hno 1 (by omega); have e2 := hno 2 (by omega); have e3 := hno 3 (by omega)
  have e4 := hno 4 (by omega); have e5 := hno 5 (by omega); have e6 := hno 6 (by omega); have e7 := hno 7 (by omega)
  have e8 := hno 8 (by omega); have e9 := hno 9 (by omega); have e10 := hno 10 (by omega); have e11 := hno 11 (by omega)
  have e12 := hno 12 (by omega); have e13 := hno 13 (by omega)
  simp [othAt, othS] at e0 e1 e2 e3 e4 e5 e6 e7 e8 e9 e10 e11 e12 e13
  simp [tokB, othB, hd, hl]
  omega

set_option maxHeartbeats 400000 in
theorem rtoken_any (c : Int) (w : World) (h0 : 0 ≤ c) (h1 : c ≤ 255) :
    Calls Tryz.prog 125 #[.int .u8 c] w fun e w' => e = .returned (.bool (tokB c)) ∧ w' = w := by
  by_cases hd : digB c = true
  · go_enter Tryz.func125, Tryz.ntmps125
    go_wp2_with (first | (go_at_call 142; refine (rletter_any _ _ (by omega) (by omega)).mono ?_; rintro e w' ⟨rfl, rfl⟩) | (go_at_call 102; refine (rdigit_any _ _ (by omega) (by omega)).mono ?_; rintro e w' ⟨rfl, rfl⟩))
    go_ret
    exact ⟨ret_bool (by simp [tokB, hd]), rfl⟩
  by_cases hl : letB c = true
  · go_enter Tryz.func125, Tryz.ntmps125
    go_wp2_with (first | (go_at_call 142; refine (rletter_any _ _ (by omega) (by omega)).mono ?_; rintro e w' ⟨rfl, rfl⟩) | (go_at_call 102; refine (rdigit_any _ _ (by omega) (by omega)).mono ?_; rintro e w' ⟨rfl, rfl⟩))
    go_ret
    exact ⟨ret_bool (by simp [tokB, hl]), rfl⟩
  by_cases h96 : c = 96
  · subst h96
    go_enter Tryz.func125, Tryz.ntmps125
    go_wp2
    go_ret
    exact ⟨rfl, rfl⟩
  go_enter Tryz.func125, Tryz.ntmps125
  go_wp2_with (first | (go_at_call 142; refine (rletter_any _ _ (by omega) (by omega)).mono ?_; rintro e w' ⟨rfl, rfl⟩) | (go_at_call 102; refine (rdigit_any _ _ (by omega) (by omega)).mono ?_; rintro e w' ⟨rfl, rfl⟩))
  go_loop [3] (fun i => ∃ k : Nat, k ≤ 14 ∧ i = .int .i64 k ∧ ∀ j : Nat, j < k → othAt j ≠ c) (fun i => 14 - (intOf i).toNat)
  case atStart => exact ⟨0, Nat.zero_le _, rfl, fun j hj => absurd hj (Nat.not_lt_zero _)⟩
  case round =>
    obtain ⟨k, hk, rfl, hno⟩ := hrel
    by_cases hlt : k < 14
    · go_wp2
      · go_ret
        exact ⟨ret_bool (oth_hit hlt ‹_›).symm, rfl⟩
      · go_round
        case rel => exact ⟨k + 1, by omega, by go_num, oth_miss hlt hno ‹_›⟩
        case measure => simp [intOf]; omega
    · go_wp2
      go_ret
      exact ⟨ret_bool (oth_none hd hl h96 (fun j hj => hno j (by omega))).symm, rfl⟩

def allTo (s : ByteArray) (k : Nat) : Bool := (s.data.toList.take k).all fun b => tokB (b.toNat : Int)
def isTok (s : ByteArray) : Bool := decide (s.size ≠ 0) && allTo s s.size

theorem empty_size (s : ByteArray) : s.toList.isEmpty = decide (s.size = 0) := by
  rw [Lib.toList_data, Bool.eq_iff_iff, List.isEmpty_iff_length_eq_zero]; simp
theorem take_snoc (s : ByteArray) (k : Nat) (h : k < s.size) : s.data.toList.take (k + 1) = s.data.toList.take k ++ [s[k]] := by
  rw [List.take_succ_eq_append_getElem (by simpa using h)]; rfl
theorem allTo_snoc (s : ByteArray) (k : Nat) (h : k < s.size) : allTo s (k + 1) = (allTo s k && tokB (s[k].toNat : Int)) := by
  unfold allTo; rw [take_snoc s k h]; simp
theorem allTo_stop (s : ByteArray) (k : Nat) (h : k < s.size) (ht : tokB (s[k].toNat : Int) = false) : allTo s s.size = false := by
  unfold allTo
  rw [List.all_eq_false]
  refine ⟨s[k], ?_, by simp [ht]⟩
  rw [List.take_of_length_le (by simp)]
  exact List.getElem_mem (by simpa using h)
theorem isTok_stop (s : ByteArray) (k : Nat) (h : k < s.size) (ht : tokB (s[k].toNat : Int) = false) : isTok s = false := by
  unfold isTok; rw [allTo_stop s k h ht]; simp

set_option maxHeartbeats 400000 in
theorem istoken_any (s : ByteArray) (w : World) (hs : s.size ≤ maxLen) :
    Calls Tryz.prog 83 #[.string s] w fun e w' => e = .returned (.bool (isTok s)) ∧ w' = w := by
  unfold maxLen at hs
  go_enter Tryz.func83, Tryz.ntmps83
  go_wp2
  go_loop [6] (fun i => ∃ k : Nat, k ≤ s.size ∧ i = .int .i64 k ∧ allTo s k = true) (fun i => s.size - (intOf i).toNat)
  case atStart => exact ⟨0, Nat.zero_le _, rfl, rfl⟩
  case round =>
    obtain ⟨k, hk, rfl, hall⟩ := hrel
    by_cases hlt : k < s.size
    · have hb := s[k].toNat_lt
      by_cases ht : tokB (s[k].toNat : Int) = true
      · go_wp2_with (go_at_call 120; refine (token_any _ _ (by omega) (by omega)).mono ?_; rintro e w' ⟨rfl, rfl⟩)
        go_round
        case rel => exact ⟨k + 1, by omega, by go_num, by rw [allTo_snoc s k hlt, hall, ht]; rfl⟩
        case measure => simp [intOf]; omega
      · go_wp2_with (go_at_call 120; refine (token_any _ _ (by omega) (by omega)).mono ?_; rintro e w' ⟨rfl, rfl⟩)
        go_ret
        exact ⟨ret_bool (isTok_stop s k hlt (by simpa using ht)).symm, rfl⟩
    · go_wp2
      go_ret
      have hk' : k = s.size := by omega
      exact ⟨ret_bool (by first | (unfold isTok; rw [← hk', hall, empty_size, ← hk']; simp) | (unfold isTok; rw [← hk', hall]; rw [Bool.eq_iff_iff]; simp; omega)), rfl⟩

set_option maxHeartbeats 400000 in
theorem ristoken_any (s : ByteArray) (w : World) (hs : s.size ≤ maxLen) :
    Calls Tryz.prog 93 #[.string s] w fun e w' => e = .returned (.bool (isTok s)) ∧ w' = w := by
  unfold maxLen at hs
  go_enter Tryz.func93, Tryz.ntmps93
  go_wp2
  go_loop [3] (fun i => ∃ k : Nat, k ≤ s.size ∧ i = .int .i64 k ∧ allTo s k = true) (fun i => s.size - (intOf i).toNat)
  case atStart => exact ⟨0, Nat.zero_le _, rfl, rfl⟩
  case round =>
    obtain ⟨k, hk, rfl, hall⟩ := hrel
    by_cases hlt : k < s.size
    · have hb := s[k].toNat_lt
      by_cases ht : tokB (s[k].toNat : Int) = true
      · go_wp2_with (go_at_call 125; refine (rtoken_any _ _ (by omega) (by omega)).mono ?_; rintro e w' ⟨rfl, rfl⟩)
        go_round
        case rel => exact ⟨k + 1, by omega, by go_num, by rw [allTo_snoc s k hlt, hall, ht]; rfl⟩
        case measure => simp [intOf]; omega
      · go_wp2_with (go_at_call 125; refine (rtoken_any _ _ (by omega) (by omega)).mono ?_; rintro e w' ⟨rfl, rfl⟩)
        go_ret
        exact ⟨ret_bool (isTok_stop s k hlt (by simpa using ht)).symm, rfl⟩
    · go_wp2
      go_ret
      have hk' : k = s.size := by omega
      exact ⟨ret_bool (by first | (unfold isTok; rw [← hk', hall, empty_size, ← hk']; simp) | (unfold isTok; rw [← hk', hall]; rw [Bool.eq_iff_iff]; simp; omega)), rfl⟩
end Go.Proofs.YtnlmjlfoeodleaaGreatDoor
/- A text without the blanks at its ends, of package chars and the document's. -/
namespace Go.Proofs.YtnlmjlfoeodleaaGreatDoor
open Go.RowKit

def blankB (c : Int) : Bool := decide (c = 32 ∨ c = 9)
def bl (b : UInt8) : Bool := blankB (b.toNat : Int)
def trimL (l : List UInt8) : List UInt8 := ((l.dropWhile bl).reverse.dropWhile bl).reverse
def trimS (s : ByteArray) : ByteArray := ⟨(trimL s.data.toList).toArray⟩

set_option maxHeartbeats 400000 in
theorem blank_any (c : Int) (w : World) :
    Calls Tryz.prog 154 #[.int .u8 c] w fun e w' => e = .returned (.bool (blankB c)) ∧ w' = w := by
  go_enter Tryz.func154, Tryz.ntmps154
  go_wp2
  all_goals
    go_ret
    exact ⟨ret_bool (by rw [Bool.eq_iff_iff]; simp [blankB]; try omega), rfl⟩
set_option maxHeartbeats 400000 in
theorem rblank_any (c : Int) (w : World) :
    Calls Tryz.prog 152 #[.int .u8 c] w fun e w' => e = .returned (.bool (blankB c)) ∧ w' = w := by
  go_enter Tryz.func152, Tryz.ntmps152
  go_wp2
  all_goals
    go_ret
    exact ⟨ret_bool (by rw [Bool.eq_iff_iff]; simp [blankB]; try omega), rfl⟩

theorem dropWhile_all (p : UInt8 → Bool) : ∀ (A l : List UInt8), (∀ x ∈ A, p x = true) → (A ++ l).dropWhile p = l.dropWhile p
  | [], _, _ => rfl
  | a :: A, l, h => by
    rw [List.cons_append, List.dropWhile_cons_of_pos (h a (by simp))]
    exact dropWhile_all p A l (fun x hx => h x (by simp [hx]))
theorem trim_of {l A M B : List UInt8} (e : l = A ++ (M ++ B)) (hA : ∀ x ∈ A, bl x = true) (hB : ∀ x ∈ B, bl x = true)
    (hM : M = [] ∨ (∃ h, bl (M.head h) = false) ∧ ∃ h, bl (M.getLast h) = false) : trimL l = M := by
  subst e
  unfold trimL
  rw [dropWhile_all bl A _ hA]
  rcases hM with rfl | ⟨⟨h1, h2⟩, h3, h4⟩
  · have hb := dropWhile_all bl B [] hB
    rw [List.append_nil] at hb
    rw [List.nil_append, hb]; rfl
  · obtain ⟨m, M', rfl⟩ := List.exists_cons_of_ne_nil h1
    simp only [List.head_cons] at h2
    rw [List.cons_append, List.dropWhile_cons_of_neg (by simp [h2]), ← List.cons_append, List.reverse_append, dropWhile_all bl _ _ (fun x hx => hB x (by simpa using hx))]
    have e2 : (m :: M').reverse = (m :: M').getLast h3 :: ((m :: M').dropLast).reverse := by
      conv => lhs; rw [← List.dropLast_concat_getLast h3]
      rw [List.reverse_append]; rfl
    rw [e2, List.dropWhile_cons_of_neg (by simp [h4]), ← e2, List.reverse_reverse]

def blTo (s : ByteArray) (i : Nat) : Prop := ∀ x ∈ s.data.toList.take i, bl x = true
def blFrom (s : ByteArray) (t : Nat) : Prop := ∀ x ∈ s.data.toList.drop t, bl x = true
theorem blTo_step {s : ByteArray} {i : Nat} (h : blTo s i) (hi : i < s.size) (hb : blankB (s[i].toNat : Int) = true) : blTo s (i + 1) := by
  intro x hx
  rw [take_snoc s i hi] at hx
  rcases List.mem_append.1 hx with hx | hx
  · exact h x hx
  · rw [List.mem_singleton.1 hx]; exact hb
theorem blFrom_end (s : ByteArray) : blFrom s s.size := by
  intro x hx
  rw [List.drop_eq_nil_of_le (by simp)] at hx
  simp at hx
theorem blFrom_step {s : ByteArray} {t : Nat} (h : blFrom s t) (ht : t - 1 < s.size) (h1 : 1 ≤ t) (hb : blankB (s[t - 1].toNat : Int) = true) : blFrom s (t - 1) := by
  intro x hx
  rw [List.drop_eq_getElem_cons (by simpa using ht)] at hx
  rcases List.mem_cons.1 hx with hx | hx
  · rw [hx]; exact hb
  · rw [show t - 1 + 1 = t by omega] at hx; exact h x hx
theorem trim_extract {s : ByteArray} {i t : Nat} (hi : blTo s i) (ht : blFrom s t) (hit : i ≤ t) (hts : t ≤ s.size)
    (h1 : ∀ h : i < s.size, blankB (s[i].toNat : Int) = false) (h2 : i < t → ∀ h : t - 1 < s.size, blankB (s[t - 1].toNat : Int) = false) : s.extract i t = trimS s := by
  have e : s.data.toList = s.data.toList.take i ++ ((s.data.toList.take t).drop i ++ s.data.toList.drop t) := by
    rw [← List.append_assoc]
    have : s.data.toList.take i = (s.data.toList.take t).take i := by rw [List.take_take, Nat.min_eq_left hit]
    rw [this, List.take_append_drop, List.take_append_drop]
  have hM := trim_of e hi ht (by
    by_cases hlt : i < t
    · right
      have hne : (s.data.toList.take t).drop i ≠ [] := by
        intro h0
        have := congrArg List.length h0
        simp at this; omega
      refine ⟨⟨hne, ?_⟩, hne, ?_⟩
      · have := h1 (by omega)
        have e1 : ((s.data.toList.take t).drop i).head hne = s[i]'(by omega) := by
          rw [List.head_drop]; simp; rfl
        rw [e1]; exact this
      · have := h2 hlt (by omega)
        have e1 : ((s.data.toList.take t).drop i).getLast hne = s[t - 1]'(by omega) := by
          rw [List.getLast_drop, List.getLast_eq_getElem, List.getElem_take]
          simp [Nat.min_eq_left hts]; rfl
        rw [e1]; exact this
    · left
      have : t = i := by omega
      subst this
      simp)
  unfold trimS
  rw [hM]
  apply ByteArray.ext
  apply Array.toList_inj.1
  simp [List.drop_take]

set_option maxHeartbeats 400000 in
theorem clone_any (s : ByteArray) (w : World) (hs : s.size ≤ 281474976710656) :
    Calls Tryz.prog 44 #[.string s] w fun e w' => e = .returned (.string s) ∧ Below w.heap.size w w' := by
  go_enter Tryz.func44, Tryz.ntmps44
  go_wp2_with (go_at_call 82; refine (Tryz.stringslite_Clone _ _ hs).mono ?_; rintro e w' ⟨rfl, hb⟩)
  go_ret
  exact ⟨rfl, by assumption⟩

set_option maxRecDepth 20000 in
set_option maxHeartbeats 1000000 in
theorem trim_any (s : ByteArray) (w : World) (hs : s.size ≤ 281474976710656) :
    Calls Tryz.prog 137 #[.string s] w fun e w' => e = .returned (.string (trimS s)) ∧ Below w.heap.size w w' := by
  go_enter Tryz.func137, Tryz.ntmps137
  go_wp2
  go_loop [3] (fun i => ∃ k : Nat, k ≤ s.size ∧ i = .int .i64 k ∧ blTo s k) (fun i => s.size - (intOf i).toNat)
  case atStart => exact ⟨0, Nat.zero_le _, rfl, by intro x hx; simp at hx⟩
  case round =>
    obtain ⟨i, hi, rfl, hbl⟩ := hrel
    by_cases hgo : ∃ h : i < s.size, blankB (s[i].toNat : Int) = true
    · obtain ⟨hlt, hb⟩ := hgo
      have hN := blTo_step hbl hlt hb
      go_wp2_with (go_at_call 154; refine (blank_any _ _).mono ?_; rintro e w' ⟨rfl, rfl⟩)
      go_round
      case rel => exact ⟨i + 1, by omega, by go_num, hN⟩
      case measure => simp [intOf]; omega
    · have hstop : ∀ h : i < s.size, blankB (s[i].toNat : Int) = false := fun h => by
        cases hc : blankB (s[i].toNat : Int)
        · rfl
        · exact absurd ⟨h, hc⟩ hgo
      have HS := Lib.hid hstop
      clear hgo
      by_cases hlt : i < s.size
      · have hb := hstop hlt
        clear hstop
        go_wp2_with (go_at_call 154; refine (blank_any _ _).mono ?_; rintro e w' ⟨rfl, rfl⟩)
        clear hb
        go_loop [4] (fun t => ∃ k : Nat, i ≤ k ∧ k ≤ s.size ∧ t = .int .i64 k ∧ blFrom s k) (fun t => (intOf t).toNat)
        case atStart => exact ⟨s.size, by omega, Nat.le_refl _, rfl, blFrom_end s⟩
        case round =>
          obtain ⟨t, hit, hts, rfl, hbf⟩ := hrel
          by_cases hgo : ∃ h : i < t, blankB ((s[t - 1]'(by omega)).toNat : Int) = true
          · obtain ⟨hl2, hb2⟩ := hgo
            have hN := blFrom_step hbf (by omega) (by omega) hb2
            have hN' := Lib.hid hb2
            go_wp2_with (go_at_call 154; refine (blank_any _ _).mono ?_; rintro e w' ⟨rfl, rfl⟩)
            go_round
            case rel => exact ⟨t - 1, by omega, by omega, by congr 1; omega, hN⟩
            case measure => simp [intOf]; omega
          · have hstop2 : i < t → ∀ h : t - 1 < s.size, blankB (s[t - 1].toNat : Int) = false := fun h h' => by
              cases hc : blankB (s[t - 1].toNat : Int)
              · rfl
              · exact absurd ⟨h, hc⟩ hgo
            have HE := Lib.hid (trim_extract hbl hbf hit hts HS.out hstop2)
            have hsz : (s.extract i t).size ≤ 281474976710656 := by simp [ByteArray.size_extract]; omega
            clear hgo
            by_cases hl2 : i < t
            · have hb2 := hstop2 hl2 (by omega)
              clear hstop2
              go_wp2_with (first | (go_at_call 154; refine (blank_any _ _).mono ?_; rintro e w' ⟨rfl, rfl⟩) | (go_at_call 44; refine (clone_any _ _ hsz).mono ?_; rintro e w' ⟨rfl, hbel⟩))
              go_ret
              exact ⟨by rw [← HE.out]; rfl, by assumption⟩
            · clear hstop2
              go_wp2_with (go_at_call 44; refine (clone_any _ _ hsz).mono ?_; rintro e w' ⟨rfl, hbel⟩)
              go_ret
              exact ⟨by rw [← HE.out]; rfl, by assumption⟩
      · clear hstop
        go_wp2
        go_loop [4] (fun t => ∃ k : Nat, i ≤ k ∧ k ≤ s.size ∧ t = .int .i64 k ∧ blFrom s k) (fun t => (intOf t).toNat)
        case atStart => exact ⟨s.size, by omega, Nat.le_refl _, rfl, blFrom_end s⟩
        case round =>
          obtain ⟨t, hit, hts, rfl, hbf⟩ := hrel
          by_cases hgo : ∃ h : i < t, blankB ((s[t - 1]'(by omega)).toNat : Int) = true
          · obtain ⟨hl2, hb2⟩ := hgo
            exact absurd hl2 (by omega)
          · have hstop2 : i < t → ∀ h : t - 1 < s.size, blankB (s[t - 1].toNat : Int) = false := fun h h' => by
              cases hc : blankB (s[t - 1].toNat : Int)
              · rfl
              · exact absurd ⟨h, hc⟩ hgo
            have HE := Lib.hid (trim_extract hbl hbf hit hts HS.out hstop2)
            have hsz : (s.extract i t).size ≤ 281474976710656 := by simp [ByteArray.size_extract]; omega
            clear hgo
            by_cases hl2 : i < t
            · exact absurd hl2 (by omega)
            · clear hstop2
              go_wp2_with (go_at_call 44; refine (clone_any _ _ hsz).mono ?_; rintro e w' ⟨rfl, hbel⟩)
              go_ret
              exact ⟨by rw [← HE.out]; rfl, by assumption⟩

def strLen : Value → Nat
  | .string s => s.size
  | _ => 0
theorem ext_head {s : ByteArray} (h : 0 < s.size) : s.data.toList = s[0] :: (s.extract 1 s.size).data.toList := by
  have h1 : 0 < s.data.toList.length := by simpa using h
  conv => lhs; rw [← List.drop_zero (l := s.data.toList), List.drop_eq_getElem_cons h1]
  congr 1
  simp
  rw [List.take_of_length_le (by simp)]
theorem ext_last {s : ByteArray} (h : 0 < s.size) : s.data.toList = (s.extract 0 (s.size - 1)).data.toList ++ [s[s.size - 1]] := by
  have h1 : s.size - 1 < s.size := by omega
  have := take_snoc s (s.size - 1) h1
  rw [show s.size - 1 + 1 = s.size by omega, List.take_of_length_le (by simp)] at this
  rw [this]
  simp [List.dropLast_eq_take]
/-- What the document's first loop has left: a piece, blanks ahead of it. -/
def Tail (s t : ByteArray) : Prop := ∃ A, s.data.toList = A ++ t.data.toList ∧ ∀ x ∈ A, bl x = true
theorem Tail.refl (s : ByteArray) : Tail s s := ⟨[], rfl, by intro x hx; simp at hx⟩
theorem Tail.step {s t : ByteArray} (h : Tail s t) (h0 : 0 < t.size) (hb : blankB (t[0].toNat : Int) = true) : Tail s (t.extract 1 t.size) := by
  obtain ⟨A, e, hA⟩ := h
  refine ⟨A ++ [t[0]], ?_, ?_⟩
  · rw [e, List.append_assoc, List.singleton_append]; congr 1; exact ext_head h0
  · intro x hx
    rcases List.mem_append.1 hx with hx | hx
    · exact hA x hx
    · rw [List.mem_singleton.1 hx]; exact hb
def Front (t u : ByteArray) : Prop := ∃ B, t.data.toList = u.data.toList ++ B ∧ ∀ x ∈ B, bl x = true
theorem Front.refl (s : ByteArray) : Front s s := ⟨[], by simp, by intro x hx; simp at hx⟩
theorem Front.step {t u : ByteArray} (h : Front t u) (h0 : 0 < u.size) (hb : blankB (u[u.size - 1].toNat : Int) = true) : Front t (u.extract 0 (u.size - 1)) := by
  obtain ⟨B, e, hB⟩ := h
  refine ⟨u[u.size - 1] :: B, ?_, ?_⟩
  · rw [e, ← List.singleton_append, ← List.append_assoc]; congr 1; exact ext_last h0
  · intro x hx
    rcases List.mem_cons.1 hx with hx | hx
    · rw [hx]; exact hb
    · exact hB x hx
theorem trim_tail {s t u : ByteArray} (h1 : Tail s t) (h2 : Front t u) (ht : ∀ h : 0 < t.size, blankB (t[0].toNat : Int) = false) (hu : ∀ h : 0 < u.size, blankB (u[u.size - 1].toNat : Int) = false) : u = trimS s := by
  obtain ⟨A, e, hA⟩ := h1
  obtain ⟨B, e2, hB⟩ := h2
  rw [e2] at e
  have hM := trim_of e hA hB (by
    by_cases h0 : u.size = 0
    · left; exact List.eq_nil_of_length_eq_zero (by simpa using h0)
    · right
      have hne : u.data.toList ≠ [] := by intro h; exact h0 (by have := congrArg List.length h; simpa using this)
      have hlen : t.size = u.size + B.length := by have := congrArg List.length e2; simpa using this
      refine ⟨⟨hne, ?_⟩, hne, ?_⟩
      · have h3 := ht (by omega)
        have h4 : t[0]'(by omega) = u.data.toList.head hne := by
          have : t.data.toList.head (by rw [e2]; simp [hne]) = u.data.toList.head hne := by
            simp only [e2]; rw [List.head_append_of_ne_nil hne]
          rw [← this, List.head_eq_getElem]; rfl
        rw [← h4]; exact h3
      · have h3 := hu (by omega)
        have h4 : u.data.toList.getLast hne = u[u.size - 1]'(by omega) := by
          rw [List.getLast_eq_getElem]; simp; rfl
        rw [h4]; exact h3)
  unfold trimS
  rw [hM]

set_option maxRecDepth 20000 in
set_option maxHeartbeats 1000000 in
theorem rtrim_any (s : ByteArray) (w : World) (hs : s.size ≤ 281474976710656) :
    Calls Tryz.prog 133 #[.string s] w fun e w' => e = .returned (.string (trimS s)) ∧ w' = w := by
  go_enter Tryz.func133, Tryz.ntmps133
  go_wp2
  go_loop [0] (fun v => ∃ t : ByteArray, v = .string t ∧ t.size ≤ s.size ∧ Tail s t) (fun v => strLen v)
  case atStart => exact ⟨s, rfl, Nat.le_refl _, Tail.refl s⟩
  case round =>
    obtain ⟨t, rfl, hts, hT⟩ := hrel
    by_cases hgo : ∃ h : 0 < t.size, blankB (t[0].toNat : Int) = true
    · obtain ⟨h0, hb⟩ := hgo
      have hN := hT.step h0 hb
      have h0' : (0 : Int) < (t.size : Int) := by omega
      go_wp2_with (go_at_call 152; refine (rblank_any _ _).mono ?_; rintro e w' ⟨rfl, rfl⟩)
      go_round
      case rel => exact ⟨_, rfl, by simp [ByteArray.size_extract]; omega, hN⟩
      case measure => simp [strLen, ByteArray.size_extract]; omega
    · have hstop : ∀ h : 0 < t.size, blankB (t[0].toNat : Int) = false := fun h => by
        cases hc : blankB (t[0].toNat : Int)
        · rfl
        · exact absurd ⟨h, hc⟩ hgo
      have HS := Lib.hid hstop
      clear hgo
      by_cases h0 : 0 < t.size
      · have hb := hstop h0
        have h0' : (0 : Int) < (t.size : Int) := by omega
        clear hstop
        go_wp2_with (go_at_call 152; refine (rblank_any _ _).mono ?_; rintro e w' ⟨rfl, rfl⟩)
        clear hb
        go_loop [0] (fun v => ∃ u : ByteArray, v = .string u ∧ u.size ≤ t.size ∧ Front t u) (fun v => strLen v)
        case atStart => exact ⟨t, rfl, Nat.le_refl _, Front.refl t⟩
        case round =>
          obtain ⟨u, rfl, hus, hF⟩ := hrel
          clear h0'
          by_cases hgo : ∃ h : 0 < u.size, blankB (u[u.size - 1].toNat : Int) = true
          · obtain ⟨h1, hb⟩ := hgo
            have hN := hF.step h1 hb
            have h1' : (0 : Int) < (u.size : Int) := by omega
            go_wp2_with (go_at_call 152; refine (rblank_any _ _).mono ?_; rintro e w' ⟨rfl, rfl⟩)
            go_round
            case rel => exact ⟨_, rfl, by simp [ByteArray.size_extract]; omega, hN⟩
            case measure => simp [strLen, ByteArray.size_extract]; omega
          · have hstop2 : ∀ h : 0 < u.size, blankB (u[u.size - 1].toNat : Int) = false := fun h => by
              cases hc : blankB (u[u.size - 1].toNat : Int)
              · rfl
              · exact absurd ⟨h, hc⟩ hgo
            have HE := Lib.hid (trim_tail hT hF HS.out hstop2)
            clear hgo
            by_cases h1 : 0 < u.size
            · have hb := hstop2 h1
              have h1' : (0 : Int) < (u.size : Int) := by omega
              clear hstop2
              go_wp2_with (go_at_call 152; refine (rblank_any _ _).mono ?_; rintro e w' ⟨rfl, rfl⟩)
              go_ret
              exact ⟨by rw [← HE.out]; rfl, rfl⟩
            · have h1' : (u.size : Int) = 0 := by omega
              clear hstop2
              go_wp2
              go_ret
              exact ⟨by rw [← HE.out]; rfl, rfl⟩
      · have h0' : (t.size : Int) = 0 := by omega
        have HE := Lib.hid (trim_tail hT (Front.refl t) HS.out (fun h => absurd h h0))
        clear hstop
        go_wp2
        refine wp_loop_rounds 1 ?_
        rw [rounds_succ]
        go_wp2
        go_ret
        exact ⟨by rw [← HE.out]; rfl, rfl⟩
end Go.Proofs.YtnlmjlfoeodleaaGreatDoor
