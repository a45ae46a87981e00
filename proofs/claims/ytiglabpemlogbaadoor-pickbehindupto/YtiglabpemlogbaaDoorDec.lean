/- The numbers of texts and the texts of numbers, the document's: each call returns the plain function's answer; for every text, bound and number. -/
import Derived.Test.YtiglabpemlogbaaDoorProg
import Derived.WalkKit
import Derived.WalkSpells
import Derived.WalkLawsBesides
import Derived.Lib.Strings
import Derived.Lib.ItoaLen
import Derived.Lib.AtoiTie
import Derived.Deep.QuietTactic
import Derived.BigQuiet
namespace Go.Proofs.YtiglabpemlogbaaDoor
open Go.RowKit

def digB (c : Int) : Bool := decide (48 ≤ c ∧ c ≤ 57)
def hexB (c : Int) : Bool := decide ((48 ≤ c ∧ c ≤ 57) ∨ (97 ≤ c ∧ c ≤ 102) ∨ (65 ≤ c ∧ c ≤ 70))
def hexV (c : Int) : Int := if 48 ≤ c ∧ c ≤ 57 then c - 48 else if 97 ≤ c ∧ c ≤ 102 then c - 87 else if 65 ≤ c ∧ c ≤ 70 then c - 55 else 0
theorem ret_bool {a b : Bool} (h : a = b) : Ending.returned (.bool a) = .returned (.bool b) := by rw [h]
theorem ret_ib {k : IntKind} {a b : Int} {x y : Bool} (h : a = b) (g : x = y) : Ending.returned (.tuple #[.int k a, .bool x]) = .returned (.tuple #[.int k b, .bool y]) := by rw [h, g]
set_option maxHeartbeats 400000 in
theorem rdigit_any (c : Int) (w : World) (h0 : 0 ≤ c) (h1 : c ≤ 255) :
    Calls Tryd.prog 63 #[.int .u8 c] w fun e w' => e = .returned (.bool (digB c)) ∧ w' = w := by
  go_enter Tryd.func63, Tryd.ntmps63
  go_wp2
  all_goals
    go_ret
    exact ⟨ret_bool (by rw [Bool.eq_iff_iff]; simp [digB]; try omega), rfl⟩
set_option maxHeartbeats 400000 in
theorem rhex_any (c : Int) (w : World) (h0 : 0 ≤ c) (h1 : c ≤ 255) :
    Calls Tryd.prog 54 #[.int .u8 c] w fun e w' => e = .returned (.tuple #[.int .i64 (hexV c), .bool (hexB c)]) ∧ w' = w := by
  go_enter Tryd.func54, Tryd.ntmps54
  go_wp2
  all_goals
    go_ret2
    refine ⟨ret_ib ?_ ?_, rfl⟩
    · unfold hexV; (repeat' split) <;> omega
    · rw [Bool.eq_iff_iff]; simp [hexB]; try omega
theorem take_snoc (s : ByteArray) (k : Nat) (h : k < s.size) : s.data.toList.take (k + 1) = s.data.toList.take k ++ [s[k]] := by
  rw [List.take_succ_eq_append_getElem (by simpa using h)]; rfl
def okD (base c : Int) : Bool := hexB c && decide (hexV c < base)
def digTo (base : Int) (s : ByteArray) (k : Nat) : Bool := (s.data.toList.take k).all fun b => okD base (b.toNat : Int)
def digAll (base : Int) (s : ByteArray) : Bool := decide (s.size ≠ 0) && digTo base s s.size
def numL (base most : Int) : List UInt8 → Int → Option Int
  | [], n => some n
  | b :: r, n => if hexV (b.toNat : Int) > most ∨ n > (most - hexV (b.toNat : Int)) / base then .none else numL base most r (n * base + hexV (b.toNat : Int))
def numN (base most : Int) (s : ByteArray) : Int :=
  if most < 0 then 0 else if digAll base s = false then 0 else (numL base most s.data.toList 0).getD 0
def numE (base most : Int) (s : ByteArray) : Int :=
  if most < 0 then 1 else if digAll base s = false then 3 else if (numL base most s.data.toList 0).isNone then 4 else 0
theorem digTo_snoc (base : Int) (s : ByteArray) (k : Nat) (h : k < s.size) : digTo base s (k + 1) = (digTo base s k && okD base (s[k].toNat : Int)) := by
  unfold digTo; rw [take_snoc s k h]; simp
theorem digTo_stop (base : Int) (s : ByteArray) (k : Nat) (h : k < s.size) (ht : okD base (s[k].toNat : Int) = false) : digAll base s = false := by
  unfold digAll digTo
  have : ((s.data.toList.take s.size).all fun b => okD base (b.toNat : Int)) = false := by
    rw [List.all_eq_false]
    refine ⟨s[k], ?_, by simp [ht]⟩
    rw [List.take_of_length_le (by simp)]
    exact List.getElem_mem (by simpa using h)
  rw [this]; simp
theorem hexV_bd (c : Int) : 0 ≤ hexV c ∧ hexV c ≤ 15 := by
  unfold hexV; (repeat' split) <;> omega
theorem drop_cons (s : ByteArray) (k : Nat) (h : k < s.size) : s.data.toList.drop k = s[k] :: s.data.toList.drop (k + 1) := by
  rw [List.drop_eq_getElem_cons (by simpa using h)]; rfl
theorem numL_stop {base most n : Int} {s : ByteArray} {k : Nat} (h : k < s.size) (hl : numL base most (s.data.toList.drop k) n = numL base most s.data.toList 0)
    (hb : hexV (s[k].toNat : Int) > most ∨ n > (most - hexV (s[k].toNat : Int)) / base) : numL base most s.data.toList 0 = .none := by
  rw [← hl, drop_cons s k h, numL, if_pos hb]
theorem numL_step {base most n : Int} {s : ByteArray} {k : Nat} (h : k < s.size) (hl : numL base most (s.data.toList.drop k) n = numL base most s.data.toList 0)
    (hb : ¬ (hexV (s[k].toNat : Int) > most ∨ n > (most - hexV (s[k].toNat : Int)) / base)) : numL base most (s.data.toList.drop (k + 1)) (n * base + hexV (s[k].toNat : Int)) = numL base most s.data.toList 0 := by
  rw [← hl, drop_cons s k h, numL, if_neg hb]
theorem numL_end {base most n : Int} {s : ByteArray} {k : Nat} (h : ¬ k < s.size) (hl : numL base most (s.data.toList.drop k) n = numL base most s.data.toList 0) : numL base most s.data.toList 0 = some n := by
  rw [← hl, List.drop_eq_nil_of_le (by simp; omega), numL]
theorem way_neg {base most : Int} (s : ByteArray) (h : most < 0) : numN base most s = 0 ∧ numE base most s = 1 := by simp [numN, numE, h]
theorem way_form {base most : Int} {s : ByteArray} (h : 0 ≤ most) (hd : digAll base s = false) : numN base most s = 0 ∧ numE base most s = 3 := by simp [numN, numE, Int.not_lt.2 h, hd]
theorem way_range {base most : Int} {s : ByteArray} (h : 0 ≤ most) (hd : digAll base s = true) (hl : numL base most s.data.toList 0 = .none) : numN base most s = 0 ∧ numE base most s = 4 := by simp [numN, numE, Int.not_lt.2 h, hd, hl]
theorem way_ok {base most n : Int} {s : ByteArray} (h : 0 ≤ most) (hd : digAll base s = true) (hl : numL base most s.data.toList 0 = some n) : numN base most s = n ∧ numE base most s = 0 := by simp [numN, numE, Int.not_lt.2 h, hd, hl]
theorem end_ii {base most n k : Int} {s : ByteArray} {w w' : World} (hw : w' = w) (h : numN base most s = n ∧ numE base most s = k) :
    Ending.returned (.tuple #[.int .i64 n, .int .i64 k]) = .returned (.tuple #[.int .i64 (numN base most s), .int .i64 (numE base most s)]) ∧ w' = w := by rw [h.1, h.2]; exact ⟨rfl, hw⟩
theorem ret_ii {a b x y : Int} (h : a = b) (g : x = y) : Ending.returned (.tuple #[.int .i64 a, .int .i64 x]) = .returned (.tuple #[.int .i64 b, .int .i64 y]) := by rw [h, g]
set_option maxHeartbeats 1000000 in
theorem rnumber10_any (s : ByteArray) (most : Int) (w : World) (hs : s.size ≤ maxLen) (hm : most ≤ 9223372036854775807) (hm0 : -9223372036854775808 ≤ most) :
    Calls Tryd.prog 46 #[.string s, .int .i64 10, .int .i64 most] w fun e w' => e = .returned (.tuple #[.int .i64 (numN 10 most s), .int .i64 (numE 10 most s)]) ∧ w' = w := by
  have hs2 := hs
  unfold maxLen at hs
  by_cases hneg : most < 0
  · have hW : Hid (numN 10 most s = 0 ∧ numE 10 most s = 1) := way_neg s hneg
    go_enter Tryd.func46, Tryd.ntmps46
    go_wp2
    go_ret2
    exact end_ii rfl hW.out
  have hH : Hid (0 ≤ most) := Int.not_lt.1 hneg
  go_enter Tryd.func46, Tryd.ntmps46
  go_wp2
  go_loop [8] (fun i => ∃ k : Nat, k ≤ s.size ∧ i = .int .i64 k ∧ Hid (digTo 10 s k = true)) (fun i => s.size - (intOf i).toNat)
  case atStart => exact ⟨0, Nat.zero_le _, rfl, rfl⟩
  case round =>
    obtain ⟨k0, hk0, rfl, hall⟩ := hrel
    by_cases hlt0 : k0 < s.size
    · have hb := s[k0].toNat_lt
      have hv := hexV_bd (s[k0].toNat : Int)
      by_cases hx : hexB (s[k0].toNat : Int) = true
      · by_cases hd : hexV (s[k0].toNat : Int) < 10
        · have hst : Hid (digTo 10 s (k0 + 1) = true) := (show digTo 10 s (k0 + 1) = true by rw [digTo_snoc 10 s k0 hlt0, hall.out]; simp [okD, hx, hd])
          go_wp2_with (go_at_call 54; refine (rhex_any _ _ (by omega) (by omega)).mono ?_; rintro e w' ⟨rfl, rfl⟩)
          go_round
          case rel => exact ⟨k0 + 1, by omega, by go_num, hst⟩
          case measure => simp [intOf]; omega
        · have hW : Hid (numN 10 most s = 0 ∧ numE 10 most s = 3) := way_form hH.out (digTo_stop 10 s k0 hlt0 (by simp [okD, hx]; omega))
          go_wp2_with (go_at_call 54; refine (rhex_any _ _ (by omega) (by omega)).mono ?_; rintro e w' ⟨rfl, rfl⟩)
          go_ret2
          exact end_ii rfl hW.out
      · have hW : Hid (numN 10 most s = 0 ∧ numE 10 most s = 3) := way_form hH.out (digTo_stop 10 s k0 hlt0 (by simp [okD, hx]))
        go_wp2_with (go_at_call 54; refine (rhex_any _ _ (by omega) (by omega)).mono ?_; rintro e w' ⟨rfl, rfl⟩)
        go_ret2
        exact end_ii rfl hW.out
    · have hk' : k0 = s.size := by omega
      by_cases hz : s.size = 0
      · have hW : Hid (numN 10 most s = 0 ∧ numE 10 most s = 3) := way_form hH.out (by simp [digAll, hz])
        go_wp2
        go_ret2
        exact end_ii rfl hW.out
      · have hD : Hid (digAll 10 s = true) := (show digAll 10 s = true by unfold digAll; rw [← hk', hall.out, hk']; simp [hz])
        clear hk' 
        go_wp2
        go_loop [11, 12] (fun t i => ∃ (k : Nat) (n : Int), k ≤ s.size ∧ i = .int .i64 k ∧ t = .int .i64 n ∧ 0 ≤ n ∧ n ≤ most ∧ Hid (numL 10 most (s.data.toList.drop k) n = numL 10 most s.data.toList 0)) (fun _ i => s.size - (intOf i).toNat)
        case atStart => exact ⟨0, 0, Nat.zero_le _, rfl, rfl, by omega, by omega, rfl⟩
        case round =>
          obtain ⟨k, n, hk, rfl, rfl, hn0, hn1, hl⟩ := hrel
          by_cases hlt : k < s.size
          · have hb := s[k].toNat_lt
            have hv := hexV_bd (s[k].toNat : Int)
            by_cases hx : hexV (s[k].toNat : Int) > most
            · have hW : Hid (numN 10 most s = 0 ∧ numE 10 most s = 4) := way_range hH.out hD.out (numL_stop hlt hl.out (.inl hx))
              go_wp2_with (go_at_call 54; refine (rhex_any _ _ (by omega) (by omega)).mono ?_; rintro e w' ⟨rfl, rfl⟩)
              go_ret2
              exact end_ii rfl hW.out
            · by_cases hd : n > (most - hexV (s[k].toNat : Int)) / 10
              · have hW : Hid (numN 10 most s = 0 ∧ numE 10 most s = 4) := way_range hH.out hD.out (numL_stop hlt hl.out (.inr hd))
                go_wp2_with (go_at_call 54; refine (rhex_any _ _ (by omega) (by omega)).mono ?_; rintro e w' ⟨rfl, rfl⟩)
                go_ret2
                exact end_ii rfl hW.out
              · have hle : n * 10 + hexV (s[k].toNat : Int) ≤ most := by omega
                have hst : Hid (numL 10 most (s.data.toList.drop (k + 1)) (n * 10 + hexV (s[k].toNat : Int)) = numL 10 most s.data.toList 0) := numL_step hlt hl.out (by omega)
                go_wp2_with (go_at_call 54; refine (rhex_any _ _ (by omega) (by omega)).mono ?_; rintro e w' ⟨rfl, rfl⟩)
                go_round
                case rel => exact ⟨k + 1, n * 10 + hexV (s[k].toNat : Int), by omega, by go_num, rfl, by omega, by omega, hst⟩
                case measure => simp [intOf]; omega
          · have hW : Hid (numN 10 most s = n ∧ numE 10 most s = 0) := way_ok hH.out hD.out (numL_end hlt hl.out)
            go_wp2
            go_ret2
            exact end_ii rfl hW.out
set_option maxHeartbeats 400000 in
theorem rdecimal_any (s : ByteArray) (most : Int) (w : World) (hs : s.size ≤ maxLen) (hm : most ≤ 9223372036854775807) (hm0 : -9223372036854775808 ≤ most) :
    Calls Tryd.prog 39 #[.string s, .int .i64 most] w fun e w' => e = .returned (.tuple #[.int .i64 (numN 10 most s), .int .i64 (numE 10 most s)]) ∧ w' = w := by
  go_enter Tryd.func39, Tryd.ntmps39
  go_wp2_with (go_at_call 46; refine (rnumber10_any _ _ _ hs hm hm0).mono ?_; rintro e w' ⟨rfl, rfl⟩)
  go_ret2
  exact ⟨rfl, rfl⟩
/-- One digit's letter. -/
def digC (d : Nat) : UInt8 := if d < 10 then UInt8.ofNat (48 + d) else UInt8.ofNat (87 + d)
/-- A number's digits in a base, the last ones behind. -/
def toldL (base : Nat) : Nat → Nat → List UInt8 → List UInt8
  | 0, _, l => l
  | f + 1, n, l => if n / base = 0 then digC (n % base) :: l else toldL base f (n / base) (digC (n % base) :: l)
def told (base n : Nat) : List UInt8 := toldL base 64 n []
theorem drewN_two (w : World) (a b : Nat) : (w.drewN a).drewN b = w.drewN (a + b) := by
  simp [World.drewN, Nat.add_assoc]
theorem ext_cons (d : Nat) (l : List UInt8) (h : d < 16) :
    ({ data := #[48, 49, 50, 51, 52, 53, 54, 55, 56, 57, 97, 98, 99, 100, 101, 102] } : ByteArray).extract d (d + 1) ++ { data := l.toArray } = { data := (digC d :: l).toArray } := by
  have all : ∀ d : Fin 16, ({ data := #[48, 49, 50, 51, 52, 53, 54, 55, 56, 57, 97, 98, 99, 100, 101, 102] } : ByteArray).extract d.1 (d.1 + 1) = { data := #[digC d.1] } := by decide
  rw [all ⟨d, h⟩]
  apply ByteArray.ext
  simp
theorem told_room {x f : Nat} (b : Nat) (h2 : 1 < b) (hx : ¬ x < b) (hf : x < b ^ (f + 1)) : 1 ≤ f ∧ x / b < b ^ (f - 1 + 1) := by
  have h1 : 1 ≤ f := by
    rcases Nat.eq_zero_or_pos f with rfl | h
    · simp at hf; omega
    · exact h
  refine ⟨h1, ?_⟩
  rw [show f - 1 + 1 = f by omega]
  rw [Nat.div_lt_iff_lt_mul (by omega)]
  rw [Nat.pow_succ] at hf
  exact hf
/-- What the digits so far, and the number that is left, make. -/
def ToldInv (b n x : Nat) (l : List UInt8) : Prop := ∃ f, f + 1 + l.length = 64 ∧ x < b ^ (f + 1) ∧ toldL b (f + 1) x l = told b n
theorem ToldInv.start (b n : Nat) (h : n < b ^ 64) : ToldInv b n n [] := ⟨63, rfl, h, rfl⟩
theorem ToldInv.last {b n x : Nat} {l : List UInt8} (h : ToldInv b n x l) (hx : x < b) : told b n = digC (x % b) :: l := by
  obtain ⟨f, _, _, ht⟩ := h
  rw [← ht, toldL, if_pos (Nat.div_eq_of_lt hx)]
theorem ToldInv.len {b n x : Nat} {l : List UInt8} (h : ToldInv b n x l) : l.length < 64 := by
  obtain ⟨f, hl, _⟩ := h; omega
theorem ToldInv.step {b n x : Nat} {l : List UInt8} (h : ToldInv b n x l) (h2 : 1 < b) (hx : ¬ x < b) : ToldInv b n (x / b) (digC (x % b) :: l) := by
  obtain ⟨f, hl, hf, ht⟩ := h
  obtain ⟨h1, h3⟩ := told_room b h2 hx hf
  refine ⟨f - 1, by simp; omega, h3, ?_⟩
  rw [toldL, if_neg (by rw [Nat.div_eq_zero_iff]; omega)] at ht
  rw [show f - 1 + 1 = f by omega]
  exact ht
set_option maxHeartbeats 1000000 in
theorem told10_any (n : Nat) (w : World) (hn : n < 18446744073709551616) :
    Calls Tryd.prog 47 #[.int .u64 n, .int .u64 10] w fun e w' => e = .returned (.string ⟨(told 10 n).toArray⟩) ∧ ∃ m, w' = w.drewN m := by
  have hS := ToldInv.start 10 n (Nat.lt_trans hn (by decide))
  go_enter Tryd.func47, Tryd.ntmps47
  go_wp2
  go_loopw [0, 5] (fun u s W => ∃ (x m : Nat) (l : List UInt8), u = .int .u64 x ∧ s = .string ⟨l.toArray⟩ ∧ W = w.drewN m ∧ x < 18446744073709551616 ∧ ToldInv 10 n x l) (fun u _ _ => (intOf u).toNat)
  case atStart => exact ⟨n, 0, [], rfl, rfl, rfl, hn, hS⟩
  case round =>
    obtain ⟨x, m, l, rfl, rfl, rfl, hx, hI⟩ := hrel
    have hmod : (x : Int) % 10 < 10 := by omega
    have hmod0 : 0 ≤ (x : Int) % 10 := by omega
    have hl := hI.len
    clear hS
    go_wp2
    go_quiet (fail)
    rw [ext_cons (x % 10) l (by omega)]
    by_cases hz : x < 10
    · have hT := Lib.hid (hI.last hz)
      clear hI
      go_wp2
      go_ret
      rw [hT.out]
      exact ⟨rfl, m + nq, by first | rfl | exact drewN_two _ _ _⟩
    · have hT := hI.step (by omega) hz
      clear hI
      go_wp2
      go_roundw
      case rel => exact ⟨x / 10, m + nq, digC (x % 10) :: l, by go_num, rfl, by first | rfl | exact drewN_two _ _ _, by omega, hT⟩
      case measure => simp [intOf]; omega
theorem toldL_dec : ∀ (f u : Nat) (l : List UInt8), u < 10 ^ (f + 1) → toldL 10 (f + 1) u l = Lib.decDigits u ++ l
  | 0, u, l, h => by
    have hu : u < 10 := by simpa using h
    rw [toldL, if_pos (by omega), Lib.decDigits_one hu, Nat.mod_eq_of_lt hu]
    simp [digC, hu]
  | f + 1, u, l, h => by
    rw [toldL]
    by_cases hu : u < 10
    · rw [if_pos (by omega), Lib.decDigits_one hu, Nat.mod_eq_of_lt hu]
      simp [digC, hu]
    · have h1 : u / 10 < 10 ^ (f + 1) := by
        rw [Nat.div_lt_iff_lt_mul (by omega)]
        rw [Nat.pow_succ] at h
        exact h
      have h3 : u % 10 < 10 := Nat.mod_lt _ (by omega)
      have h4 : Lib.decDigits u = Lib.decDigits (u / 10) ++ [UInt8.ofNat (48 + u % 10)] := by
        conv => lhs; rw [Lib.decDigits, dif_neg hu]
      rw [if_neg (by omega), toldL_dec f _ _ h1, h4]
      simp [digC, h3]
theorem told_dec (u : Nat) (h : u < 18446744073709551616) : told 10 u = Lib.decDigits u := by
  have := toldL_dec 63 u [] (Nat.lt_trans h (by decide))
  simpa [told] using this
theorem below_drewN' (w : World) (n : Nat) : Below w.heap.size w (w.drewN n) := ⟨rfl, rfl, rfl, Nat.le_refl _, fun _ _ => rfl⟩
theorem told_len (k : Nat) (h : k < 18446744073709551616) : (told 10 k).length ≤ 20 := by
  rw [told_dec k h, Lib.decDigits_length]; exact Lib.nDigits_le20 k h
theorem itoa_pos (k : Nat) (h : k < 18446744073709551616) : (⟨(told 10 k).toArray⟩ : ByteArray) = ⟨(Lib.itoa (k : Int)).toArray⟩ := by
  rw [Lib.itoa_nonneg, told_dec k h]
theorem itoa_minus (k : Nat) (h1 : 1 ≤ k) (h : k < 18446744073709551616) : ({ data := #[45] } : ByteArray) ++ { data := (told 10 k).toArray } = ⟨(Lib.itoa (-(k : Int))).toArray⟩ := by
  rw [Lib.itoa_neg k h1, told_dec k h]
  apply ByteArray.ext
  simp
set_option maxHeartbeats 400000 in
theorem rtext_any (n : Int) (w : World) (h0 : -9223372036854775808 ≤ n) (h1 : n ≤ 9223372036854775807) :
    Calls Tryd.prog 40 #[.int .i64 n] w fun e w' => e = .returned (.string ⟨(Lib.itoa n).toArray⟩) ∧ Below w.heap.size w w' := by
  by_cases h : n < 0
  · obtain ⟨k, rfl⟩ : ∃ k : Nat, n = -(k : Int) := ⟨n.natAbs, by omega⟩
    have hx := Lib.hid (itoa_minus k (by omega) (by omega))
    have hw : IntKind.u64.wrap (-IntKind.u64.wrap (-(k : Int))) = k := by rw [IntKind.wrap_u64, IntKind.wrap_u64]; omega
    have hlen : (told 10 k).length ≤ 20 := told_len k (by omega)
    go_enter Tryd.func40, Tryd.ntmps40
    go_wp2_with (go_at_call 47; refine (told10_any k _ (by omega)).mono ?_; rintro e w' ⟨rfl, m, rfl⟩)
    go_ret
    exact ⟨by rw [← hx.out]; rfl, below_drewN' _ _⟩
  · obtain ⟨k, rfl⟩ : ∃ k : Nat, n = k := ⟨n.toNat, by omega⟩
    have hx := Lib.hid (itoa_pos k (by omega))
    have hw : IntKind.u64.wrap (k : Int) = k := by rw [IntKind.wrap_u64]; omega
    go_enter Tryd.func40, Tryd.ntmps40
    go_wp2_with (go_at_call 47; refine (told10_any k _ (by omega)).mono ?_; rintro e w' ⟨rfl, m, rfl⟩)
    go_ret
    exact ⟨by rw [← hx.out]; rfl, below_drewN' _ _⟩
def val (base : Int) : List UInt8 → Int → Int
  | [], n => n
  | b :: r, n => val base r (n * base + hexV (b.toNat : Int))
theorem val_ge {base : Int} (hb : 1 ≤ base) : ∀ (l : List UInt8) (n : Int), 0 ≤ n → n ≤ val base l n
  | [], n, _ => Int.le_refl n
  | b :: r, n, h => by
    have hv := hexV_bd (b.toNat : Int)
    have h1 : n ≤ n * base := by
      have := Int.mul_le_mul_of_nonneg_left hb h
      omega
    have h2 := val_ge hb r (n * base + hexV (b.toNat : Int)) (by omega)
    rw [val]; omega
theorem numL_val {base most : Int} (hb : 1 ≤ base) : ∀ (l : List UInt8) (n : Int), 0 ≤ n → val base l n ≤ most → numL base most l n = some (val base l n)
  | [], n, _, _ => rfl
  | b :: r, n, h, hle => by
    have hv := hexV_bd (b.toNat : Int)
    have h0 : 0 ≤ n * base := Int.mul_nonneg h (by omega)
    rw [val] at hle ⊢
    have hg := val_ge hb r (n * base + hexV (b.toNat : Int)) (by omega)
    have h3 : n ≤ (most - hexV (b.toNat : Int)) / base := by
      rw [Int.le_ediv_iff_mul_le (by omega)]; omega
    rw [numL, if_neg (by omega)]
    exact numL_val hb r _ (by omega) hle
theorem hexV_digC : ∀ d : Fin 16, hexV ((digC d.1).toNat : Int) = d.1 := by decide +kernel
theorem hexB_digC : ∀ d : Fin 16, hexB ((digC d.1).toNat : Int) = true := by decide +kernel
theorem hexV_dig (d : Nat) (h : d < 16) : hexV ((digC d).toNat : Int) = d := hexV_digC ⟨d, h⟩
theorem val_toldL (base : Nat) (h2 : 1 < base) (h16 : base ≤ 16) : ∀ (f x : Nat) (l : List UInt8), x < base ^ (f + 1) → val base (toldL base (f + 1) x l) 0 = val base l x
  | 0, x, l, h => by
    have hx : x < base := by simpa using h
    rw [toldL, if_pos (Nat.div_eq_of_lt hx), val, Nat.mod_eq_of_lt hx, hexV_dig x (by omega)]
    simp
  | f + 1, x, l, h => by
    rw [toldL]
    by_cases hx : x < base
    · rw [if_pos (Nat.div_eq_of_lt hx), val, Nat.mod_eq_of_lt hx, hexV_dig x (by omega)]
      simp
    · obtain ⟨_, h3⟩ := told_room base h2 hx h
      have hm : x % base < base := Nat.mod_lt _ (by omega)
      rw [if_neg (by rw [Nat.div_eq_zero_iff]; omega), val_toldL base h2 h16 f _ _ (by simpa using h3), val, hexV_dig _ (by omega)]
      congr 1
      have := Nat.div_add_mod x base
      have e : (x : Int) = ((base * (x / base) + x % base : Nat) : Int) := by rw [this]
      rw [e]
      push_cast
      rw [Int.mul_comm]
theorem toldL_all (base : Nat) (h2 : 1 < base) (h16 : base ≤ 16) : ∀ (f x : Nat) (l : List UInt8), (∀ b ∈ l, okD base (b.toNat : Int) = true) → ∀ b ∈ toldL base f x l, okD base (b.toNat : Int) = true
  | 0, _, _, h => h
  | f + 1, x, l, h => by
    have hm : x % base < base := Nat.mod_lt _ (by omega)
    have hd : okD base ((digC (x % base)).toNat : Int) = true := by
      unfold okD
      rw [hexV_dig _ (by omega), hexB_digC ⟨x % base, by omega⟩]
      simp; omega
    have hc : ∀ b ∈ digC (x % base) :: l, okD base (b.toNat : Int) = true := by
      intro b hb
      rcases List.mem_cons.1 hb with rfl | hb
      · exact hd
      · exact h b hb
    rw [toldL]
    split
    · exact hc
    · exact toldL_all base h2 h16 f _ _ hc
theorem toldL_ne (base : Nat) : ∀ (f x : Nat) (l : List UInt8), toldL base (f + 1) x l ≠ []
  | 0, x, l => by rw [toldL]; split <;> simp [toldL]
  | f + 1, x, l => by
    rw [toldL]; split
    · simp
    · exact toldL_ne base f _ _
def asB (l : List UInt8) : ByteArray := ⟨l.toArray⟩
theorem digAll_of {base : Int} {l : List UInt8} (hne : l ≠ []) (h : ∀ b ∈ l, okD base (b.toNat : Int) = true) : digAll base (asB l) = true := by
  have hl : l.length ≠ 0 := fun e => hne (List.eq_nil_of_length_eq_zero e)
  unfold digAll digTo asB
  rw [Bool.and_eq_true]
  constructor
  · simp [ByteArray.size, hne]
  · rw [List.all_eq_true]
    intro b hb
    exact h b (by simpa using List.mem_of_mem_take hb)
theorem back10 {n most : Nat} (h : n < 18446744073709551616) (hm : n ≤ most) : numN 10 most (asB (Lib.itoa (n : Int))) = n ∧ numE 10 most (asB (Lib.itoa (n : Int))) = 0 := by
  have hv := val_toldL 10 (by omega) (by omega) 63 n [] (Nat.lt_trans h (by decide))
  have hv2 : val 10 (told 10 n) 0 = n := by simpa [told, val] using hv
  rw [show asB (Lib.itoa (n : Int)) = asB (told 10 n) from (itoa_pos n h).symm]
  refine way_ok (by omega) (digAll_of (toldL_ne 10 63 n []) (toldL_all 10 (by omega) (by omega) 64 n [] (by intro b hb; simp at hb))) ?_
  have := numL_val (base := 10) (most := (most : Int)) (by omega) (told 10 n) 0 (by omega) (by rw [hv2]; omega)
  rw [hv2] at this
  exact this
/-! ### Atoi of a number's text -/
theorem decFrom_snoc : ∀ (l : List UInt8) (acc m : Nat) (c : UInt8) (d : Nat), Lib.decFrom acc l = some m → Lib.digitVal c = some d → Lib.decFrom acc (l ++ [c]) = some (m * 10 + d)
  | [], acc, m, c, d, h, hd => by
    simp only [Lib.decFrom, Option.some.injEq] at h
    subst h
    simp [Lib.decFrom, hd]
  | b :: r, acc, m, c, d, h, hd => by
    simp only [List.cons_append, Lib.decFrom] at h ⊢
    split at h
    · rename_i d' hd'
      exact decFrom_snoc r _ m c d h hd
    · cases h
theorem digit_of (d : Nat) (h : d < 10) : Lib.digitVal (UInt8.ofNat (48 + d)) = some d := by
  have e : (UInt8.ofNat (48 + d)).toNat = 48 + d := by rw [UInt8.toNat_ofNat']; omega
  unfold Lib.digitVal
  rw [e, if_pos (by omega)]
  congr 1
  omega
theorem decFrom_dec : ∀ (f u : Nat), u < 10 ^ (f + 1) → Lib.decFrom 0 (Lib.decDigits u) = some u
  | 0, u, h => by
    have hu : u < 10 := by simpa using h
    rw [Lib.decDigits_one hu]
    simp only [Lib.decFrom, digit_of u hu, Nat.zero_mul, Nat.zero_add]
  | f + 1, u, h => by
    by_cases hu : u < 10
    · rw [Lib.decDigits_one hu]
      simp only [Lib.decFrom, digit_of u hu, Nat.zero_mul, Nat.zero_add]
    · have h1 : u / 10 < 10 ^ (f + 1) := by
        rw [Nat.div_lt_iff_lt_mul (by omega)]
        rw [Nat.pow_succ] at h
        exact h
      have h4 : Lib.decDigits u = Lib.decDigits (u / 10) ++ [UInt8.ofNat (48 + u % 10)] := by
        conv => lhs; rw [Lib.decDigits, dif_neg hu]
      rw [h4, decFrom_snoc _ 0 _ _ _ (decFrom_dec f _ h1) (digit_of (u % 10) (by omega))]
      congr 1
      omega
theorem dec_head (u : Nat) : ∃ d r, d < 10 ∧ Lib.decDigits u = UInt8.ofNat (48 + d) :: r := by
  by_cases hu : u < 10
  · exact ⟨u, [], hu, Lib.decDigits_one hu⟩
  · obtain ⟨d, r, h1, h2⟩ := dec_head (u / 10)
    refine ⟨d, r ++ [UInt8.ofNat (48 + u % 10)], h1, ?_⟩
    conv => lhs; rw [Lib.decDigits, dif_neg hu]
    rw [h2]
    rfl
theorem toldL_len : ∀ (f u : Nat) (l : List UInt8), u < 10 ^ (f + 1) → (toldL 10 (f + 1) u l).length ≤ f + 1 + l.length
  | 0, u, l, h => by
    have hu : u < 10 := by simpa using h
    rw [toldL, if_pos (by omega)]
    simp; omega
  | f + 1, u, l, h => by
    rw [toldL]
    by_cases hu : u < 10
    · rw [if_pos (by omega)]
      simp; omega
    · have h1 : u / 10 < 10 ^ (f + 1) := by
        rw [Nat.div_lt_iff_lt_mul (by omega)]
        rw [Nat.pow_succ] at h
        exact h
      rw [if_neg (by omega)]
      have := toldL_len f (u / 10) (digC (u % 10) :: l) h1
      simp at this
      omega
theorem atoi_itoa (n : Nat) (h : n < 1000000000000000000) : Lib.atoiAll (Lib.itoa (n : Int)) = .ok (n : Int) := by
  rw [Lib.itoa_nonneg]
  have hd := decFrom_dec 17 n h
  have hl : (Lib.decDigits n).length ≤ 18 := by
    rw [← told_dec n (by omega)]
    have hln := toldL_len 17 n [] h
    rw [told_dec n (by omega)]
    rw [toldL_dec 17 n [] h] at hln
    simpa using hln
  rw [Lib.atoiAll_short _ hl]
  obtain ⟨d, r, h1, h2⟩ := dec_head n
  rw [h2] at hd ⊢
  have e : (UInt8.ofNat (48 + d)).toNat = 48 + d := by rw [UInt8.toNat_ofNat']; omega
  have e1 : (UInt8.ofNat (48 + d) == 45) = false := by
    rw [beq_eq_false_iff_ne]
    intro q
    rw [q] at e
    simp at e
    omega
  have e2 : (UInt8.ofNat (48 + d) == 43) = false := by
    rw [beq_eq_false_iff_ne]
    intro q
    rw [q] at e
    simp at e
    omega
  simp only [Lib.atoi, e1, e2, Lib.decNat, List.isEmpty_cons, Bool.false_eq_true, if_false, hd, Option.map_some, Lib.NumEnd.ofOption]
end Go.Proofs.YtiglabpemlogbaaDoor
