/- Small functions of the program: how texts begin, which bytes they have, which segment a text is. -/
import Derived.Test.YtdjjkcpnjocafaaDoorTMem
import Derived.Test.YtdjjkcpnjocafaaDoorTJoin
import Derived.Test.YtdjjkcpnjocafaaDoorCBytes
namespace Go.Proofs.YtdjjkcpnjocafaaDoor
open Go.RowKit

def begB (x : UInt8) (s : B) : Bool := match s with
  | c :: _ => decide (c = x)
  | [] => false
set_option maxRecDepth 20000 in
set_option maxHeartbeats 4000000 in
theorem hasp_lite (x : UInt8) (s : B) (hs : s.length ≤ 140737488355328) (w : World) : Calls Tryd.prog 65 #[.string (str s), .string ⟨#[x]⟩] w fun e w' => e = .returned (.bool (begB x s)) ∧ w' = w := by
  cases s with
  | nil =>
    show Calls Tryd.prog 65 #[.string ⟨#[]⟩, .string ⟨#[x]⟩] w _
    have hz : (⟨#[x]⟩ : ByteArray).size = 1 := rfl
    obtain ⟨X, hX⟩ : ∃ X : ByteArray, ⟨#[x]⟩ = X := ⟨_, rfl⟩
    rw [hX] at hz ⊢
    clear hX
    go_enter Tryd.func65, Tryd.ntmps65
    go_wp2
    go_ret
    exact ⟨rfl, rfl⟩
  | cons b t =>
    obtain ⟨m, hm⟩ : ∃ m, t.length = m := ⟨_, rfl⟩
    have hm2 : m ≤ 140737488355328 := by rw [← hm]; simp at hs; omega
    obtain ⟨S, hS⟩ : ∃ S, str (b :: t) = S := ⟨_, rfl⟩
    have hSn : S.size = m + 1 := by rw [← hS, str_size, ← hm]; rfl
    have hx1 : S.extract 0 1 = str [b] := by rw [← hS, ext_str]; rfl
    obtain ⟨X, hX⟩ : ∃ X : ByteArray, ⟨#[x]⟩ = X := ⟨_, rfl⟩
    have hz : X.size = 1 := by rw [← hX]; rfl
    by_cases hc : b = x
    · have hx2 : S.extract 0 1 = X := by rw [hx1, hc]; exact hX
      have hv : begB x (b :: t) = true := decide_eq_true hc
      rw [hv, hS, hX]
      clear hS hX hc hv hm hx1
      go_enter Tryd.func65, Tryd.ntmps65
      go_wp2
      go_ret
      exact ⟨rfl, rfl⟩
    · have hx2 : ¬ S.extract 0 1 = X := fun e => hc (by
        rw [hx1, ← hX] at e
        have := congrArg (fun a : ByteArray => a.data.toList) e
        simpa using this)
      have hx3 : ((S.extract 0 1).toList == X.toList) = false := ne_list hx2
      have hv : begB x (b :: t) = false := decide_eq_false hc
      rw [hv, hS, hX]
      clear hS hX hc hv hm hx1
      go_enter Tryd.func65, Tryd.ntmps65
      go_wp2
      go_ret
      exact ⟨rfl, rfl⟩
set_option maxRecDepth 20000 in
set_option maxHeartbeats 4000000 in
theorem hasp_any (x : UInt8) (s : B) (hs : s.length ≤ 140737488355328) (w : World) : Calls Tryd.prog 49 #[.string (str s), .string ⟨#[x]⟩] w fun e w' => e = .returned (.bool (begB x s)) ∧ w' = w := by
  have HL := hid (fun W : World => hasp_lite x s hs W)
  obtain ⟨S, hS⟩ : ∃ S, str s = S := ⟨_, rfl⟩
  obtain ⟨X, hX⟩ : ∃ X : ByteArray, ⟨#[x]⟩ = X := ⟨_, rfl⟩
  rw [hS, hX] at HL ⊢
  go_enter Tryd.func49, Tryd.ntmps49
  go_wp2_with (go_at_call 65; (with_reducible refine (HL.out _).mono ?_); rintro e w1 ⟨rfl, hw1⟩; subst w1)
  go_ret
  exact ⟨rfl, rfl⟩
set_option maxRecDepth 20000 in
set_option maxHeartbeats 4000000 in
theorem begins_any (s : B) (hs : s.length ≤ 140737488355328) (w : World) : Calls Tryd.prog 34 #[.string (str s)] w fun e w' => e = .returned (.bool (begB 47 s)) ∧ w' = w := by
  have HL := hid (fun W : World => hasp_any 47 s hs W)
  obtain ⟨S, hS⟩ : ∃ S, str s = S := ⟨_, rfl⟩
  rw [hS] at HL ⊢
  go_enter Tryd.func34, Tryd.ntmps34
  go_wp2_with (go_at_call 49; (with_reducible refine (HL.out _).mono ?_); rintro e w1 ⟨rfl, hw1⟩; subst w1)
  go_ret
  exact ⟨rfl, rfl⟩
def cutP (x : UInt8) (s : B) : B := if begB x s then s.tail else s
set_option maxRecDepth 20000 in
set_option maxHeartbeats 4000000 in
theorem cutp_lite (x : UInt8) (s : B) (hs : s.length ≤ 140737488355328) (w : World) : Calls Tryd.prog 70 #[.string (str s), .string ⟨#[x]⟩] w fun e w' => e = .returned (.tuple #[.string (str (cutP x s)), .bool (begB x s)]) ∧ w' = w := by
  have HL := hid (fun W : World => hasp_lite x s hs W)
  obtain ⟨n, hn⟩ : ∃ n, s.length = n := ⟨_, rfl⟩
  obtain ⟨S, hS⟩ : ∃ S, str s = S := ⟨_, rfl⟩
  have hSn : S.size = n := by rw [← hS, str_size, hn]
  obtain ⟨X, hX⟩ : ∃ X : ByteArray, ⟨#[x]⟩ = X := ⟨_, rfl⟩
  have hz : X.size = 1 := by rw [← hX]; rfl
  cases hb : begB x s with
  | false =>
    have e1 : str (cutP x s) = S := by unfold cutP; rw [hb, if_neg (by decide)]; exact hS
    rw [hb] at HL
    rw [e1]
    rw [hS, hX] at HL ⊢
    clear hS hX hb e1
    go_enter Tryd.func70, Tryd.ntmps70
    go_wp2_with (go_at_call 65; (with_reducible refine (HL.out _).mono ?_); rintro e w1 ⟨rfl, hw1⟩; subst w1)
    go_ret2
    exact ⟨rfl, rfl⟩
  | true =>
    have h1 : 1 ≤ n := by
      rw [← hn]
      cases s with
      | nil => cases hb
      | cons _ _ => simp
    have HE := hid (show S.extract 1 n = str (cutP x s) from by rw [← hS, ext_drop s 1 n hn]; unfold cutP; rw [hb, if_pos rfl, List.drop_one])
    obtain ⟨T, hT⟩ : ∃ T, str (cutP x s) = T := ⟨_, rfl⟩
    have hn2 : n ≤ 140737488355328 := by omega
    rw [hT] at HE ⊢
    rw [hb] at HL
    rw [hS, hX] at HL ⊢
    have he := HE.out
    clear hS hX hb hT hn HE
    go_enter Tryd.func70, Tryd.ntmps70
    go_wp2_with (go_at_call 65; (with_reducible refine (HL.out _).mono ?_); rintro e w1 ⟨rfl, hw1⟩; subst w1)
    go_ret2
    exact ⟨rfl, rfl⟩
set_option maxRecDepth 20000 in
set_option maxHeartbeats 4000000 in
theorem cutp_any (x : UInt8) (s : B) (hs : s.length ≤ 140737488355328) (w : World) : Calls Tryd.prog 56 #[.string (str s), .string ⟨#[x]⟩] w fun e w' => e = .returned (.tuple #[.string (str (cutP x s)), .bool (begB x s)]) ∧ w' = w := by
  have HL := hid (fun W : World => cutp_lite x s hs W)
  obtain ⟨S, hS⟩ : ∃ S, str s = S := ⟨_, rfl⟩
  obtain ⟨X, hX⟩ : ∃ X : ByteArray, ⟨#[x]⟩ = X := ⟨_, rfl⟩
  rw [hS, hX] at HL ⊢
  go_enter Tryd.func56, Tryd.ntmps56
  go_wp2_with (go_at_call 70; (with_reducible refine (HL.out _).mono ?_); rintro e w1 ⟨rfl, hw1⟩; subst w1)
  go_ret2
  exact ⟨rfl, rfl⟩
def visU (c : UInt8) : Bool := visB (c.toNat : Int)
def tokT (s : B) : Bool := isTok (str s)
theorem vis_stop {s : B} {k : Nat} (h : k < s.length) (hv : visU s[k] = false) : s.all visU = false := by
  rw [List.all_eq_false]
  exact ⟨s[k], List.getElem_mem h, by simp [hv]⟩
set_option maxRecDepth 20000 in
set_option maxHeartbeats 4000000 in
theorem isvis_any (s : B) (hs : s.length ≤ 140737488355328) (w : World) : Calls Tryd.prog 58 #[.string (str s)] w fun e w' => e = .returned (.bool (s.all visU)) ∧ w' = w := by
  obtain ⟨n, hn⟩ : ∃ n, s.length = n := ⟨_, rfl⟩
  have HN := hid hn
  obtain ⟨S, hS⟩ : ∃ S, str s = S := ⟨_, rfl⟩
  have hSn : S.size = n := by rw [← hS, str_size, hn]
  have HByte := hid (show ∀ (k : Nat) (h : k < s.length) (h2 : k < S.size), S[k]'h2 = s[k]'h from fun k h h2 => by subst hS; rfl)
  have hn2 : n ≤ 140737488355328 := by omega
  rw [hS]
  clear hS hn hs
  go_enter Tryd.func58, Tryd.ntmps58
  go_wp2
  go_loop [6] (fun i => ∃ k : Nat, k ≤ n ∧ i = .int .i64 k ∧ (s.take k).all visU = true) (fun i => n - (intOf i).toNat)
  case atStart => exact ⟨0, Nat.zero_le _, rfl, rfl⟩
  case round =>
    obtain ⟨k, hk, rfl, hall⟩ := hrel
    by_cases hlt : k < n
    · have h3 : k < s.length := by rw [HN.out]; exact hlt
      obtain ⟨y, hy⟩ : ∃ y, s[k] = y := ⟨_, rfl⟩
      obtain ⟨Y, hY⟩ : ∃ Y : Nat, y.toNat = Y := ⟨_, rfl⟩
      have hY256 : Y < 256 := by rw [← hY]; exact y.toNat_lt
      have hbyte : ∀ h : k < S.size, (S[k]'h).toNat = Y := fun h => by rw [HByte.out k h3 h, hy, hY]
      have hvy : visU y = visB (Y : Int) := by unfold visU; rw [hY]
      have HA := hid hall
      have HT := hid (show (s.take (k + 1)).all visU = (visB (Y : Int)) from by rw [List.take_succ_eq_append_getElem h3, List.all_append, hall, hy]; simp [hvy])
      have HF := hid (show visB (Y : Int) = false → s.all visU = false from fun h => vis_stop h3 (by rw [hy, hvy]; exact h))
      clear hy hY hall hvy
      cases hv : visB (Y : Int) with
      | true =>
        go_wp2_with (go_at_call 72; refine (visible_any _ _ (by omega) (by omega)).mono ?_; rintro e w' ⟨rfl, rfl⟩)
        go_round
        case rel => exact ⟨k + 1, by omega, by go_num, by rw [HT.out, hv]⟩
        case measure => simp [intOf]; omega
      | false =>
        go_wp2_with (go_at_call 72; refine (visible_any _ _ (by omega) (by omega)).mono ?_; rintro e w' ⟨rfl, rfl⟩)
        go_ret
        exact ⟨ret_bool (HF.out hv).symm, rfl⟩
    · obtain rfl : n = k := by omega
      have HA := hid (show s.all visU = true from by rw [List.take_of_length_le (by rw [HN.out]; exact Nat.le_refl _)] at hall; exact hall)
      clear hall
      go_wp2
      go_ret
      exact ⟨ret_bool HA.out.symm, rfl⟩
end Go.Proofs.YtdjjkcpnjocafaaDoor
