/- A pattern filled in, plain; a text without slashes, by the law. -/
import Derived.Test.YtdjjkcpnjocafaaDoorTBeats
namespace Go.Proofs.YtdjjkcpnjocafaaDoor
open Go.RowKit

def plT (s : B) : B := (s.take 20).filter fun c => decide (c ≠ 47)
def valT (vals : List B) (k : Nat) : B := 118 :: (match vals[k]? with | some s => plT s | none => [])
theorem plT_len (s : B) : (plT s).length ≤ 20 := Nat.le_trans (List.length_filter_le _ _) (by rw [List.length_take]; omega)
theorem valT_len (vals : List B) (k : Nat) : (valT vals k).length ≤ 21 := by
  unfold valT
  split
  · rename_i s _
    have := plT_len s
    simp
    omega
  · simp
theorem valT_slash (vals : List B) (k : Nat) : (47 : UInt8) ∉ valT vals k := by
  unfold valT
  split
  · simp [plT]
  · simp
theorem fill_snoc (v : Nat → B) : ∀ (a : List B) (k : Nat) (x : B), fillT v k (a ++ [x]) = fillT v k a ++ [if kindT x = 0 then x else v (k + (wantT v k a).length)]
  | [], k, x => by
    show (if kindT x = 0 then [x] else [v k]) = [if kindT x = 0 then x else v k]
    split <;> rfl
  | y :: a, k, x => by
    show (if kindT y = 0 then y :: fillT v k (a ++ [x]) else v k :: fillT v (k + 1) (a ++ [x])) = (if kindT y = 0 then y :: fillT v k a else v k :: fillT v (k + 1) a) ++ [if kindT x = 0 then x else v (k + (if kindT y = 0 then wantT v k a else v k :: wantT v (k + 1) a).length)]
    by_cases h : kindT y = 0
    · rw [if_pos h, if_pos h, if_pos h, fill_snoc v a k x]
      rfl
    · rw [if_neg h, if_neg h, if_neg h, fill_snoc v a (k + 1) x, List.length_cons, show k + 1 + (wantT v (k + 1) a).length = k + ((wantT v (k + 1) a).length + 1) by omega]
      rfl
theorem want_snoc (v : Nat → B) : ∀ (a : List B) (k : Nat) (x : B), wantT v k (a ++ [x]) = wantT v k a ++ (if kindT x = 0 then [] else [v (k + (wantT v k a).length)])
  | [], k, x => rfl
  | y :: a, k, x => by
    show (if kindT y = 0 then wantT v k (a ++ [x]) else v k :: wantT v (k + 1) (a ++ [x])) = (if kindT y = 0 then wantT v k a else v k :: wantT v (k + 1) a) ++ (if kindT x = 0 then [] else [v (k + (if kindT y = 0 then wantT v k a else v k :: wantT v (k + 1) a).length)])
    by_cases h : kindT y = 0
    · rw [if_pos h, if_pos h, want_snoc v a k x]
    · rw [if_neg h, if_neg h, want_snoc v a (k + 1) x, List.length_cons, show k + 1 + (wantT v (k + 1) a).length = k + ((wantT v (k + 1) a).length + 1) by omega]
      rfl
theorem want_len (v : Nat → B) : ∀ (a : List B) (k : Nat), (wantT v k a).length ≤ a.length
  | [], _ => Nat.le_refl _
  | y :: a, k => by
    have h1 := want_len v a k
    have h2 := want_len v a (k + 1)
    show (if kindT y = 0 then wantT v k a else v k :: wantT v (k + 1) a).length ≤ _
    split <;> simp <;> omega
/-- The path that comes of a pattern's segments. -/
def pathT (v : Nat → B) (a : List B) : B := (fillT v 0 a).flatMap fun x => 47 :: x
theorem path_snoc (v : Nat → B) (a : List B) (x : B) : pathT v (a ++ [x]) = pathT v a ++ 47 :: (if kindT x = 0 then x else v (wantT v 0 a).length) := by
  unfold pathT
  rw [fill_snoc, List.flatMap_append, Nat.zero_add]
  simp
theorem flat_join : ∀ l : List B, l ≠ [] → (l.flatMap fun x : B => 47 :: x) = 47 :: joinT l
  | [], h => absurd rfl h
  | [x], _ => by simp [joinT]
  | x :: y :: l, _ => by
    rw [List.flatMap_cons, flat_join (y :: l) (by simp), joinT_cons x (by simp)]
    simp
theorem fill_ne (v : Nat → B) {a : List B} (h : a ≠ []) (k : Nat) : fillT v k a ≠ [] := by
  cases a with
  | nil => exact absurd rfl h
  | cons x a =>
    show (if kindT x = 0 then x :: fillT v k a else v k :: fillT v (k + 1) a) ≠ []
    split <;> simp
theorem fill_slash (v : Nat → B) (hv : ∀ k, (47 : UInt8) ∉ v k) : ∀ (a : List B) (k : Nat), (∀ x ∈ a, (47 : UInt8) ∉ x) → ∀ x ∈ fillT v k a, (47 : UInt8) ∉ x
  | [], _, _, x, h => by cases h
  | y :: a, k, ha, x, h => by
    have h2 : x ∈ (if kindT y = 0 then y :: fillT v k a else v k :: fillT v (k + 1) a) := h
    split at h2
    · rcases List.mem_cons.1 h2 with h3 | h3
      · rw [h3]; exact ha y (by simp)
      · exact fill_slash v hv a k (fun z hz => ha z (by simp [hz])) x h3
    · rcases List.mem_cons.1 h2 with h3 | h3
      · rw [h3]; exact hv k
      · exact fill_slash v hv a (k + 1) (fun z hz => ha z (by simp [hz])) x h3
/-- What is filled in fits, and gives back what was filled in. -/
theorem fill_fits {p : B} (hc : checkP p = true) (vals : List B) : ∃ F, fitsO p (pathT (valT vals) (cutT p.tail)) = some (some F) ∧ F.map (·.2) = wantT (valT vals) 0 (cutT p.tail) := by
  obtain ⟨t, e, _, _, hr⟩ := check_parts hc
  obtain ⟨F, h1, h2⟩ := fits_fill (valT vals) (fun k h => by unfold valT at h; cases h) (cutT t) 0 hr
  have hne := fill_ne (valT vals) (cutT_ne t) 0
  have hpath : pathT (valT vals) (cutT t) = 47 :: joinT (fillT (valT vals) 0 (cutT t)) := flat_join _ hne
  have hcut : cutT (joinT (fillT (valT vals) 0 (cutT t))) = fillT (valT vals) 0 (cutT t) := cutT_join _ hne (fill_slash _ (valT_slash vals) _ 0 (fun x hx => cutT_noslash t x hx))
  refine ⟨F, ?_, by rw [e]; exact h2⟩
  rw [e] at hc ⊢
  show fitsO (47 :: t) (pathT (valT vals) (cutT t)) = _
  rw [hpath]
  unfold fitsO
  rw [hc]
  show some (fitsT (cutT t) (cutT (joinT (fillT (valT vals) 0 (cutT t))))) = _
  rw [hcut, h1]
set_option maxRecDepth 20000 in
set_option maxHeartbeats 8000000 in
theorem plain_any (s : B) (hs : s.length ≤ 9223372036854775807) (w : World) : Calls Tryd.prog 24 #[.string (str s)] w fun e w' => e = .returned (.string (str (plT s))) ∧ Below w.heap.size w w' := by
  obtain ⟨j0, hj0, hy0, hy1, hy2⟩ := info_parts infoB
  obtain ⟨n, hn⟩ : ∃ n, s.length = n := ⟨_, rfl⟩
  have HN := hid hn
  obtain ⟨S, hS⟩ : ∃ S, str s = S := ⟨_, rfl⟩
  have hSn : S.size = n := by rw [← hS, str_size, hn]
  have HByte := hid (show ∀ (k : Nat) (h : k < s.length) (h2 : k < S.size), S[k]'h2 = s[k]'h from fun k h h2 => by subst hS; rfl)
  rw [hn] at hs
  obtain ⟨R, hR⟩ : ∃ R, str (plT s) = R := ⟨_, rfl⟩
  have HR := hid hR
  rw [hS, hR]
  clear hS hn hR
  go_enter Tryd.func24, Tryd.ntmps24
  go_wp2
  go_loopg [3, 4] (21) (fun gk s3 s4 wr => ∃ (i m c : Nat) (p : Option Addr) (acc : B), i ≤ n ∧ i ≤ 20 ∧ gk = 20 - i + 1 ∧ s4 = .int .i64 (i : Int) ∧ s3 = .slice p m c ∧ acc.length = m ∧ m ≤ i ∧ acc = (s.take i).filter (fun c => decide (c ≠ 47)) ∧ Own wr w.heap.size (.slice p m c) acc ∧ Below w.heap.size w wr)
  case atStart => exact ⟨0, 0, 0, none, [], by omega, by omega, rfl, rfl, rfl, rfl, by omega, rfl, Own.nil _ _, Below.refl _ _⟩
  case round =>
    obtain ⟨i, m, c, p, acc, hi, hi20, rfl, rfl, rfl, hm, hmi, hacc, ho, hb⟩ := hrel
    have HO := hid ho
    have HB := hid hb
    have HM := hid hm
    have HA := hid hacc
    clear ho hb hm hacc
    by_cases hlt : i < n ∧ i < 20
    · have h3 : i < s.length := by rw [HN.out]; exact hlt.1
      have hin := hlt.1
      have hi2 := hlt.2
      have hd1 : decide ((i : Int) < (n : Int)) = true := decide_eq_true (by omega)
      have hd2 : decide ((i : Int) < 20) = true := decide_eq_true (by omega)
      obtain ⟨y, hy⟩ : ∃ y, s[i] = y := ⟨_, rfl⟩
      obtain ⟨Y, hY⟩ : ∃ Y : Nat, y.toNat = Y := ⟨_, rfl⟩
      have hY256 : Y < 256 := by rw [← hY]; exact y.toNat_lt
      have hbyte : ∀ h : i < S.size, (S[i]'h).toNat = Y := fun h => by rw [HByte.out i h3 h, hy, hY]
      have HT := hid (show (s.take (i + 1)).filter (fun c => decide (c ≠ 47)) = acc ++ (if y = 47 then [] else [y]) from by
        rw [List.take_succ_eq_append_getElem h3, List.filter_append, ← HA.out, hy]
        congr 1
        by_cases h : y = 47
        · rw [if_pos h, h]; rfl
        · rw [if_neg h]
          simp [h])
      have HYv := hid (show Lib.byteCells [y] = [.int .u8 (Y : Int)] from by rw [one_cell, hY])
      by_cases hc : y = 47
      · obtain rfl : Y = 47 := by rw [← hY, hc]; rfl
        rw [if_pos hc, List.append_nil] at HT
        clear hy hY hc
        go_wp2
        go_roundg (20 - (i + 1) + 1)
        case measure => omega
        case rel => exact ⟨i + 1, m, c, p, acc, by omega, by omega, rfl, by push_cast; go_num, rfl, HM.out, by omega, HT.out.symm, HO.out, HB.out⟩
      · have z1 : ¬ (Y : Int) = 47 := fun e => hc (UInt8.toNat_inj.1 (by rw [hY]; show Y = 47; omega))
        have z2 : ((Y : Int) == 47) = false := by simpa using z1
        have z3 : ((Y : Int) != 47) = true := by simpa using z1
        rw [if_neg hc] at HT
        clear hy hY hc
        go_wp2_with (at_builtin; refine wpList_append_own_at _ rfl (.tmp 19) (.tmp 23) 92 rfl w.heap.size 5 j0 _ 1 1 Tryd.underlying92 hj0 hy0 hy1 hy2 rfl (by decide) (.slice p m c) m (Lib.byteCells acc) (by go_simp) (by have h8 := HO.out.alloc (.cells #[.int .u8 (Y : Int)] 5 (0, 0)); unfold Own at h8; rw [HM.out] at h8; exact h8) ⟨wr.heap.size, 0, none⟩ 1 1 [.int .u8 (Y : Int)] (by go_simp) rfl (cells_new wr _ _) (by simp [Value.oneCell']) (by unfold maxLen; omega) (by omega) (by have h1 := HB.out.size; simp; omega) ?_; intro v' w' hown hgr _ _; obtain ⟨p7, L7, c7, rfl⟩ := own_slice3 hown; have HO7 := hid (show Own w' w.heap.size (.slice p7 L7 c7) (acc ++ [y]) from Own.put (k := 1) (by rw [HM.out]; exact hown) HYv.out rfl); have HB7 := hid ((HB.out.trans ((below_new wr _).mono HB.out.size)).trans ((HO.out.alloc _).below (by have h1 := HB.out.size; simp; omega) hgr)); obtain ⟨hL7, _⟩ : L7 = m + 1 ∧ True := ⟨row_len hown, trivial⟩; subst hL7; clear hown hgr)
        go_roundg (20 - (i + 1) + 1)
        case measure => omega
        case rel => exact ⟨i + 1, m + 1, c7, p7, acc ++ [y], by omega, by omega, rfl, by push_cast; go_num, rfl, by rw [List.length_append, HM.out]; rfl, by omega, HT.out.symm, HO7.out, HB7.out⟩
    · have HV := hid (show acc = plT s from by
        rw [HA.out]
        unfold plT
        by_cases h : i < n
        · rw [show i = 20 by omega]
        · rw [List.take_of_length_le (by rw [HN.out]; omega), List.take_of_length_le (by rw [HN.out]; omega)])
      have hcv := conv_own HO.out
      rw [HV.out] at hcv
      rw [HR.out] at hcv
      by_cases h : i < n
      · have hd1 : decide ((i : Int) < (n : Int)) = true := decide_eq_true (by omega)
        have h20 : ¬ i < 20 := by omega
        have hd2 : decide ((i : Int) < 20) = false := decide_eq_false (by omega)
        go_wp2
        go_ret
        exact ⟨rfl, HB.out⟩
      · have hd1 : decide ((i : Int) < (n : Int)) = false := decide_eq_false (by omega)
        go_wp2
        go_ret
        exact ⟨rfl, HB.out⟩
end Go.Proofs.YtdjjkcpnjocafaaDoor
