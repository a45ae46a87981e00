/- A path's segments, by the document. -/
import Derived.Test.YtdjjkcpnjocafaaDoorTSpec
namespace Go.Proofs.YtdjjkcpnjocafaaDoor
open Go.RowKit

theorem cutT_at {l : B} {m : Nat} (h : ∀ y ∈ l.take m, y ≠ 47) (he : l[m]? = some 47) : cutT l = l.take m :: cutT (l.drop (m + 1)) := by
  have hm : m < l.length := (List.getElem?_eq_some_iff.1 he).1
  have e : l = l.take m ++ 47 :: l.drop (m + 1) := by
    conv => lhs; rw [← List.take_append_drop m l, List.drop_eq_getElem_cons hm, (List.getElem?_eq_some_iff.1 he).2]
  conv => lhs; rw [e]
  exact cutT_app _ _ (fun h1 => h 47 h1 rfl)
theorem cutT_end {l : B} {m : Nat} (h : ∀ y ∈ l.take m, y ≠ 47) (he : l.length ≤ m) : cutT l = [l.take m] := by
  rw [List.take_of_length_le he] at h ⊢
  exact cutT_only _ (fun h1 => h 47 h1 rfl)
theorem cutT_len : ∀ s : B, (cutT s).length ≤ s.length + 1
  | [] => Nat.le_refl _
  | c :: s => by
    have ih := cutT_len s
    rw [cutT_cons]
    split
    · simp; omega
    · split
      · simp
      · rename_i y l e
        rw [e] at ih
        simp at ih ⊢
        omega
set_option maxRecDepth 20000 in
set_option maxHeartbeats 4000000 in
theorem rsplit_nil (w : World) : Calls Tryd.prog 30 #[.string ⟨#[]⟩] w fun e w' => e = .returned (.tuple #[.slice none 0 0, .bool false]) ∧ w' = w := by
  go_enter Tryd.func30, Tryd.ntmps30
  go_wp2
  go_ret2
  exact ⟨rfl, rfl⟩
set_option maxRecDepth 20000 in
set_option maxHeartbeats 4000000 in
theorem rsplit_not (b : UInt8) (t : B) (hb : b ≠ 47) (hs : t.length < 4398046511104) (w : World) : Calls Tryd.prog 30 #[.string (str (b :: t))] w fun e w' => e = .returned (.tuple #[.slice none 0 0, .bool false]) ∧ w' = w := by
  obtain ⟨S, hS⟩ : ∃ S, str (b :: t) = S := ⟨_, rfl⟩
  have hSn : S.size = t.length + 1 := by rw [← hS, str_size]; rfl
  obtain ⟨Y, hY⟩ : ∃ Y : Nat, b.toNat = Y := ⟨_, rfl⟩
  have hY256 : Y < 256 := by rw [← hY]; exact b.toNat_lt
  have hbyte : ∀ h : 0 < S.size, (S[0]'h).toNat = Y := fun h => by subst hS; exact hY
  have z1 : ¬ (Y : Int) = 47 := fun e => hb (UInt8.toNat_inj.1 (by rw [hY]; show Y = 47; omega))
  have z2 : ((Y : Int) == 47) = false := by simpa using z1
  have z3 : ((Y : Int) != 47) = true := by simpa using z1
  rw [hS]
  clear hS hY hb
  go_enter Tryd.func30, Tryd.ntmps30
  go_wp2
  go_ret2
  exact ⟨rfl, rfl⟩
set_option maxRecDepth 20000 in
set_option maxHeartbeats 8000000 in
theorem rsplit_yes (t : B) (hs : t.length < 4398046511104) (w : World) : Calls Tryd.prog 30 #[.string (str (47 :: t))] w fun e w' => ∃ p c, e = .returned (.tuple #[.slice p (cutT t).length c, .bool true]) ∧ OwnS w' w.heap.size (.slice p (cutT t).length c) (cutT t) ∧ Below w.heap.size w w' := by
  obtain ⟨j0, hj0, hy0, hy1, hy2⟩ := info_parts infoS
  obtain ⟨s, hss⟩ : ∃ s : B, 47 :: t = s := ⟨_, rfl⟩
  obtain ⟨n, hn⟩ : ∃ n, s.length = n := ⟨_, rfl⟩
  have hn1 : 1 ≤ n := by rw [← hn, ← hss]; simp
  have hs : n ≤ 4398046511104 := by rw [← hn, ← hss]; simp; omega
  have hn0 : ((n : Int) == 0) = false := by simp; omega
  have HN := hid hn
  obtain ⟨S, hS⟩ : ∃ S, str s = S := ⟨_, rfl⟩
  have hSn : S.size = n := by rw [← hS, str_size, hn]
  have hbyte0 : ∀ h : 0 < S.size, (S[0]'h).toNat = 47 := fun h => by subst hS; subst hss; rfl
  have HByte := hid (show ∀ (k : Nat) (h : k < s.length) (h2 : k < S.size), S[k]'h2 = s[k]'h from fun k h h2 => by subst hS; rfl)
  have HEx := hid (ext_str s)
  obtain ⟨R, hR0⟩ : ∃ R, cutT t = R := ⟨_, rfl⟩
  have HR0 := hid (show cutT (s.drop 1) = R from by rw [← hss]; exact hR0)
  rw [hS] at HEx
  rw [hss, hS, hR0]
  clear hn hS hR0 hss
  go_enter Tryd.func30, Tryd.ntmps30
  go_wp2
  go_loopg [4, 5, 6] (n + 1) (fun gk s4 s5 s6 wr => ∃ i f : Nat, 1 ≤ i ∧ f ≤ i ∧ i ≤ n + 1 ∧ gk = n + 1 - i + 1 ∧ s6 = .int .i64 (i : Int) ∧ s5 = .int .i64 (f : Int) ∧ ∃ acc : List B, OwnS wr w.heap.size s4 acc ∧ acc.length ≤ i ∧ ((i ≤ n ∧ (∀ y ∈ (s.drop f).take (i - f), y ≠ 47) ∧ R = acc ++ cutT (s.drop f)) ∨ (i = n + 1 ∧ R = acc)) ∧ Below w.heap.size w wr)
  case atStart => exact ⟨1, 1, by omega, by omega, by omega, by omega, rfl, rfl, [], OwnS.nil w _, by simp, .inl ⟨hn1, fun y hy => by simp at hy, by rw [HR0.out]; simp⟩, Below.refl _ _⟩
  case round =>
    obtain ⟨i, f, hi1, hf, hi2, rfl, rfl, rfl, acc, ho, hln0, hR, hb⟩ := hrel
    have HB := hid hb
    have HR := hid hR
    obtain ⟨ln, hln⟩ : ∃ ln, acc.length = ln := ⟨_, rfl⟩
    have HLe := hid hln
    obtain ⟨p, c0, rfl⟩ := own_slice ho
    have HO := hid ho
    rw [hln] at HO hln0 ⊢
    clear ho hb hln hR
    have hext : S.extract f i = str ((s.drop f).take (i - f)) := HEx.out f i
    by_cases hin : i < n
    · have hi3 : i < s.length := by rw [HN.out]; exact hin
      obtain ⟨y, hy⟩ : ∃ y, s[i] = y := ⟨_, rfl⟩
      obtain ⟨Y, hY⟩ : ∃ Y : Nat, y.toNat = Y := ⟨_, rfl⟩
      have hY256 : Y < 256 := by rw [← hY]; exact y.toNat_lt
      have hbyte : ∀ h : i < S.size, (S[i]'h).toNat = Y := fun h => by rw [HByte.out i hi3 h, hy, hY]
      have HIx := hid (show (s.drop f)[i - f]? = some y from by rw [List.getElem?_drop, show f + (i - f) = i by omega, List.getElem?_eq_getElem hi3, hy])
      have HNo := hid (show (∀ y ∈ (s.drop f).take (i - f), y ≠ 47) ∧ R = acc ++ cutT (s.drop f) from HR.out.elim (fun h => h.2) (fun h => absurd h.1 (by omega)))
      have hle : i ≤ n := by omega
      have hne : ¬ i = n := by omega
      clear hy hi3 HR
      by_cases hc : y = 47
      · obtain rfl : Y = 47 := by rw [← hY, hc]; rfl
        have HNx := hid (show R = acc ++ [(s.drop f).take (i - f)] ++ cutT (s.drop (i + 1)) from by
          rw [HNo.out.2, cutT_at HNo.out.1 (by rw [HIx.out, hc]), List.drop_drop, show f + (i - f + 1) = i + 1 by omega]
          simp)
        clear hc hY
        go_wp2_with (at_builtin; refine wpList_append_own_at _ rfl (.tmp 31) (.tmp 36) 23 rfl w.heap.size 9 j0 _ 1 16 Tryd.underlying23 hj0 hy0 hy1 hy2 rfl (by decide) (.slice p ln c0) ln (strC acc) (by go_simp) (by have h8 := HO.out.alloc (.cells #[.string (str ((s.drop f).take (i - f)))] 9 (0, 0)); unfold OwnS at h8; rw [HLe.out] at h8; exact h8) ⟨wr.heap.size, 0, none⟩ 1 1 [.string (str ((s.drop f).take (i - f)))] (by go_simp) rfl (cells_new wr _ _) (by simp [Value.oneCell']) (by unfold maxLen; omega) (by omega) (Nat.le_trans HB.out.size (below_new _ _).size) ?_; intro v' w' hown hgr _ _; obtain ⟨p7, L7, c7, rfl⟩ := own_slice3 hown; have HB2 := hid (HB.out.trans (((below_new wr (.cells #[.string (str ((s.drop f).take (i - f)))] 9 (0, 0))).mono HB.out.size).trans (OwnS.below (HO.out.alloc (.cells #[.string (str ((s.drop f).take (i - f)))] 9 (0, 0))) (Nat.le_trans HB.out.size (below_new _ _).size) hgr))); have HW := hid (OwnS.put (acc := acc) (t := (s.drop f).take (i - f)) (by rw [HLe.out]; exact hown)); clear hown hgr)
        go_roundg (n + 1 - (i + 1) + 1)
        case measure => omega
        case rel => exact ⟨i + 1, i + 1, by omega, by omega, by omega, rfl, by push_cast; go_num, by push_cast; go_num, _, HW.out, by rw [List.length_append, HLe.out]; simp; omega, .inl ⟨by omega, fun y hy => by simp at hy, HNx.out⟩, HB2.out⟩
      · have z1 : ¬ (Y : Int) = 47 := fun e => hc (UInt8.toNat_inj.1 (by rw [hY]; show Y = 47; omega))
        have z2 : ((Y : Int) == 47) = false := by simpa using z1
        have HNy := hid (show ∀ y ∈ (s.drop f).take (i + 1 - f), y ≠ 47 from fun z hz => by
          rw [show i + 1 - f = i - f + 1 by omega, List.take_add_one, HIx.out] at hz
          rcases List.mem_append.1 hz with hz | hz
          · exact HNo.out.1 z hz
          · simp at hz
            rw [hz]
            exact hc)
        clear hc hY
        go_wp2
        go_roundg (n + 1 - (i + 1) + 1)
        case measure => omega
        case rel => exact ⟨i + 1, f, by omega, by omega, by omega, rfl, by push_cast; go_num, rfl, acc, by have h8 := HO.out; exact h8, by rw [HLe.out]; omega, .inl ⟨by omega, HNy.out, HNo.out.2⟩, HB.out⟩
    · by_cases hie : i = n
      · have HNx := hid (show R = acc ++ [(s.drop f).take (i - f)] from by
          rcases HR.out with h | h
          · rw [h.2.2, cutT_end h.2.1 (by rw [List.length_drop, HN.out]; omega)]
          · omega)
        subst hie
        clear HR
        go_wp2_with (at_builtin; refine wpList_append_own_at _ rfl (.tmp 31) (.tmp 36) 23 rfl w.heap.size 9 j0 _ 1 16 Tryd.underlying23 hj0 hy0 hy1 hy2 rfl (by decide) (.slice p ln c0) ln (strC acc) (by go_simp) (by have h8 := HO.out.alloc (.cells #[.string (str ((s.drop f).take (i - f)))] 9 (0, 0)); unfold OwnS at h8; rw [HLe.out] at h8; exact h8) ⟨wr.heap.size, 0, none⟩ 1 1 [.string (str ((s.drop f).take (i - f)))] (by go_simp) rfl (cells_new wr _ _) (by simp [Value.oneCell']) (by unfold maxLen; omega) (by omega) (Nat.le_trans HB.out.size (below_new _ _).size) ?_; intro v' w' hown hgr _ _; obtain ⟨p7, L7, c7, rfl⟩ := own_slice3 hown; have HB2 := hid (HB.out.trans (((below_new wr (.cells #[.string (str ((s.drop f).take (i - f)))] 9 (0, 0))).mono HB.out.size).trans (OwnS.below (HO.out.alloc (.cells #[.string (str ((s.drop f).take (i - f)))] 9 (0, 0))) (Nat.le_trans HB.out.size (below_new _ _).size) hgr))); have HW := hid (OwnS.put (acc := acc) (t := (s.drop f).take (i - f)) (by rw [HLe.out]; exact hown)); clear hown hgr)
        go_roundg (i + 1 - (i + 1) + 1)
        case measure => omega
        case rel => exact ⟨i + 1, i + 1, by omega, by omega, by omega, rfl, by push_cast; go_num, by push_cast; go_num, _, HW.out, by rw [List.length_append, HLe.out]; simp; omega, .inr ⟨rfl, HNx.out⟩, HB2.out⟩
      · have HV := hid (show R = acc from HR.out.elim (fun h => absurd h.1 (by omega)) (fun h => h.2))
        have hi9 : i = n + 1 := by omega
        clear HR
        go_wp2
        go_ret2
        rw [HV.out, HLe.out]
        exact ⟨p, c0, rfl, HO.out, HB.out⟩
end Go.Proofs.YtdjjkcpnjocafaaDoor
