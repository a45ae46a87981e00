/- The document's answer: UTF-8, a text in quotation marks. -/
import Derived.Test.YtkoeihliaandeaaGreatDoorWorks
namespace Go.Proofs.YtkoeihliaandeaaGreatDoor
open Go.RowKit

set_option maxRecDepth 20000 in
set_option maxHeartbeats 4000000 in
theorem tail_any (X : Nat) (hX : X < 256) (w : World) : Calls Tryz.prog 80 #[.int .u8 (X : Int)] w fun e w' => e = .returned (.tuple #[.int .u8 ((lead X).1 : Int), .int .u8 ((lead X).2.1 : Int), .int .i64 ((lead X).2.2 : Int)]) ∧ w' = w := by
  by_cases c0 : 194 ≤ X ∧ X ≤ 223
  · have HL := hid (show lead X = (128, 191, 1) from by unfold lead; rw [if_pos c0])
    rw [HL.out]
    have a1 : (194 : Int) ≤ (X : Int) := by omega
    have a2 : (X : Int) ≤ 223 := by omega
    have n224 : ((X : Int) == 224) = false := by simp only [beq_eq_false_iff_ne, ne_eq]; omega
    have n237 : ((X : Int) == 237) = false := by simp only [beq_eq_false_iff_ne, ne_eq]; omega
    have n240 : ((X : Int) == 240) = false := by simp only [beq_eq_false_iff_ne, ne_eq]; omega
    have n244 : ((X : Int) == 244) = false := by simp only [beq_eq_false_iff_ne, ne_eq]; omega
    clear c0
    go_enter Tryz.func80, Tryz.ntmps80
    go_wp2
    all_goals first | (exfalso; omega) | (go_ret3; exact ⟨rfl, rfl⟩)
  by_cases c1 : X = 224
  · have HL := hid (show lead X = (160, 191, 2) from by unfold lead; rw [if_neg c0, if_pos c1])
    rw [HL.out]
    subst c1
    go_enter Tryz.func80, Tryz.ntmps80
    go_wp2
    all_goals first | (exfalso; omega) | (go_ret3; exact ⟨rfl, rfl⟩)
  by_cases c2 : X = 237
  · have HL := hid (show lead X = (128, 159, 2) from by unfold lead; rw [if_neg c0, if_neg c1, if_pos c2])
    rw [HL.out]
    subst c2
    go_enter Tryz.func80, Tryz.ntmps80
    go_wp2
    all_goals first | (exfalso; omega) | (go_ret3; exact ⟨rfl, rfl⟩)
  by_cases c3 : 225 ≤ X ∧ X ≤ 239
  · have HL := hid (show lead X = (128, 191, 2) from by unfold lead; rw [if_neg c0, if_neg c1, if_neg c2, if_pos c3])
    rw [HL.out]
    have a1 : (225 : Int) ≤ (X : Int) := by omega
    have a2 : (X : Int) ≤ 239 := by omega
    have n224 : ((X : Int) == 224) = false := by simp only [beq_eq_false_iff_ne, ne_eq]; omega
    have n237 : ((X : Int) == 237) = false := by simp only [beq_eq_false_iff_ne, ne_eq]; omega
    have n240 : ((X : Int) == 240) = false := by simp only [beq_eq_false_iff_ne, ne_eq]; omega
    have n244 : ((X : Int) == 244) = false := by simp only [beq_eq_false_iff_ne, ne_eq]; omega
    clear c0 c1 c2 c3
    go_enter Tryz.func80, Tryz.ntmps80
    go_wp2
    all_goals first | (exfalso; omega) | (go_ret3; exact ⟨rfl, rfl⟩)
  by_cases c4 : X = 240
  · have HL := hid (show lead X = (144, 191, 3) from by unfold lead; rw [if_neg c0, if_neg c1, if_neg c2, if_neg c3, if_pos c4])
    rw [HL.out]
    subst c4
    go_enter Tryz.func80, Tryz.ntmps80
    go_wp2
    all_goals first | (exfalso; omega) | (go_ret3; exact ⟨rfl, rfl⟩)
  by_cases c5 : 241 ≤ X ∧ X ≤ 243
  · have HL := hid (show lead X = (128, 191, 3) from by unfold lead; rw [if_neg c0, if_neg c1, if_neg c2, if_neg c3, if_neg c4, if_pos c5])
    rw [HL.out]
    have a1 : (241 : Int) ≤ (X : Int) := by omega
    have a2 : (X : Int) ≤ 243 := by omega
    have n224 : ((X : Int) == 224) = false := by simp only [beq_eq_false_iff_ne, ne_eq]; omega
    have n237 : ((X : Int) == 237) = false := by simp only [beq_eq_false_iff_ne, ne_eq]; omega
    have n240 : ((X : Int) == 240) = false := by simp only [beq_eq_false_iff_ne, ne_eq]; omega
    have n244 : ((X : Int) == 244) = false := by simp only [beq_eq_false_iff_ne, ne_eq]; omega
    clear c0 c1 c2 c3 c4 c5
    go_enter Tryz.func80, Tryz.ntmps80
    go_wp2
    all_goals first | (exfalso; omega) | (go_ret3; exact ⟨rfl, rfl⟩)
  by_cases c6 : X = 244
  · have HL := hid (show lead X = (128, 143, 3) from by unfold lead; rw [if_neg c0, if_neg c1, if_neg c2, if_neg c3, if_neg c4, if_neg c5, if_pos c6])
    rw [HL.out]
    subst c6
    go_enter Tryz.func80, Tryz.ntmps80
    go_wp2
    all_goals first | (exfalso; omega) | (go_ret3; exact ⟨rfl, rfl⟩)
  have HL := hid (show lead X = (0, 0, 0) from by unfold lead; rw [if_neg c0, if_neg c1, if_neg c2, if_neg c3, if_neg c4, if_neg c5, if_neg c6])
  rw [HL.out]
  have n224 : ((X : Int) == 224) = false := by simp only [beq_eq_false_iff_ne, ne_eq]; omega
  have n237 : ((X : Int) == 237) = false := by simp only [beq_eq_false_iff_ne, ne_eq]; omega
  have n240 : ((X : Int) == 240) = false := by simp only [beq_eq_false_iff_ne, ne_eq]; omega
  have n244 : ((X : Int) == 244) = false := by simp only [beq_eq_false_iff_ne, ne_eq]; omega
  go_enter Tryz.func80, Tryz.ntmps80
  go_wp2
  all_goals first | (exfalso; omega) | (go_ret3; exact ⟨rfl, rfl⟩)
theorem byte_at {s : ByteArray} {i : Nat} {c : UInt8} {t : B} (h : s.data.toList.drop i = c :: t) : ∃ hi : i < s.size, s[i]'hi = c := by
  have hlt : i < s.data.toList.length := by
    rcases Nat.lt_or_ge i s.data.toList.length with h1 | h1
    · exact h1
    · rw [List.drop_of_length_le h1] at h
      cases h
  refine ⟨hlt, ?_⟩
  have e : (s.data.toList.drop i)[0]? = some c := by rw [h]; rfl
  rw [List.getElem?_drop, Nat.add_zero, List.getElem?_eq_getElem hlt] at e
  have e4 : s.data[i]'hlt = c := by simpa using e
  exact e4
theorem drop_cons {s : ByteArray} {i : Nat} (h : i < s.size) : ∃ c t, s.data.toList.drop i = c :: t ∧ s.data.toList.drop (i + 1) = t := by
  have hlt : i < s.data.toList.length := h
  exact ⟨s.data.toList[i]'hlt, s.data.toList.drop (i + 1), drop_get hlt, rfl⟩
set_option maxRecDepth 20000 in
set_option maxHeartbeats 4000000 in
theorem rune_any (s : ByteArray) (p : Nat) (hp : p < s.size) (hs : s.size ≤ 4611686018427387904) (w : World) :
    Calls Tryz.prog 58 #[.string s, .int .i64 (p : Int)] w fun e w' => e = .returned (.tuple #[.int .i64 ((uni (s.data.toList.drop p)).1 : Int), .int .i64 (if (uni (s.data.toList.drop p)).1 = 0 then ((p + (uni (s.data.toList.drop p)).2 : Nat) : Int) else 0)]) ∧ w' = w := by
  obtain ⟨c, t, hd, ht⟩ := drop_cons hp
  obtain ⟨hi, hc⟩ := byte_at hd
  obtain ⟨X, hX⟩ : ∃ X : Nat, c.toNat = X := ⟨_, rfl⟩
  have hX256 : X < 256 := by rw [← hX]; exact c.toNat_lt
  have hb : ∀ h : p < s.size, (s[p]'h).toNat = X := fun h => by rw [hc, hX]
  have HT := hid ht
  rw [hd]
  obtain ⟨u1, hu1⟩ : ∃ u1, (uni (c :: t)).1 = u1 := ⟨_, rfl⟩
  obtain ⟨Bd, hBd⟩ : ∃ Bd : Int, (if (uni (c :: t)).1 = 0 then ((p + (uni (c :: t)).2 : Nat) : Int) else 0) = Bd := ⟨_, rfl⟩
  rw [hBd, hu1]
  have HUB := hid (show ∀ a b, uni (c :: t) = (a, b) → u1 = a ∧ Bd = if a = 0 then ((p + b : Nat) : Int) else 0 from fun a b e => by rw [← hu1, ← hBd, e]; exact ⟨rfl, rfl⟩)
  clear hu1 hBd
  by_cases h128 : X < 128
  · have HU := hid (show uni (c :: t) = (1, 0) from by simp only [uni]; rw [if_pos (by rw [hX]; exact h128)])
    obtain ⟨z1, z2⟩ := HUB.out _ _ HU.out
    have HZ := hid (And.intro z1 z2)
    clear z1 z2
    have a1 : (X : Int) < 128 := by omega
    clear hd ht hX hc
    go_enter Tryz.func58, Tryz.ntmps58
    go_wp2
    go_ret2
    rw [HZ.out.1, HZ.out.2]
    exact ⟨rfl, rfl⟩
  · have a1 : ¬ (X : Int) < 128 := by omega
    by_cases hn : (lead X).2.2 = 0
    · have HU := hid (show uni (c :: t) = (0, 0) from by simp only [uni]; rw [hX, if_neg h128, if_pos hn])
      obtain ⟨z1, z2⟩ := HUB.out _ _ HU.out
      have HZ := hid (And.intro z1 z2)
      clear z1 z2
      have HN := hid hn
      clear hd ht hX hc hn
      go_enter Tryz.func58, Tryz.ntmps58
      go_wp2_with (go_at_call 80; refine (tail_any X hX256 _).mono ?_; rintro e w1 ⟨rfl, rfl⟩; rw [HN.out])
      go_ret2
      rw [HZ.out.1, HZ.out.2]
      exact ⟨by simp, rfl⟩
    · obtain ⟨lo, hlo⟩ : ∃ lo, (lead X).1 = lo := ⟨_, rfl⟩
      obtain ⟨hi2, hhi⟩ : ∃ hi2, (lead X).2.1 = hi2 := ⟨_, rfl⟩
      obtain ⟨n, hnn⟩ : ∃ n, (lead X).2.2 = n := ⟨_, rfl⟩
      have hb3 : lo < 256 ∧ hi2 < 256 ∧ n ≤ 3 := by
        rw [← hlo, ← hhi, ← hnn]
        unfold lead
        (repeat' split) <;> simp
      have HTab := hid (And.intro hlo (And.intro hhi hnn))
      rw [hnn] at hn
      obtain ⟨T, hT⟩ : ∃ T, tailBad n lo hi2 t 1 = T := ⟨_, rfl⟩
      have HU := hid (show uni (c :: t) = T.elim (n + 1, 0) (fun i => (0, i)) from by
        simp only [uni]
        rw [hX, if_neg h128, hnn, if_neg hn, hlo, hhi, hT]
        cases T <;> rfl)
      have HTt := hid hT
      have n0 : ((n : Int) == 0) = false := by simp only [beq_eq_false_iff_ne, ne_eq]; omega
      clear hd ht hX hc hn hlo hhi hnn hT
      go_enter Tryz.func58, Tryz.ntmps58
      go_wp2_with (go_at_call 80; refine (tail_any X hX256 _).mono ?_; rintro e w1 ⟨rfl, rfl⟩; rw [HTab.out.1, HTab.out.2.1, HTab.out.2.2])
      go_loopg [6, 7, 9] (n + 1) (fun gk s6 s7 s9 wr => ∃ (i a b : Nat), 1 ≤ i ∧ i ≤ n + 1 ∧ gk = n + 1 - i + 1 ∧ s9 = .int .i64 (i : Int) ∧ s6 = .int .u8 (a : Int) ∧ s7 = .int .u8 (b : Int) ∧ tailBad (n + 1 - i) a b (s.data.toList.drop (p + i)) i = T ∧ wr = w1)
      case atStart => exact ⟨1, lo, hi2, by omega, by omega, by omega, rfl, rfl, rfl, by rw [HT.out]; exact HTt.out, rfl⟩
      case round =>
        obtain ⟨i, a, b, h1, h2, rfl, rfl, rfl, rfl, htb, rfl⟩ := hrel
        have HTb := hid htb
        clear htb
        by_cases hin : i ≤ n
        · obtain ⟨k, hk⟩ : ∃ k, n + 1 - i = k + 1 := ⟨n - i, by omega⟩
          have HK := hid hk
          have b1 : (i : Int) ≤ (n : Int) := by omega
          by_cases hend : p + i < s.size
          · obtain ⟨c2, t2, hd2, ht2⟩ := drop_cons hend
            obtain ⟨hi3, hc2⟩ := byte_at hd2
            obtain ⟨Y, hY⟩ : ∃ Y : Nat, c2.toNat = Y := ⟨_, rfl⟩
            have hby : ∀ h : p + i < s.size, (s[p + i]'h).toNat = Y := fun h => by rw [hc2, hY]
            have HStep := hid (show T = if Y < a ∨ b < Y then some i else tailBad k 128 191 (s.data.toList.drop (p + i + 1)) (i + 1) from by
              rw [← HTb.out, hk, hd2, ht2]
              simp only [tailBad]
              rw [hY])
            have e1 : ¬ (s.size : Int) ≤ (p : Int) + (i : Int) := by omega
            have hidx : ((p : Int) + (i : Int)).toNat = p + i := by omega
            clear hd2 ht2 hc2 hY hk
            by_cases hbad : Y < a ∨ b < Y
            · have HS2 := hid (show T = some i from by rw [HStep.out, if_pos hbad])
              by_cases hlt : Y < a
              · have f1 : (Y : Int) < (a : Int) := by omega
                clear hbad
                go_wp2
                all_goals first
                  | (exfalso; omega)
                  | (go_ret2; obtain ⟨z1, z2⟩ := HUB.out 0 i (by rw [HU.out, HS2.out]; rfl); rw [z1, z2]; exact ⟨by simp, rfl⟩)
              · have f1 : ¬ (Y : Int) < (a : Int) := by omega
                have f2 : (b : Int) < (Y : Int) := by omega
                clear hbad
                go_wp2
                all_goals first
                  | (exfalso; omega)
                  | (go_ret2; obtain ⟨z1, z2⟩ := HUB.out 0 i (by rw [HU.out, HS2.out]; rfl); rw [z1, z2]; exact ⟨by simp, rfl⟩)
            · have HS2 := hid (show T = tailBad k 128 191 (s.data.toList.drop (p + i + 1)) (i + 1) from by rw [HStep.out, if_neg hbad])
              have f1 : ¬ (Y : Int) < (a : Int) := by omega
              have f2 : ¬ (b : Int) < (Y : Int) := by omega
              clear hbad
              go_wp2
              go_roundg (n + 1 - (i + 1) + 1)
              case measure => omega
              case rel =>
                refine ⟨i + 1, 128, 191, by omega, by omega, rfl, by push_cast; rfl, rfl, rfl, ?_, rfl⟩
                rw [show n + 1 - (i + 1) = k by have := HK.out; omega, show p + (i + 1) = p + i + 1 by omega]
                exact HS2.out.symm
          · have HS2 := hid (show T = some i from by
              rw [← HTb.out, hk, List.drop_of_length_le (show s.data.toList.length ≤ p + i from by show s.size ≤ p + i; omega)]
              rfl)
            have e1 : (s.size : Int) ≤ (p : Int) + (i : Int) := by omega
            clear hk
            go_wp2
            go_ret2
            obtain ⟨z1, z2⟩ := HUB.out 0 i (by rw [HU.out, HS2.out]; rfl)
            rw [z1, z2]
            exact ⟨by simp, rfl⟩
        · have hie := hid (show i = n + 1 by omega)
          have b1 : ¬ ((i : Int) ≤ (n : Int)) := by omega
          have HS2 := hid (show T = none from by
            rw [← HTb.out, show n + 1 - i = 0 by have := hie.out; omega]
            rfl)
          go_wp2
          go_ret2
          obtain ⟨z1, z2⟩ := HUB.out (n + 1) 0 (by rw [HU.out, HS2.out]; rfl)
          rw [z1, z2]
          exact ⟨by simp, rfl⟩
set_option maxRecDepth 20000 in
set_option maxHeartbeats 4000000 in
theorem utf8_any (s : ByteArray) (hs : s.size ≤ 4611686018427387904) (w : World) :
    Calls Tryz.prog 45 #[.string s] w fun e w' => e = .returned (.bool (Lib.validD s.data.toList)) ∧ w' = w := by
  obtain ⟨G, hG⟩ : ∃ G, Lib.validD s.data.toList = G := ⟨_, rfl⟩
  have HG := hid hG
  rw [hG]
  clear hG
  go_enter Tryz.func45, Tryz.ntmps45
  go_wp2
  go_loopg [3] (s.size + 1) (fun gk s3 wr => ∃ i : Nat, i ≤ s.size ∧ gk = s.size - i + 1 ∧ s3 = .int .i64 (i : Int) ∧ Lib.validD (s.data.toList.drop i) = G ∧ wr = w)
  case atStart => exact ⟨0, by omega, rfl, rfl, HG.out, rfl⟩
  case round =>
    obtain ⟨i, hi, rfl, rfl, hv, rfl⟩ := hrel
    have HV := hid hv
    clear hv
    by_cases hin : i < s.size
    · have b1 : (i : Int) < (s.size : Int) := by omega
      obtain ⟨c, t, hd, _⟩ := drop_cons hin
      have HStep := hid (show G = if (uni (s.data.toList.drop i)).1 = 0 then false else Lib.validD ((s.data.toList.drop i).drop (uni (s.data.toList.drop i)).1) from by
        rw [← HV.out]
        exact valid_uni _ (by rw [hd]; simp))
      have hle : (uni (s.data.toList.drop i)).1 ≠ 0 → (uni (s.data.toList.drop i)).1 ≤ s.size - i := fun h => by
        obtain ⟨_, _, _, h2, _⟩ := uni_app _ h
        rw [List.length_drop] at h2
        exact h2
      clear hd
      have HRu := hid (rune_any s i hin hs wr)
      generalize hU : uni (s.data.toList.drop i) = U at HStep hle HRu
      obtain ⟨u1, u2⟩ := U
      simp only at HStep hle HRu
      clear hU
      by_cases h0 : u1 = 0
      · subst h0
        have HS2 := hid (show G = false from by rw [HStep.out]; rfl)
        go_wp2_with (go_at_call 58; refine HRu.out.mono ?_; rintro e w1 ⟨rfl, rfl⟩)
        go_ret
        rw [HS2.out]
        exact ⟨rfl, rfl⟩
      · have hle2 := hle h0
        have HS2 := hid (show G = Lib.validD (s.data.toList.drop (i + u1)) from by rw [HStep.out, if_neg h0, List.drop_drop])
        have q0 : ((u1 : Int) == 0) = false := by simp only [beq_eq_false_iff_ne, ne_eq]; omega
        have HR2 := HRu.out
        rw [if_neg h0] at HR2
        have HR3 := hid HR2
        clear HR2 HRu
        go_wp2_with (go_at_call 58; refine HR3.out.mono ?_; rintro e w1 ⟨rfl, rfl⟩)
        go_roundg (s.size - (i + u1) + 1)
        case measure => omega
        case rel => exact ⟨i + u1, by omega, rfl, by push_cast; rfl, HS2.out.symm, rfl⟩
    · obtain rfl : i = s.size := by omega
      have HS2 := hid (show G = true from by
        rw [← HV.out, List.drop_of_length_le (show s.data.toList.length ≤ s.size from Nat.le_refl _)]
        rfl)
      go_wp2
      go_ret
      rw [HS2.out]
      exact ⟨rfl, rfl⟩
end Go.Proofs.YtkoeihliaandeaaGreatDoor
