/- The document's digits and codes; texts of path bytes and codes. -/
import Derived.Test.YtbdbmlklijmefaaDoorRByte
import Derived.Test.YtbdbmlklijmefaaDoorOrder
namespace Go.Proofs.YtbdbmlklijmefaaDoor
open Go.RowKit

/-- A digit's value, or -1. -/
def hexI (c : UInt8) : Int := match hexN c with
  | some x => (x : Int)
  | none => -1
def digN (i : Nat) : Nat := if i < 10 then 48 + i else 87 + i
theorem hex_match (c : UInt8) (i : Nat) (h : i < 16) : hexN c = some i ↔ (c.toNat = digN i ∨ (65 ≤ c.toNat ∧ c.toNat ≤ 70 ∧ c.toNat + 32 = digN i)) := by
  unfold hexN digN
  simp only [UInt8.le_iff_toNat_le]
  have e1 : (48 : UInt8).toNat = 48 := rfl
  have e2 : (57 : UInt8).toNat = 57 := rfl
  have e3 : (97 : UInt8).toNat = 97 := rfl
  have e4 : (102 : UInt8).toNat = 102 := rfl
  have e5 : (65 : UInt8).toNat = 65 := rfl
  have e6 : (70 : UInt8).toNat = 70 := rfl
  rw [e1, e2, e3, e4, e5, e6]
  split
  · rw [Option.some.injEq]; split <;> omega
  · split
    · rw [Option.some.injEq]; split <;> omega
    · split
      · rw [Option.some.injEq]; split <;> omega
      · simp only [reduceCtorEq, false_iff]
        split <;> omega
theorem hex_yes {c : UInt8} {i : Nat} (h : hexN c = some i) : hexI c = (i : Int) := by unfold hexI; rw [h]
theorem hex_no {c : UInt8} (h : ∀ j, j < 16 → hexN c ≠ some j) : hexI c = -1 := by
  unfold hexI
  cases e : hexN c with
  | none => rfl
  | some x => exact absurd e (h x (hexN_lt e))
theorem dig_at (i : Nat) (hi : i < 16) : ∀ h : i < ({ data := #[48, 49, 50, 51, 52, 53, 54, 55, 56, 57, 97, 98, 99, 100, 101, 102] } : ByteArray).size, (({ data := #[48, 49, 50, 51, 52, 53, 54, 55, 56, 57, 97, 98, 99, 100, 101, 102] } : ByteArray)[i]'h).toNat = digN i := by
  intro h
  have key : ∀ K : Fin 16, ((#[48, 49, 50, 51, 52, 53, 54, 55, 56, 57, 97, 98, 99, 100, 101, 102] : Array UInt8)[K.val]?).map (·.toNat) = some (digN K.val) := by decide
  have h2 := key ⟨i, hi⟩
  have h3 : (#[48, 49, 50, 51, 52, 53, 54, 55, 56, 57, 97, 98, 99, 100, 101, 102] : Array UInt8)[i]? = some ((#[48, 49, 50, 51, 52, 53, 54, 55, 56, 57, 97, 98, 99, 100, 101, 102] : Array UInt8)[i]'h) := Array.getElem?_eq_getElem h
  simp only at h2
  rw [h3] at h2
  exact Option.some.inj h2
theorem hexI_bd (c : UInt8) : -1 ≤ hexI c ∧ hexI c < 16 := by
  unfold hexI
  cases e : hexN c with
  | none => simp
  | some x =>
    have := hexN_lt e
    simp only
    omega
set_option maxRecDepth 20000 in
set_option maxHeartbeats 8000000 in
theorem hex_any (c : UInt8) (w : World) : Calls Tryd.prog 69 #[byteV c] w fun e w' => e = .returned (.int .i64 (hexI c)) ∧ w' = w := by
  have h1 : c.toNat < 256 := c.toNat_lt
  have HM := hid (hex_match c)
  have HY := hid (fun i => @hex_yes c i)
  have HN := hid (@hex_no c)
  obtain ⟨H, hH⟩ : ∃ H, hexI c = H := ⟨_, rfl⟩
  rw [hH] at HY HN ⊢
  obtain ⟨X, hX⟩ : ∃ X, c.toNat = X := ⟨_, rfl⟩
  unfold byteV
  rw [hX] at h1 HM ⊢
  clear hX hH
  go_enter Tryd.func69, Tryd.ntmps69
  go_wp2
  go_loopg [3] 17 (fun gk s3 wr => ∃ i : Nat, i ≤ 16 ∧ gk = 16 - i + 1 ∧ s3 = .int .i64 (i : Int) ∧ (∀ j, j < i → hexN c ≠ some j) ∧ wr = w)
  case atStart => exact ⟨0, by omega, rfl, rfl, fun j hj => absurd hj (Nat.not_lt_zero _), rfl⟩
  case round =>
    obtain ⟨i, hi, rfl, rfl, hno, rfl⟩ := hrel
    have HNo := hid hno
    clear hno
    by_cases hin : i < 16
    · have HMi := hid (HM.out i hin)
      have HYi := hid (HY.out i)
      have hD : digN i < 256 := by unfold digN; split <;> omega
      have hd := dig_at i hin
      obtain ⟨D, hDD⟩ : ∃ D, digN i = D := ⟨_, rfl⟩
      rw [hDD] at HMi hd hD
      clear hDD
      by_cases q1 : X = D
      · have HV := hid (HYi.out (HMi.out.2 (.inl q1)))
        subst q1
        go_wp2
        go_ret
        exact ⟨by rw [HV.out]; rfl, rfl⟩
      · have q1b : ((D : Int) == (X : Int)) = false := by simp only [beq_eq_false_iff_ne, ne_eq]; omega
        have q1c : ¬ (D : Int) = (X : Int) := by omega
        by_cases q2 : 65 ≤ X ∧ X ≤ 70
        · have b1 : (65 : Int) ≤ (X : Int) := by omega
          have b2 : (X : Int) ≤ 70 := by omega
          have hwr : IntKind.u8.wrap ((X : Int) + 32) = (X : Int) + 32 := by rw [IntKind.wrap_u8]; omega
          by_cases q3 : X + 32 = D
          · have HV := hid (HYi.out (HMi.out.2 (.inr ⟨q2.1, q2.2, q3⟩)))
            have q4 : ((D : Int) == (X : Int) + 32) = true := by simp only [beq_iff_eq]; omega
            have q5 : (D : Int) = (X : Int) + 32 := by omega
            clear q3
            go_wp2
            go_ret
            exact ⟨by rw [HV.out]; rfl, rfl⟩
          · have HNx := hid (show ∀ j, j < i + 1 → hexN c ≠ some j from fun j hj => by
              by_cases e : j = i
              · rw [e]; intro hh; have := HMi.out.1 hh; omega
              · exact HNo.out j (by omega))
            have q4 : ((D : Int) == (X : Int) + 32) = false := by simp only [beq_eq_false_iff_ne, ne_eq]; omega
            have q5 : ¬ (D : Int) = (X : Int) + 32 := by omega
            go_wp2
            go_roundg (16 - (i + 1) + 1)
            case measure => omega
            case rel => exact ⟨i + 1, by omega, rfl, by push_cast; rfl, HNx.out, rfl⟩
        · have HNx := hid (show ∀ j, j < i + 1 → hexN c ≠ some j from fun j hj => by
            by_cases e : j = i
            · rw [e]; intro hh; have := HMi.out.1 hh; omega
            · exact HNo.out j (by omega))
          have q6 : ¬ 65 ≤ (X : Int) ∨ (65 ≤ (X : Int) ∧ ¬ (X : Int) ≤ 70) := by omega
          rcases q6 with q6 | ⟨q6, q7⟩
          · go_wp2
            go_roundg (16 - (i + 1) + 1)
            case measure => omega
            case rel => exact ⟨i + 1, by omega, rfl, by push_cast; rfl, HNx.out, rfl⟩
          · go_wp2
            go_roundg (16 - (i + 1) + 1)
            case measure => omega
            case rel => exact ⟨i + 1, by omega, rfl, by push_cast; rfl, HNx.out, rfl⟩
    · obtain rfl : 16 = i := by omega
      have HV := hid (HN.out HNo.out)
      go_wp2
      go_ret
      rw [HV.out]
      exact ⟨rfl, rfl⟩
/-- The byte of a code that begins here, or -1. -/
def codeI (l : B) : Int := match l with
  | c :: a :: b :: _ => (match codeOf c a b with
    | some v => (v.toNat : Int)
    | none => -1)
  | _ => -1
theorem codeI_short {l : B} (h : l.length < 3) : codeI l = -1 := by
  match l, h with
  | [], _ => rfl
  | [_], _ => rfl
  | [_, _], _ => rfl
  | _ :: _ :: _ :: r, h => exact absurd h (by simp)
theorem drop3 {s : B} {i : Nat} (h : i + 2 < s.length) : s.drop i = s[i] :: s[i + 1] :: s[i + 2] :: s.drop (i + 3) := by
  rw [List.drop_eq_getElem_cons (by omega), List.drop_eq_getElem_cons (by omega), List.drop_eq_getElem_cons (by omega)]
theorem codeI_at {c a b : UInt8} {r : B} : codeI (c :: a :: b :: r) = if c = 37 ∧ 0 ≤ hexI a ∧ 0 ≤ hexI b then hexI a * 16 + hexI b else -1 := by
  unfold codeI codeOf
  simp only
  by_cases h : c = 37
  · rw [if_pos h]
    unfold hexI
    cases ha : hexN a with
    | none => simp
    | some x =>
      cases hb : hexN b with
      | none => simp
      | some y =>
        have h1 := hexN_lt ha
        have h2 := hexN_lt hb
        simp only
        rw [if_pos ⟨h, by omega, by omega⟩, UInt8.toNat_ofNat']
        omega
  · rw [if_neg h, if_neg (fun q => h q.1)]
theorem codeI_bd (l : B) : -1 ≤ codeI l ∧ codeI l < 256 := by
  unfold codeI
  split
  · split
    · rename_i v _
      have := v.toNat_lt
      omega
    · omega
  · omega
set_option maxRecDepth 20000 in
set_option maxHeartbeats 8000000 in
theorem code_any (s : B) (i : Nat) (hs : s.length ≤ 70368744177664) (hi : i ≤ 70368744177664) (w : World) : Calls Tryd.prog 46 #[.string (str s), .int .i64 (i : Int)] w fun e w' => e = .returned (.int .i64 (codeI (s.drop i))) ∧ ∃ q, w' = w.drewN q := by
  obtain ⟨n, hn⟩ : ∃ n, s.length = n := ⟨_, rfl⟩
  obtain ⟨S, hS⟩ : ∃ S, str s = S := ⟨_, rfl⟩
  have hSn : S.size = n := by rw [← hS, str_size, hn]
  by_cases hlt : i + 2 < n
  · have h0 : i + 2 < s.length := by rw [hn]; exact hlt
    have e := drop3 h0
    obtain ⟨c, hc⟩ : ∃ c, s[i] = c := ⟨_, rfl⟩
    obtain ⟨a, ha⟩ : ∃ a, s[i + 1] = a := ⟨_, rfl⟩
    obtain ⟨b, hb⟩ : ∃ b, s[i + 2] = b := ⟨_, rfl⟩
    have b0 : ∀ h : i < S.size, S[i]'h = c := fun h => by subst hS; exact hc
    have b1 : ∀ h : i + 1 < S.size, S[i + 1]'h = a := fun h => by subst hS; exact ha
    have b2 : ∀ h : i + 2 < S.size, S[i + 2]'h = b := fun h => by subst hS; exact hb
    have HA := hid (hex_any a)
    have HB := hid (hex_any b)
    have hba := hexI_bd a
    have hbb := hexI_bd b
    rw [hc, ha, hb] at e
    have hR := codeI_at (c := c) (a := a) (b := b) (r := s.drop (i + 3))
    rw [← e] at hR
    have HR := hid hR
    rw [hS]
    rw [hn] at hs
    obtain ⟨R, hRR⟩ : ∃ R, codeI (s.drop i) = R := ⟨_, rfl⟩
    rw [hRR] at HR ⊢
    obtain ⟨VA, hVA⟩ : ∃ VA, hexI a = VA := ⟨_, rfl⟩
    obtain ⟨VB, hVB⟩ : ∃ VB, hexI b = VB := ⟨_, rfl⟩
    rw [hVA] at HA hba HR
    rw [hVB] at HB hbb HR
    clear hn hS h0 e hc ha hb hR hRR hVA hVB
    by_cases q37 : c = 37
    · subst q37
      by_cases qa : 0 ≤ VA
      · by_cases qb : 0 ≤ VB
        · have HV := hid (show R = VA * 16 + VB from by rw [HR.out, if_pos ⟨rfl, qa, qb⟩])
          have hw1 : IntKind.i64.wrap ((i : Int) + 1) = (i : Int) + 1 := by rw [IntKind.wrap_i64]; omega
          have hw2 : IntKind.i64.wrap ((i : Int) + 2) = (i : Int) + 2 := by rw [IntKind.wrap_i64]; omega
          have hw3 : IntKind.i64.wrap (VA * 16) = VA * 16 := by rw [IntKind.wrap_i64]; omega
          have hw4 : IntKind.i64.wrap (VA * 16 + VB) = VA * 16 + VB := by rw [IntKind.wrap_i64]; omega
          have ht1 : ((i : Int) + 1).toNat = i + 1 := by omega
          have ht2 : ((i : Int) + 2).toNat = i + 2 := by omega
          have hl1 : 0 ≤ (i : Int) + 1 ∧ (i : Int) + 1 < (n : Int) := by omega
          have hl2 : 0 ≤ (i : Int) + 2 ∧ (i : Int) + 2 < (n : Int) := by omega
          go_enter Tryd.func46, Tryd.ntmps46
          go_wp2_with (first
            | (go_at_call 69; (with_reducible refine (HA.out _).mono ?_); rintro e w1 ⟨rfl, rfl⟩)
            | (go_at_call 69; (with_reducible refine (HB.out _).mono ?_); rintro e w1 ⟨rfl, rfl⟩))
          refine wp_region_noPanic ?_
          refine any_begin 13 (by kernel_rfl) (by kernel_rfl) ?_
          refine any_take (i := 0) (some 32) rfl rfl (by kernel_rfl) (by kernel_rfl) (by kernel_rfl) (fun _ _ _ h => h) (by rfl) (v := ?v0q) ?hy0q ?rest0q
          case hy0q => intro w0; go_simp; try with_reducible rfl
          simp only [Act.put, List.setIfInBounds_toArray, List.set_cons_zero, List.set_cons_succ]
          refine any_take (i := 1) (some 33) rfl rfl (by kernel_rfl) (by kernel_rfl) (by kernel_rfl) (fun _ _ _ h => h) (by rfl) (v := ?v1q) ?hy1q ?rest1q
          case hy1q => intro w0; go_simp; try with_reducible rfl
          simp only [Act.put, List.setIfInBounds_toArray, List.set_cons_zero, List.set_cons_succ]
          refine any_take (i := 2) (some 34) rfl rfl (by kernel_rfl) (by kernel_rfl) (by kernel_rfl) (fun _ _ _ h => h) (by rfl) (v := ?v2q) ?hy2q ?rest2q
          case hy2q => intro w0; go_simp; try with_reducible rfl
          simp only [Act.put, List.setIfInBounds_toArray, List.set_cons_zero, List.set_cons_succ]
          refine any_take (i := 3) (some 35) rfl rfl (by kernel_rfl) (by kernel_rfl) (by kernel_rfl) (fun _ _ _ h => h) (by rfl) (v := ?v3q) ?hy3q ?rest3q
          case hy3q => intro w0; go_simp; try with_reducible rfl
          simp only [Act.put, List.setIfInBounds_toArray, List.set_cons_zero, List.set_cons_succ]
          refine any_take (i := 6) (some 38) rfl rfl (by kernel_rfl) (by kernel_rfl) (by kernel_rfl) (fun _ _ _ h => h) (by rfl) (v := ?v6q) ?hy6q ?rest6q
          case hy6q => intro w0; go_simp; try with_reducible rfl
          simp only [Act.put, List.setIfInBounds_toArray, List.set_cons_zero, List.set_cons_succ]
          refine any_take (i := 7) (some 39) rfl rfl (by kernel_rfl) (by kernel_rfl) (by kernel_rfl) (fun _ _ _ h => h) (by rfl) (v := ?v7q) ?hy7q ?rest7q
          case hy7q => intro w0; go_simp; try with_reducible rfl
          simp only [Act.put, List.setIfInBounds_toArray, List.set_cons_zero, List.set_cons_succ]
          refine any_take (i := 8) (some 40) rfl rfl (by kernel_rfl) (by kernel_rfl) (by kernel_rfl) (fun _ _ _ h => h) (by rfl) (v := ?v8q) ?hy8q ?rest8q
          case hy8q => intro w0; go_simp; try with_reducible rfl
          simp only [Act.put, List.setIfInBounds_toArray, List.set_cons_zero, List.set_cons_succ]
          refine any_take (i := 9) (some 41) rfl rfl (by kernel_rfl) (by kernel_rfl) (by kernel_rfl) (fun _ _ _ h => h) (by rfl) (v := ?v9q) ?hy9q ?rest9q
          case hy9q => intro w0; go_simp; try with_reducible rfl
          simp only [Act.put, List.setIfInBounds_toArray, List.set_cons_zero, List.set_cons_succ]
          refine any_one (i := 4) (by kernel_rfl) rfl (fun K hK => ?_)
          go_simp
          go_at_call 69
          refine (HA.out _).mono ?_
          rintro e w5 ⟨rfl, rfl⟩
          refine hK _ _ ?_
          clear hK K
          refine any_take (i := 5) (some 37) rfl rfl (by kernel_rfl) (by kernel_rfl) (by kernel_rfl) (fun _ _ _ h => h) (by rfl) (v := ?v5q) ?hy5q ?rest5q
          case hy5q => intro w0; go_simp; try with_reducible rfl
          simp only [Act.put, List.setIfInBounds_toArray, List.set_cons_zero, List.set_cons_succ]
          refine any_one (i := 10) (by kernel_rfl) rfl (fun K hK => ?_)
          go_simp
          go_at_call 69
          refine (HB.out _).mono ?_
          rintro e w6 ⟨rfl, rfl⟩
          refine hK _ _ ?_
          clear hK K
          refine any_take (i := 11) (some 43) rfl rfl (by kernel_rfl) (by kernel_rfl) (by kernel_rfl) (fun _ _ _ h => h) (by rfl) (v := ?v11q) ?hy11q ?rest11q
          case hy11q => intro w0; go_simp; try with_reducible rfl
          simp only [Act.put, List.setIfInBounds_toArray, List.set_cons_zero, List.set_cons_succ]
          refine any_take (i := 12) (some 4) rfl rfl (by kernel_rfl) (by kernel_rfl) (by kernel_rfl) (fun _ _ _ h => h) (by rfl) (v := ?v12q) ?hy12q ?rest12q
          case hy12q => intro w0; go_simp; try with_reducible rfl
          simp only [Act.put, List.setIfInBounds_toArray, List.set_cons_zero, List.set_cons_succ]
          refine any_done (by kernel_rfl) ?_ _
          refine NoPanic.normal ?_
          go_wp2
          go_ret
          exact ⟨by rw [HV.out]; rfl, 1, rfl⟩
        · have HV := hid (show R = -1 from by rw [HR.out, if_neg (fun q => qb q.2.2)])
          have qb2 : VB < 0 := by omega
          go_enter Tryd.func46, Tryd.ntmps46
          go_wp2_with (first
            | (go_at_call 69; (with_reducible refine (HA.out _).mono ?_); rintro e w1 ⟨rfl, rfl⟩)
            | (go_at_call 69; (with_reducible refine (HB.out _).mono ?_); rintro e w1 ⟨rfl, rfl⟩))
          go_ret
          exact ⟨by rw [HV.out]; rfl, 0, rfl⟩
      · have HV := hid (show R = -1 from by rw [HR.out, if_neg (fun q => qa q.2.1)])
        have qa2 : VA < 0 := by omega
        go_enter Tryd.func46, Tryd.ntmps46
        go_wp2_with (go_at_call 69; (with_reducible refine (HA.out _).mono ?_); rintro e w1 ⟨rfl, rfl⟩)
        go_ret
        exact ⟨by rw [HV.out]; rfl, 0, rfl⟩
    · have HV := hid (show R = -1 from by rw [HR.out, if_neg (fun q => q37 q.1)])
      have z1 : ¬ (c.toNat : Int) = 37 := fun e => q37 (UInt8.toNat_inj.1 (by show c.toNat = 37; omega))
      have z2 : ((c.toNat : Int) == 37) = false := by simpa using z1
      clear q37
      go_enter Tryd.func46, Tryd.ntmps46
      go_wp2
      go_ret
      exact ⟨by rw [HV.out]; rfl, 0, rfl⟩
  · have HV := hid (show codeI (s.drop i) = -1 from codeI_short (by rw [List.length_drop, hn]; omega))
    rw [hS]
    rw [hn] at hs
    rw [HV.out]
    clear hn hS
    have z1 : (n : Int) ≤ (i : Int) + 2 := by omega
    go_enter Tryd.func46, Tryd.ntmps46
    go_wp2
    go_ret
    exact ⟨rfl, 0, rfl⟩
end Go.Proofs.YtbdbmlklijmefaaDoor
