/- Labels, by the program: which may be, and those of a host or a pattern. -/
import Derived.Test.YtkjgdfihhhdjaaaDoorSShelf
import Derived.BigQuiet
namespace Go.Proofs.YtkjgdfihhhdjaaaDoor
open Go.RowKit

def lowI (c : Int) : Bool := digB c || (decide (97 ≤ c) && decide (c ≤ 122)) || decide (c = 45) || decide (c = 95)
def lowU (c : UInt8) : Bool := lowI (c.toNat : Int)
def isLabB (s : B) : Bool := s.all lowU && decide (s ≠ []) && decide (s.length ≤ 63)
theorem lowU_small (c : UInt8) : lowU (smallU c) = hostU c := by
  unfold lowU hostU lowI hostI
  rw [smallU_val]
  have h1 := c.toNat_lt
  unfold smallV
  rw [Bool.eq_iff_iff]
  split <;> simp [digB] <;> omega
theorem smallU_eq {c x : UInt8} (hx : ¬ (65 ≤ x.toNat ∧ x.toNat ≤ 90)) (hx2 : ¬ (97 ≤ x.toNat ∧ x.toNat ≤ 122)) : smallU c = x ↔ c = x := by
  unfold smallU
  by_cases h : 65 ≤ c.toNat ∧ c.toNat ≤ 90
  · rw [if_pos h]
    constructor
    · intro e
      have := congrArg UInt8.toNat e
      rw [UInt8.toNat_ofNat'] at this
      omega
    · intro e
      subst e
      exact absurd h hx
  · rw [if_neg h]
theorem cutH_low : ∀ s : B, cutH (lowH s) = (cutH s).map lowH
  | [] => rfl
  | c :: s => by
    have ih := cutH_low s
    show cutH (smallU c :: lowH s) = _
    rw [cutH_cons, cutH_cons]
    have hd : smallU c = 46 ↔ c = 46 := smallU_eq (by decide) (by decide)
    by_cases h : c = 46
    · rw [if_pos (hd.2 h), if_pos h, ih]
      rfl
    · rw [if_neg (fun e => h (hd.1 e)), if_neg h, ih]
      cases cutH s <;> rfl
theorem star_low (x : B) : lowH x = starL ↔ x = [42] := by
  cases x with
  | nil => simp [lowH, starL]
  | cons c r =>
    cases r with
    | nil =>
      have : smallU c = 42 ↔ c = 42 := smallU_eq (by decide) (by decide)
      simp [lowH, starL, this]
    | cons d r => simp [lowH, starL]
theorem low_len (x : B) : (lowH x).length = x.length := by simp [lowH]
theorem low_all (x : B) : (lowH x).all lowU = x.all hostU := by
  unfold lowH
  rw [List.all_map]
  congr 1
  funext c
  exact lowU_small c
/-- Which labels in small letters may be. -/
def okP (wild : Bool) (x : B) : Bool := isLabB x || (wild && decide (x = starL))
theorem okP_low (wild : Bool) (x : B) : okP wild (lowH x) = okLab wild x := by
  unfold okP isLabB okLab
  rw [low_all, low_len]
  have h0 : (lowH x ≠ []) ↔ 1 ≤ x.length := by
    rw [← low_len x]
    cases lowH x <;> simp
  have hs := star_low x
  rw [Bool.eq_iff_iff]
  simp only [Bool.or_eq_true, Bool.and_eq_true, decide_eq_true_eq, h0, hs]
  constructor
  · rintro (⟨⟨h1, h2⟩, h3⟩ | ⟨h1, h2⟩)
    · exact ⟨⟨h2, h3⟩, .inr h1⟩
    · exact ⟨⟨by rw [h2]; decide, by rw [h2]; decide⟩, .inl ⟨h1, h2⟩⟩
  · rintro ⟨⟨h1, h2⟩, h3 | h3⟩
    · exact .inr h3
    · exact .inl ⟨⟨h3, h1⟩, h2⟩
theorem labsH_low (wild : Bool) (s : B) : labsH wild s = if 253 < s.length then none else if (cutH (lowH s)).all (okP wild) then some (cutH (lowH s)) else none := by
  unfold labsH
  have e : (cutH (lowH s)).all (okP wild) = (cutH s).all (okLab wild) := by
    rw [cutH_low, List.all_map]
    congr 1
    funext x
    exact okP_low wild x
  by_cases h0 : s = []
  · subst h0
    cases wild <;> rfl
  · by_cases h1 : 253 < s.length
    · rw [if_pos (.inr h1), if_pos h1]
    · rw [if_neg (fun h => h.elim h0 h1), if_neg h1, e, cutH_low]
theorem lab_snoc (S : ByteArray) (k : Nat) (h : k < S.size) : (S.data.toList.take (k + 1)).all lowU = ((S.data.toList.take k).all lowU && lowI (S[k].toNat : Int)) := by
  rw [List.take_succ_eq_append_getElem (by simpa using h), List.all_append]
  simp [lowU]
  rfl
theorem lab_stop (S : ByteArray) (k : Nat) (h : k < S.size) (hv : lowI (S[k].toNat : Int) = false) : isLabB S.data.toList = false := by
  unfold isLabB
  have : S.data.toList.all lowU = false := by
    rw [List.all_eq_false]
    exact ⟨S[k], List.getElem_mem (by simpa using h), by unfold lowU; rw [hv]; simp⟩
  rw [this]; rfl
theorem lab_end (S : ByteArray) (h : (S.data.toList.take S.size).all lowU = true) : isLabB S.data.toList = (decide (¬ S = ⟨#[]⟩) && decide (S.size ≤ 63)) := by
  unfold isLabB
  rw [List.take_of_length_le (by simp)] at h
  rw [h, Bool.true_and]
  congr 1
  rw [Bool.eq_iff_iff]
  simp only [decide_eq_true_eq]
  constructor
  · intro h1 e; subst e; exact h1 rfl
  · intro h1 e; exact h1 (arr_inj e)
set_option maxRecDepth 20000 in
set_option maxHeartbeats 4000000 in
theorem isLabel_arr (S : ByteArray) (w : World) (hs : S.size ≤ 140737488355328) :
    Calls Tryd.prog 45 #[.string S] w fun e w' => e = .returned (.bool (isLabB S.data.toList)) ∧ w' = w := by
  go_enter Tryd.func45, Tryd.ntmps45
  go_wp2
  go_loop [7] (fun i => ∃ k : Nat, k ≤ S.size ∧ i = .int .i64 k ∧ (S.data.toList.take k).all lowU = true) (fun i => S.size - (intOf i).toNat)
  case atStart => exact ⟨0, Nat.zero_le _, rfl, rfl⟩
  case round =>
    obtain ⟨k, hk, rfl, hall⟩ := hrel
    by_cases hlt : k < S.size
    · have hb := S[k].toNat_lt
      have HG := hid (show lowI (S[k].toNat : Int) = true → (S.data.toList.take (k + 1)).all lowU = true from fun h => by rw [lab_snoc S k hlt, hall, h]; rfl)
      have HF := hid (show lowI (S[k].toNat : Int) = false → isLabB S.data.toList = false from lab_stop S k hlt)
      clear hall
      obtain ⟨Y, hY⟩ : ∃ Y, S[k].toNat = Y := ⟨_, rfl⟩
      rw [hY] at HG HF hb
      cases hd : digB (Y : Int) with
      | true =>
        go_wp2_with (go_at_call 59; refine (digit_any _ _ (by omega) (by omega)).mono ?_; rintro e w' ⟨rfl, rfl⟩)
        go_round
        case rel => exact ⟨k + 1, by omega, by go_num, HG.out (by unfold lowI; simp [hd])⟩
        case measure => simp [intOf]; omega
      | false =>
        by_cases h97 : Y < 97
        · have i97 : (Y : Int) < 97 := by omega
          by_cases h45 : Y = 45
          · have i45 : (Y : Int) = 45 := by omega
            have j45 : ((Y : Int) != 45) = false := by rw [i45]; rfl
            go_wp2_with (go_at_call 59; refine (digit_any _ _ (by omega) (by omega)).mono ?_; rintro e w' ⟨rfl, rfl⟩)
            go_round
            case rel => exact ⟨k + 1, by omega, by go_num, HG.out (by unfold lowI; simp [i45])⟩
            case measure => simp [intOf]; omega
          · have i45 : ¬ (Y : Int) = 45 := by omega
            have j45 : ((Y : Int) != 45) = true := by simpa using i45
            by_cases h95 : Y = 95
            · have i95 : (Y : Int) = 95 := by omega
              have j95 : ((Y : Int) != 95) = false := by rw [i95]; rfl
              go_wp2_with (go_at_call 59; refine (digit_any _ _ (by omega) (by omega)).mono ?_; rintro e w' ⟨rfl, rfl⟩)
              go_round
              case rel => exact ⟨k + 1, by omega, by go_num, HG.out (by unfold lowI; simp [i95])⟩
              case measure => simp [intOf]; omega
            · have i95 : ¬ (Y : Int) = 95 := by omega
              have j95 : ((Y : Int) != 95) = true := by simpa using i95
              go_wp2_with (go_at_call 59; refine (digit_any _ _ (by omega) (by omega)).mono ?_; rintro e w' ⟨rfl, rfl⟩)
              go_ret
              exact ⟨ret_bool (HF.out (by unfold lowI; simp [hd]; omega)).symm, rfl⟩
        · have i97 : ¬ (Y : Int) < 97 := by omega
          by_cases h122 : 122 < Y
          · have i122 : (122 : Int) < (Y : Int) := by omega
            have i45 : ¬ (Y : Int) = 45 := by omega
            have j45 : ((Y : Int) != 45) = true := by simpa using i45
            have i95 : ¬ (Y : Int) = 95 := by omega
            have j95 : ((Y : Int) != 95) = true := by simpa using i95
            go_wp2_with (go_at_call 59; refine (digit_any _ _ (by omega) (by omega)).mono ?_; rintro e w' ⟨rfl, rfl⟩)
            go_ret
            exact ⟨ret_bool (HF.out (by unfold lowI; simp [hd]; omega)).symm, rfl⟩
          · have i122 : ¬ (122 : Int) < (Y : Int) := by omega
            have i1 : (97 : Int) ≤ (Y : Int) := by omega
            have i2 : (Y : Int) ≤ 122 := by omega
            go_wp2_with (go_at_call 59; refine (digit_any _ _ (by omega) (by omega)).mono ?_; rintro e w' ⟨rfl, rfl⟩)
            go_round
            case rel => exact ⟨k + 1, by omega, by go_num, HG.out (by unfold lowI; simp [i1, i2])⟩
            case measure => simp [intOf]; omega
    · obtain rfl : k = S.size := by omega
      have HE := hid (lab_end S hall)
      clear hall
      by_cases h0 : S = ⟨#[]⟩
      · subst h0
        go_wp2
        go_ret
        exact ⟨ret_bool (by rw [HE.out]; rfl), rfl⟩
      · have hne2 : (S.toList == (⟨#[]⟩ : ByteArray).toList) = false := ne_list h0
        have hne3 : S.toList.isEmpty = false := ne_empty h0
        have hne4 : (S.toList == []) = false := by have h := hne2; rw [ByteArray.toList_eq, ByteArray.toList_eq] at h; rw [ByteArray.toList_eq]; exact h
        go_wp2
        go_ret
        exact ⟨ret_bool (by rw [HE.out]; simp [h0]; try omega), rfl⟩
theorem isLabel_any (x : B) (w : World) (hs : x.length ≤ 140737488355328) :
    Calls Tryd.prog 45 #[.string (str x)] w fun e w' => e = .returned (.bool (isLabB x)) ∧ w' = w := isLabel_arr (str x) w (by rw [str_size]; exact hs)
theorem below_low (s : B) (w : World) (hs : s.length ≤ 253) : Calls Tryd.prog 30 #[.string (str s)] w fun e w' => e = .returned (.string (str (lowH s))) ∧ Below w.heap.size w w' := by
  have h := lower_any (str s) w (by rw [str_size]; unfold maxLen; omega)
  rw [lowS_strH] at h
  exact h
abbrev err3 : Value := .iface 72 (.int .i64 3)
def PLab (o : Option (List B)) (w : World) (e : Ending) (w' : World) : Prop := Below w.heap.size w w' ∧ match o with
  | none => e = .returned (.tuple #[.slice none 0 0, err3])
  | some L => ∃ q d, e = .returned (.tuple #[.slice q L.length d, .nilIface]) ∧ OwnS w' w.heap.size (.slice q L.length d) L
theorem plab_no {o : Option (List B)} {w w' : World} {e : Ending} (h : o = none) (he : e = .returned (.tuple #[.slice none 0 0, err3])) (hb : Below w.heap.size w w') : PLab o w e w' := by subst h; exact ⟨hb, he⟩
theorem plab_yes {o : Option (List B)} {L : List B} {w w' : World} {e : Ending} {q : Option Addr} {n d : Nat} (h : o = some L) (hn : L.length = n) (he : e = .returned (.tuple #[.slice q n d, .nilIface])) (ho : OwnS w' w.heap.size (.slice q n d) L) (hb : Below w.heap.size w w') : PLab o w e w' := by subst h; subst hn; exact ⟨hb, q, d, he, ho⟩
theorem cutH_mem_len : ∀ {s : B} {x : B}, x ∈ cutH s → x.length ≤ s.length
  | [], x, h => by simp [cutH] at h; subst h; exact Nat.le_refl _
  | c :: s, x, h => by
    rw [cutH_cons] at h
    split at h
    · rcases List.mem_cons.1 h with h | h
      · subst h; exact Nat.zero_le _
      · have := cutH_mem_len h; simp; omega
    · split at h
      · simp at h; subst h; simp
      · rename_i y l e
        rcases List.mem_cons.1 h with h | h
        · subst h
          have := @cutH_mem_len s y (by rw [e]; simp)
          simp; omega
        · have := @cutH_mem_len s x (by rw [e]; simp [h])
          simp; omega
set_option maxRecDepth 20000 in
set_option maxHeartbeats 8000000 in
theorem plabels_any (s : B) (wild : Bool) (hs : s.length ≤ 9223372036854775807) (w : World) (hmx : MxAt w) : Calls Tryd.prog 29 #[.string (str s), .bool wild] w fun e w' => PLab (labsH wild s) w e w' := by
  obtain ⟨n, hn⟩ : ∃ n, s.length = n := ⟨_, rfl⟩
  have HLb := hid (labsH_low wild s)
  by_cases h253 : 253 < n
  · rw [hn, if_pos h253] at HLb
    obtain ⟨S, hS⟩ : ∃ S, str s = S := ⟨_, rfl⟩
    have hSn : S.size = n := by rw [← hS, str_size, hn]
    have h253' : (253 : Int) < (n : Int) := by omega
    rw [hS]
    clear hS hn
    go_enter Tryd.func29, Tryd.ntmps29
    go_wp2
    go_ret2
    exact plab_no HLb.out rfl (Below.refl _ _)
  · rw [hn, if_neg h253] at HLb
    have HLo := hid (fun W : World => below_low s W (by omega))
    have HSp := hid (fun (W : World) (h : MxAt W) => psplitH (lowH s) (by rw [low_len]; omega) W h)
    have HM := hid hmx
    obtain ⟨L, hL⟩ : ∃ L, lowH s = L := ⟨_, rfl⟩
    have hLn : L.length = n := by rw [← hL, low_len, hn]
    rw [hL] at HLo HSp HLb
    have hX3 := cutH_len L
    have HXl := hid (show ∀ x ∈ cutH L, x.length ≤ 140737488355328 from fun x h => Nat.le_trans (cutH_mem_len h) (by omega))
    obtain ⟨X, hX⟩ : ∃ X, cutH L = X := ⟨_, rfl⟩
    rw [hX] at HSp HXl hX3 HLb
    obtain ⟨m, hm⟩ : ∃ m, X.length = m := ⟨_, rfl⟩
    have HMn := hid hm
    rw [hm] at HSp hX3
    obtain ⟨S, hS⟩ : ∃ S, str s = S := ⟨_, rfl⟩
    have hSn : S.size = n := by rw [← hS, str_size, hn]
    obtain ⟨SL, hSL⟩ : ∃ S, str L = S := ⟨_, rfl⟩
    rw [hS] at HLo ⊢
    rw [hSL] at HLo HSp
    have h253' : ¬ (253 : Int) < (n : Int) := by omega
    have hm2 : m ≤ 254 := by omega
    clear hS hn hL hLn hX hm hSL hX3 hmx hs
    go_enter Tryd.func29, Tryd.ntmps29
    go_wp2_with (first | (go_at_call 30; (with_reducible refine (HLo.out _).mono ?_); rintro e w1 ⟨rfl, hb1⟩; have HB1 := hid hb1; clear hb1 HLo) | (go_at_call 44; (with_reducible refine (HSp.out _ (HM.out.next HB1.out)).mono ?_); rintro e w2 ⟨p2, c2, rfl, ho, hb⟩; have HB2 := hid (below_out HB1.out hb); have HO := hid (ho.base HB1.out.size); clear ho hb HSp HB1))
    have HT := hid HO.out.lb
    go_loopg [18] (m + 1) (fun gk s18 wr => ∃ i : Nat, i ≤ m ∧ gk = m - i + 1 ∧ s18 = .int .i64 (i : Int) ∧ (X.take i).all (okP wild) = true ∧ wr = w2)
    case atStart => exact ⟨0, by omega, rfl, rfl, rfl, rfl⟩
    case round =>
      obtain ⟨i, hi, rfl, rfl, hal, rfl⟩ := hrel
      have HA := hid hal
      clear hal
      by_cases hin : i < m
      · have h1 : i < X.length := by rw [HMn.out]; exact hin
        obtain ⟨x, hx⟩ : ∃ x, X[i]? = some x := ⟨_, List.getElem?_eq_getElem h1⟩
        obtain ⟨g1, o1, rfl, q1⟩ := HT.out i x hx
        have hxe : X[i] = x := (List.getElem?_eq_some_iff.1 hx).2
        have HG := hid (show okP wild x = true → (X.take (i + 1)).all (okP wild) = true from fun h => by rw [List.take_succ_eq_append_getElem h1, List.all_append, HA.out, hxe]; simp [h])
        have HF := hid (show okP wild x = false → labsH wild s = none from fun h => by
          rw [HLb.out, if_neg]
          intro h9
          have := List.all_eq_true.1 h9 x (List.mem_of_getElem? hx)
          rw [h] at this
          cases this)
        have HIs := hid (fun W : World => isLabel_any x W (HXl.out x (List.mem_of_getElem? hx)))
        obtain ⟨Sx, hSx⟩ : ∃ S, str x = S := ⟨_, rfl⟩
        have HStar := hid (show Sx = (⟨#[42]⟩ : ByteArray) → x = starL from fun h => str_inj (by rw [hSx, h]; rfl))
        have HStar2 := hid (show x = starL → Sx = (⟨#[42]⟩ : ByteArray) from fun h => by rw [← hSx, h]; rfl)
        rw [hSx] at q1 HIs
        clear h1 hx hxe hSx
        cases hl : isLabB x with
        | true =>
          rw [hl] at HIs
          go_wp2_with (go_at_call 45; (with_reducible refine (HIs.out _).mono ?_); rintro e w3 ⟨rfl, rfl⟩)
          go_roundg (m - (i + 1) + 1)
          case measure => omega
          case rel => exact ⟨i + 1, by omega, rfl, by push_cast; go_num, HG.out (by unfold okP; rw [hl]; rfl), rfl⟩
        | false =>
          rw [hl] at HIs
          cases wild with
          | false =>
            go_wp2_with (go_at_call 45; (with_reducible refine (HIs.out _).mono ?_); rintro e w3 ⟨rfl, rfl⟩)
            go_ret2
            exact plab_no (HF.out (by unfold okP; rw [hl]; rfl)) rfl HB2.out
          | true =>
            by_cases hst : x = starL
            · have hS := HStar2.out hst
              subst hS
              go_wp2_with (go_at_call 45; (with_reducible refine (HIs.out _).mono ?_); rintro e w3 ⟨rfl, rfl⟩)
              go_roundg (m - (i + 1) + 1)
              case measure => omega
              case rel => exact ⟨i + 1, by omega, rfl, by push_cast; go_num, HG.out (by unfold okP; rw [hl, hst]; rfl), rfl⟩
            · have hs1 : ¬ Sx = (⟨#[42]⟩ : ByteArray) := fun h => hst (HStar.out h)
              have hs4 : (Sx.toList == (⟨#[42]⟩ : ByteArray).toList) = false := ne_list hs1
              have hs5 : (Sx.toList == [42]) = false := by have h := hs4; rw [ByteArray.toList_eq, ByteArray.toList_eq] at h; rw [ByteArray.toList_eq]; exact h
              go_wp2_with (go_at_call 45; (with_reducible refine (HIs.out _).mono ?_); rintro e w3 ⟨rfl, rfl⟩)
              go_ret2
              exact plab_no (HF.out (by unfold okP; rw [hl, decide_eq_false hst]; rfl)) rfl HB2.out
      · obtain rfl : m = i := by omega
        go_wp2
        go_ret2
        exact plab_yes (by rw [HLb.out, if_pos (by have := HA.out; rw [List.take_of_length_le (by rw [HMn.out]; exact Nat.le_refl _)] at this; exact this)]) HMn.out rfl HO.out HB2.out
end Go.Proofs.YtkjgdfihhhdjaaaDoor
