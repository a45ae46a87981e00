/- Where a shape belongs: slices.BinarySearchFunc with the order of shapes. -/
import Derived.Test.YtkjgdfihhhdjaaaDoorSInsA
namespace Go.Proofs.YtkjgdfihhhdjaaaDoor
open Go.RowKit

theorem bs_end {L : List B} {s : B} (h : SrtO L) {lo : Nat} (hlo : lo ≤ L.length) (h1 : ∀ t x, t < lo → L[t]? = some x → ordO x s < 0) (h2 : ∀ t x, lo ≤ t → L[t]? = some x → 0 ≤ ordO x s) : belowO s L = lo := by
  obtain ⟨k1, k2, k3⟩ := @below_at L s h
  rcases Nat.lt_trichotomy (belowO s L) lo with hl | hl | hl
  · have hk : belowO s L < L.length := by omega
    have e := List.getElem?_eq_getElem hk
    have a := h1 _ _ hl e
    refine absurd a (k3 _ ?_)
    have e2 : (L.drop (belowO s L))[0]? = some L[belowO s L] := by rw [List.getElem?_drop, Nat.add_zero, e]
    exact List.mem_of_getElem? e2
  · exact hl
  · have hk : lo < L.length := by omega
    have e := List.getElem?_eq_getElem hk
    refine absurd (k2 _ ?_) (Int.not_lt.2 (h2 _ _ (Nat.le_refl _) e))
    have : (L.take (belowO s L))[lo]? = some L[lo] := by rw [List.getElem?_take, if_pos hl, e]
    exact List.mem_of_getElem? this
theorem bs_has {L : List B} {s x : B} (h : SrtO L) (hx : L[belowO s L]? = some x) : decide (ordO x s = 0) = decide (s ∈ L) := by
  rw [Bool.eq_iff_iff, decide_eq_true_eq, decide_eq_true_eq, ← has_mem h]
  constructor
  · intro h0
    exact ⟨x, hx, h0⟩
  · rintro ⟨y, hy, h0⟩
    rw [hx] at hy
    exact (Option.some.inj hy) ▸ h0
theorem bs_no {L : List B} {s : B} (h : SrtO L) (hx : L[belowO s L]? = none) : decide (s ∈ L) = false := by
  rw [decide_eq_false_iff_not, ← has_mem h]
  rintro ⟨y, hy, _⟩
  rw [hx] at hy
  cases hy
set_option maxRecDepth 20000 in
set_option maxHeartbeats 8000000 in
theorem bsearch_any (L : List B) (s : B) (p : Option Addr) (n c : Nat) (hn : L.length = n) (hnn : n ≤ 100000) (hL : SrtO L) (hll : ∀ x ∈ L, x.length ≤ 254) (hs : s.length ≤ 254) (w : World) (hT : LbAt w p L) :
    Calls Tryd.prog 54 #[.slice p n c, .string (str s), .func (.func 39) #[] #[]] w fun e w' => e = .returned (.tuple #[.int .i64 (belowO s L : Nat), .bool (decide (s ∈ L))]) ∧ w' = w := by
  have HO := hid (fun (W : World) (x : B) (hx : x ∈ L) => order_any x s (hll x hx) hs W)
  have HN := hid hn
  have HT := hid hT
  have HL := hid hL
  have HEnd := hid (fun (lo : Nat) (hlo : lo ≤ L.length) h1 h2 => @bs_end L s hL lo hlo h1 h2)
  have HHas := hid (fun (x : B) hx => @bs_has L s x hL hx)
  have HNo := hid (fun hx => @bs_no L s hL hx)
  have HMo := hid (fun (a b : Nat) (x y : B) (hab : a ≤ b) (hx : L[a]? = some x) (hy : L[b]? = some y) (hlt : ordO y s < 0) => srt_mono hL hab hx hy hlt)
  obtain ⟨S, hS⟩ : ∃ S, str s = S := ⟨_, rfl⟩
  rw [hS] at HO ⊢
  obtain ⟨k, hk⟩ : ∃ k, belowO s L = k := ⟨_, rfl⟩
  obtain ⟨has, hhas⟩ : ∃ b, decide (s ∈ L) = b := ⟨_, rfl⟩
  rw [hk] at HEnd HHas HNo ⊢
  rw [hhas] at HHas HNo ⊢
  clear hS hn hT hL hll hs hk hhas
  have e39 : ∀ args w, (callFunc 39 args).run Tryd.prog w = .ok (.enter 39 args) w := enters_of Tryd.func39 (by kernel_rfl) rfl
  go_enter Tryd.func54, Tryd.ntmps54
  go_wp2
  go_loopg [9, 10] (n + 1) (fun gk s9 s10 wr => ∃ lo hi : Nat, s9 = .int .i64 (lo : Int) ∧ s10 = .int .i64 (hi : Int) ∧ lo ≤ hi ∧ hi ≤ n ∧ gk = hi - lo + 1 ∧ wr = w ∧ Aside ((∀ t x, t < lo → L[t]? = some x → ordO x s < 0) ∧ (∀ t x, hi ≤ t → L[t]? = some x → 0 ≤ ordO x s)))
  case atStart => exact ⟨0, n, rfl, rfl, Nat.zero_le _, Nat.le_refl _, by omega, rfl, (⟨fun t x ht => absurd ht (Nat.not_lt_zero _), fun t x h1 h2 => by have := (List.getElem?_eq_some_iff.1 h2).1; rw [HN.out] at this; omega⟩ : (∀ t x, t < 0 → L[t]? = some x → ordO x s < 0) ∧ (∀ t x, n ≤ t → L[t]? = some x → 0 ≤ ordO x s))⟩
  case round =>
    obtain ⟨lo, hi, rfl, rfl, hlh, hin, rfl, rfl, I⟩ := hrel
    by_cases hlt : lo < hi
    · have hm1 : (lo + hi) / 2 < L.length := by rw [HN.out]; omega
      obtain ⟨x, hx⟩ : ∃ x, L[(lo + hi) / 2]? = some x := ⟨_, List.getElem?_eq_getElem hm1⟩
      obtain ⟨g1, o1, rfl, q1⟩ := HT.out _ x hx
      have HOx := hid (fun W : World => HO.out W x (List.mem_of_getElem? hx))
      have HX := hid hx
      obtain ⟨Sx, hSx⟩ : ∃ S, str x = S := ⟨_, rfl⟩
      rw [hSx] at HOx q1
      obtain ⟨o, ho⟩ : ∃ o, ordO x s = o := ⟨_, rfl⟩
      rw [ho] at HOx
      have HOo := hid ho
      obtain ⟨j, hj⟩ : ∃ j, (lo + hi) / 2 = j := ⟨_, rfl⟩
      have hji : ((lo : Int) + (hi : Int)) / 2 = (j : Int) := by omega
      have hjl : lo ≤ j := by omega
      have hjh : j < hi := by omega
      rw [hj] at q1 HX
      clear hx hm1 hSx ho hj
      by_cases hlo : o < 0
      · go_wp2_with (go_at_call 39; (with_reducible refine (HOx.out _).mono ?_); rintro e w1 ⟨rfl, rfl⟩)
        go_roundg (hi - (j + 1) + 1)
        case measure => omega
        case rel =>
          have I2 : Aside ((∀ t x, t < j + 1 → L[t]? = some x → ordO x s < 0) ∧ (∀ t x, hi ≤ t → L[t]? = some x → 0 ≤ ordO x s)) := ⟨fun t y ht hy => HMo.out t j y x (by omega) hy HX.out (by rw [HOo.out]; exact hlo), I.out.2⟩
          exact ⟨j + 1, hi, by push_cast; rfl, rfl, by omega, hin, rfl, rfl, I2⟩
      · go_wp2_with (go_at_call 39; (with_reducible refine (HOx.out _).mono ?_); rintro e w1 ⟨rfl, rfl⟩)
        go_roundg (j - lo + 1)
        case measure => omega
        case rel =>
          have I2 : Aside ((∀ t x, t < lo → L[t]? = some x → ordO x s < 0) ∧ (∀ t x, j ≤ t → L[t]? = some x → 0 ≤ ordO x s)) := ⟨I.out.1, fun t y ht hy => Int.not_lt.1 fun h => by
            have := HMo.out j t x y ht HX.out hy h
            rw [HOo.out] at this
            omega⟩
          exact ⟨lo, j, rfl, rfl, by omega, by omega, rfl, rfl, I2⟩
    · obtain rfl : hi = lo := by omega
      obtain rfl : k = hi := HEnd.out hi (by rw [HN.out]; exact hin) I.out.1 I.out.2
      by_cases hkn : k < n
      · obtain ⟨x, hx⟩ : ∃ x, L[k]? = some x := ⟨_, List.getElem?_eq_getElem (by rw [HN.out]; exact hkn)⟩
        obtain ⟨g1, o1, rfl, q1⟩ := HT.out _ x hx
        have HOx := hid (fun W : World => HO.out W x (List.mem_of_getElem? hx))
        have HH := hid (HHas.out x hx)
        obtain ⟨Sx, hSx⟩ : ∃ S, str x = S := ⟨_, rfl⟩
        rw [hSx] at HOx q1
        obtain ⟨o, ho⟩ : ∃ o, ordO x s = o := ⟨_, rfl⟩
        rw [ho] at HOx HH
        clear hx hSx ho
        by_cases hlo : o = 0
        · rw [decide_eq_true hlo] at HH
          go_wp2_with (go_at_call 39; (with_reducible refine (HOx.out _).mono ?_); rintro e w1 ⟨rfl, rfl⟩)
          go_ret2
          exact ⟨by rw [← HH.out]; rfl, rfl⟩
        · rw [decide_eq_false hlo] at HH
          have hlo2 : (o == 0) = false := by simpa using hlo
          go_wp2_with (go_at_call 39; (with_reducible refine (HOx.out _).mono ?_); rintro e w1 ⟨rfl, rfl⟩)
          go_ret2
          exact ⟨by rw [← HH.out]; rfl, rfl⟩
      · have HH := hid (HNo.out (List.getElem?_eq_none (by rw [HN.out]; omega)))
        obtain rfl : n = k := by omega
        go_wp2
        go_ret2
        exact ⟨by rw [HH.out]; rfl, rfl⟩
end Go.Proofs.YtkjgdfihhhdjaaaDoor
