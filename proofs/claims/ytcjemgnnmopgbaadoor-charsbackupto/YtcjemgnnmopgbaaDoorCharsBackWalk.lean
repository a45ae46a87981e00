/- The law CharsBack returns true for every number and every text of at most 1048576 bytes; what was in memory stays; where the tables of Go's library are laid and bytealg's MaxLen is a number. -/
import Derived.Test.YtcjemgnnmopgbaaDoorBackPlain
import Derived.Test.YtcjemgnnmopgbaaDoorCharsTextsWalk
import Derived.Deep.RegionHeld3
namespace Go.Proofs.YtcjemgnnmopgbaaDoor
open Go.RowKit

structure EnvB (w : World) : Prop where
  txt : EnvT w
  bit : w.cell? ⟨4, 15, none⟩ = some (.int .u8 4)
theorem EnvB.below {w w' : World} (h : EnvB w) (hb : Below w.heap.size w w') : EnvB w' :=
  ⟨h.txt.below hb, (hb.cell (p := ⟨4, 15, none⟩) (lt_of_cell' h.bit)).trans h.bit⟩
structure SinceB (w0 w : World) : Prop where
  env : EnvB w
  below : Below w0.heap.size w0 w
theorem SinceB.next {w0 w w' : World} (h : SinceB w0 w) (hb : Below w.heap.size w w') : SinceB w0 w' :=
  ⟨h.env.below hb, h.below.trans (hb.mono h.below.size)⟩

theorem zeros_text (k : Nat) (h : k < 18446744073709551616) : ({ data := #[48, 48] } : ByteArray) ++ { data := (Lib.itoa (k : Int)).toArray } = asB (48 :: 48 :: told 10 k) := by
  rw [Lib.itoa_nonneg, told_dec k h]
  apply ByteArray.ext
  simp [asB]
theorem told16_size (k : Nat) : (asB (told 16 k)).size ≤ 100 := by
  have : ∀ (f x : Nat) (l : List UInt8), (toldL 16 f x l).length ≤ f + l.length := by
    intro f
    induction f with
    | zero => intro x l; simp [toldL]
    | succ f ih =>
      intro x l
      rw [toldL]; split
      · simp; omega
      · have := ih (x / 16) (digC (x % 16) :: l); simp at this; omega
  have := this 64 k []
  simp [asB, ByteArray.size, told] at *
  omega
theorem decimal_back (k : Nat) (w : World) (hk : k < 9223372036854775808) :
    Calls Tryd.prog 20 #[.string ({ data := #[48, 48] } ++ { data := (Lib.itoa (k : Int)).toArray }), .int .i64 k] w fun e w' => e = .returned (.tuple #[.int .i64 k, .nilIface]) ∧ w' = w := by
  have hb := back10 k (by omega)
  have hl := told_len k (by omega)
  rw [zeros_text k (by omega)]
  have hs : (asB (48 :: 48 :: told 10 k)).size ≤ maxLen := by simp [asB, ByteArray.size, maxLen]; omega
  have h := decimal_any (asB (48 :: 48 :: told 10 k)) k w hs (by omega) (by omega)
  rw [hb.1, hb.2] at h
  exact h
theorem hexnumber_back (k : Nat) (w : World) (hk : k < 9223372036854775808) :
    Calls Tryd.prog 22 #[.string { data := (told 16 k).toArray }, .int .i64 k] w fun e w' => e = .returned (.tuple #[.int .i64 k, .nilIface]) ∧ w' = w := by
  have hb := back16 k (by omega)
  have hl := told16_size k
  have h := hexnumber_any (asB (told 16 k)) k w (by unfold maxLen; omega) (by omega) (by omega)
  rw [hb.1, hb.2] at h
  exact h
theorem hextext_back (k : Nat) (w : World) (hk : k < 9223372036854775808) (hc : w.cell? ⟨4, 15, none⟩ = some (.int .u8 4)) :
    Calls Tryd.prog 24 #[.int .i64 k] w fun e w' => e = .returned (.tuple #[.string { data := (told 16 k).toArray }, .nilIface]) ∧ Below w.heap.size w w' := by
  have h := hextext_any k w (by omega) (by omega) hc
  rw [(hex_pos k).1, (hex_pos k).2] at h
  exact h
theorem trim_elem (p : ByteArray) (w : World) (hp : trimS p = p) (hs : p.size ≤ 1048576) :
    Calls Tryd.prog 33 #[.string p] w fun e w' => e = .returned (.string p) ∧ Below w.heap.size w w' := by
  have h := trim_any p w (by omega)
  rw [hp] at h
  exact h
theorem list_elem (p : ByteArray) (w : World) (hp : (listS p).length = 1) (hs : p.size ≤ 1048576) (hE : EnvT w) :
    Calls Tryd.prog 36 #[.string p] w fun e w' => ∃ a cap, e = .returned (.slice a 1 cap) ∧ Below w.heap.size w w' := by
  refine (list_env p w hs hE).mono fun e w' ⟨v, he, ho, hb⟩ => ?_
  rw [hp] at ho
  obtain ⟨a, cap, rfl⟩ := own_len ho
  exact ⟨a, cap, he, hb⟩

theorem cell_over {w w' : World} {g k : Nat} {v : Value} (h : w.cell? ⟨g, k, none⟩ = some v) (hb : Below w.heap.size w w') : w'.cell? ⟨g, k, none⟩ = some v :=
  (hb.cell (p := ⟨g, k, none⟩) (lt_of_cell' h)).trans h
theorem all_over {w X w' w0 : World} {g k B n : Nat} {v u : Value} {xs : List Value} (h3 : SinceB w0 w) (h1 : w.cell? ⟨g, k, none⟩ = some v) (h2 : w.ownsRow B 9 1 u n xs) (hb : Below X.heap.size X w') (hx : Below w.heap.size w X) :
    w'.cell? ⟨g, k, none⟩ = some v ∧ w'.ownsRow B 9 1 u n xs ∧ SinceB w0 w' :=
  ⟨cell_over (cell_over h1 hx) hb, own_over (own_over h2 hx) hb, (h3.next hx).next hb⟩
set_option maxRecDepth 20000 in
set_option maxHeartbeats 2000000 in
theorem charsBack_neg (n : Int) (s : ByteArray) (w : World) (hn : n < 0) (hs : s.size ≤ 1048576) (hE : EnvB w) :
    Calls Tryd.prog 6 #[.int .i64 n, .string s] w fun e w' => e = .returned (.bool true) ∧ Below w.heap.size w w' := by
  have hS : SinceB w w := ⟨hE, Below.refl _ _⟩
  have hm1 : s.size ≤ maxLen := by unfold maxLen; omega
  have hl := listS_len s
  clear hE
  obtain ⟨L, hL⟩ : ∃ L, listS s = L := ⟨_, rfl⟩
  have hEl : ∀ e ∈ L, e.size ≠ 0 ∧ trimS e = e ∧ (listS e).length = 1 ∧ e.size ≤ s.size := fun e he => elem_of (by rw [hL]; exact he)
  have HEl := Lib.hid hEl
  have hLE : ∀ w, EnvT w → Calls Tryd.prog 36 #[.string s] w fun e w' => ∃ v, e = .returned v ∧ w'.ownsRow w.heap.size 9 1 v L.length (L.map strV) ∧ Below w.heap.size w w' := fun w h => by
    have := list_env s w hs h
    rw [hL] at this
    exact this
  rw [hL] at hl
  have HLE := Lib.hid hLE
  clear hEl hLE hL
  go_enter Tryd.func6, Tryd.ntmps6
  go_wp2_with (go_at_call 36; refine (HLE.out _ hS.env.txt).mono ?_; rintro e w' ⟨v1, rfl, ho1, hbb⟩; replace hS := hS.next hbb; clear hbb; obtain ⟨a1, c1, rfl⟩ := own_len ho1)
  go_loopw [12] (fun i W => ∃ k : Nat, k ≤ L.length ∧ i = .int .i64 k ∧ (∃ B, W.ownsRow B 9 1 (.slice a1 L.length c1) L.length (L.map strV)) ∧ SinceB w W) (fun i _ => L.length - (intOf i).toNat)
  case atStart => exact ⟨0, Nat.zero_le _, rfl, ⟨_, ho1⟩, hS⟩
  case round =>
    clear hS ho1
    obtain ⟨k, hk, rfl, ⟨B, ho⟩, hS⟩ := hrel
    by_cases hlt : k < L.length
    · obtain ⟨p, hp⟩ : ∃ p, L[k]? = some p := ⟨L[k], List.getElem?_eq_getElem hlt⟩
      obtain ⟨hp1, hp2, hp3, hp4⟩ := HEl.out p (List.mem_of_getElem? hp)
      obtain ⟨g, c2, hv, hcs⟩ := own_cell ho (by omega)
      have hcell := hcs k p hp
      simp only [Value.slice.injEq, true_and] at hv
      obtain ⟨rfl, rfl⟩ := hv
      have hE0 : p.toList.isEmpty = false := by rw [empty_size]; simpa using hp1
      have hp4' : p.size ≤ 1048576 := by omega
      have HP2 := Lib.hid hp2
      have HP3 := Lib.hid hp3
      have hki : (k : Int) < (L.length : Int) := by omega
      clear hp1 hp2 hp3 hcs hp4
      go_wp2
      go_region_held3 (fun w' => w'.cell? ⟨g, k, none⟩ = some (.string p)) (assumption) (first
        | (go_at_call 33; refine (trim_elem p _ HP2.out hp4').mono ?_; rintro e w2 ⟨rfl, hbb⟩; replace hbb := all_over hS hcell ho hbb ⟨rfl, rfl, rfl, Nat.le_refl _, fun _ _ => rfl⟩; clear hcell ho hS; obtain ⟨hcell, ho, hS⟩ := hbb)
        | (go_at_call 36; refine (list_elem p _ HP3.out hp4' (EnvT.below hS.env.txt ⟨rfl, rfl, rfl, Nat.le_refl _, fun _ _ => rfl⟩)).mono ?_; rintro e w2 ⟨a3, c3, rfl, hbb⟩; replace hbb := all_over hS hcell ho hbb ⟨rfl, rfl, rfl, Nat.le_refl _, fun _ _ => rfl⟩; clear hcell ho hS; obtain ⟨hcell, ho, hS⟩ := hbb))
      go_wp2
      go_roundw
      case rel => exact ⟨k + 1, by omega, by go_num, ⟨B, ho⟩, hS⟩
      case measure => simp [intOf]; omega
    · have hLI := lowS_idem s
      have hTI := trimS_idem s
      have hSL := same_low s
      have hz1 : (lowS s).size ≤ maxLen := by rw [lowS_size]; exact hm1
      have hz2 := trimS_size s
      clear ho
      go_wp2_with (first
        | (go_at_call 29; refine (lower_any _ _ (by assumption)).mono ?_; rintro e w' ⟨rfl, hbb⟩; replace hS := hS.next hbb; clear hbb)
        | (go_at_call 33; refine (trim_any _ _ (by omega)).mono ?_; rintro e w' ⟨rfl, hbb⟩; replace hS := hS.next hbb; clear hbb)
        | (go_at_call 31; refine (same_below _ _ _ hm1 hz1).mono ?_; rintro e w' ⟨rfl, hbb⟩; replace hS := hS.next hbb; clear hbb)
        | (go_at_call 19; refine (sure_any _ hS.env.txt.tab).mono ?_; rintro e w' ⟨rfl, hbb⟩; replace hS := hS.next hbb; clear hbb))
      go_ret
      exact ⟨rfl, hS.below⟩
set_option maxRecDepth 20000 in
set_option maxHeartbeats 2000000 in
theorem charsBack_pos (m : Nat) (s : ByteArray) (w : World) (hn : m < 9223372036854775808) (hs : s.size ≤ 1048576) (hE : EnvB w) :
    Calls Tryd.prog 6 #[.int .i64 m, .string s] w fun e w' => e = .returned (.bool true) ∧ Below w.heap.size w w' := by
  have hS : SinceB w w := ⟨hE, Below.refl _ _⟩
  have hm1 : s.size ≤ maxLen := by unfold maxLen; omega
  have hl := listS_len s
  clear hE
  obtain ⟨L, hL⟩ : ∃ L, listS s = L := ⟨_, rfl⟩
  have hEl : ∀ e ∈ L, e.size ≠ 0 ∧ trimS e = e ∧ (listS e).length = 1 ∧ e.size ≤ s.size := fun e he => elem_of (by rw [hL]; exact he)
  have HEl := Lib.hid hEl
  have hLE : ∀ w, EnvT w → Calls Tryd.prog 36 #[.string s] w fun e w' => ∃ v, e = .returned v ∧ w'.ownsRow w.heap.size 9 1 v L.length (L.map strV) ∧ Below w.heap.size w w' := fun w h => by
    have := list_env s w hs h
    rw [hL] at this
    exact this
  rw [hL] at hl
  have HLE := Lib.hid hLE
  clear hEl hLE hL
  have hil := Lib.itoa_length_le (m : Int) (by omega) (by omega)
  go_enter Tryd.func6, Tryd.ntmps6
  go_wp2_with (first
    | (go_at_call 27; refine (text_any _ _ (by omega) (by omega) hS.env.txt.tab).mono ?_; rintro e w' ⟨rfl, hbb⟩; replace hS := hS.next hbb; clear hbb)
    | (go_at_call 20; refine (decimal_back m _ hn).mono ?_; rintro e w' ⟨rfl, rfl⟩)
    | (go_at_call 24; refine (hextext_back m _ hn hS.env.bit).mono ?_; rintro e w' ⟨rfl, hbb⟩; replace hS := hS.next hbb; clear hbb)
    | (go_at_call 22; refine (hexnumber_back m _ hn).mono ?_; rintro e w' ⟨rfl, rfl⟩)
    | (go_at_call 36; refine (HLE.out _ hS.env.txt).mono ?_; rintro e w' ⟨v1, rfl, ho1, hbb⟩; replace hS := hS.next hbb; clear hbb; obtain ⟨a1, c1, rfl⟩ := own_len ho1))
  go_loopw [12] (fun i W => ∃ k : Nat, k ≤ L.length ∧ i = .int .i64 k ∧ (∃ B, W.ownsRow B 9 1 (.slice a1 L.length c1) L.length (L.map strV)) ∧ SinceB w W) (fun i _ => L.length - (intOf i).toNat)
  case atStart => exact ⟨0, Nat.zero_le _, rfl, ⟨_, ho1⟩, hS⟩
  case round =>
    clear hS ho1
    obtain ⟨k, hk, rfl, ⟨B, ho⟩, hS⟩ := hrel
    by_cases hlt : k < L.length
    · obtain ⟨p, hp⟩ : ∃ p, L[k]? = some p := ⟨L[k], List.getElem?_eq_getElem hlt⟩
      obtain ⟨hp1, hp2, hp3, hp4⟩ := HEl.out p (List.mem_of_getElem? hp)
      obtain ⟨g, c2, hv, hcs⟩ := own_cell ho (by omega)
      have hcell := hcs k p hp
      simp only [Value.slice.injEq, true_and] at hv
      obtain ⟨rfl, rfl⟩ := hv
      have hE0 : p.toList.isEmpty = false := by rw [empty_size]; simpa using hp1
      have hp4' : p.size ≤ 1048576 := by omega
      have HP2 := Lib.hid hp2
      have HP3 := Lib.hid hp3
      have hki : (k : Int) < (L.length : Int) := by omega
      clear hp1 hp2 hp3 hcs hp4
      go_wp2
      go_region_held3 (fun w' => w'.cell? ⟨g, k, none⟩ = some (.string p)) (assumption) (first
        | (go_at_call 33; refine (trim_elem p _ HP2.out hp4').mono ?_; rintro e w2 ⟨rfl, hbb⟩; replace hbb := all_over hS hcell ho hbb ⟨rfl, rfl, rfl, Nat.le_refl _, fun _ _ => rfl⟩; clear hcell ho hS; obtain ⟨hcell, ho, hS⟩ := hbb)
        | (go_at_call 36; refine (list_elem p _ HP3.out hp4' (EnvT.below hS.env.txt ⟨rfl, rfl, rfl, Nat.le_refl _, fun _ _ => rfl⟩)).mono ?_; rintro e w2 ⟨a3, c3, rfl, hbb⟩; replace hbb := all_over hS hcell ho hbb ⟨rfl, rfl, rfl, Nat.le_refl _, fun _ _ => rfl⟩; clear hcell ho hS; obtain ⟨hcell, ho, hS⟩ := hbb))
      go_wp2
      go_roundw
      case rel => exact ⟨k + 1, by omega, by go_num, ⟨B, ho⟩, hS⟩
      case measure => simp [intOf]; omega
    · have hLI := lowS_idem s
      have hTI := trimS_idem s
      have hSL := same_low s
      have hz1 : (lowS s).size ≤ maxLen := by rw [lowS_size]; exact hm1
      have hz2 := trimS_size s
      clear ho
      go_wp2_with (first
        | (go_at_call 29; refine (lower_any _ _ (by assumption)).mono ?_; rintro e w' ⟨rfl, hbb⟩; replace hS := hS.next hbb; clear hbb)
        | (go_at_call 33; refine (trim_any _ _ (by omega)).mono ?_; rintro e w' ⟨rfl, hbb⟩; replace hS := hS.next hbb; clear hbb)
        | (go_at_call 31; refine (same_below _ _ _ hm1 hz1).mono ?_; rintro e w' ⟨rfl, hbb⟩; replace hS := hS.next hbb; clear hbb)
        | (go_at_call 19; refine (sure_any _ hS.env.txt.tab).mono ?_; rintro e w' ⟨rfl, hbb⟩; replace hS := hS.next hbb; clear hbb))
      go_ret
      exact ⟨rfl, hS.below⟩
theorem charsBack_walk (n : Int) (s : ByteArray) (w : World) (h1 : n ≤ 9223372036854775807) (hs : s.size ≤ 1048576) (hE : EnvB w) :
    Calls Tryd.prog 6 #[.int .i64 n, .string s] w fun e w' => e = .returned (.bool true) ∧ Below w.heap.size w w' := by
  by_cases hn : n < 0
  · exact charsBack_neg n s w hn hs hE
  · obtain ⟨m, rfl⟩ : ∃ m : Nat, n = m := ⟨n.toNat, by omega⟩
    exact charsBack_pos m s w (by omega) hs hE
end Go.Proofs.YtcjemgnnmopgbaaDoor
