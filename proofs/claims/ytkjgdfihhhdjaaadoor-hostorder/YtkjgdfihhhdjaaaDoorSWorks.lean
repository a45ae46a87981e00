/- A table of one's own, and the law's works. -/
import Derived.Test.YtkjgdfihhhdjaaaDoorSWork
namespace Go.Proofs.YtkjgdfihhhdjaaaDoor
open Go.RowKit Go.Maps

/-- A table made since w, with these patterns. -/
def TabN (w W : World) (t : Nat) (P : List (B × Int)) : Prop := ∃ m v1 v2 L, Tab W t P m v1 v2 L ∧ (∀ i, Ft t m v1 v2 i → w.heap.size ≤ i) ∧ Below w.heap.size w W
theorem TabN.below {w W : World} {t : Nat} {P : List (B × Int)} (h : TabN w W t P) : Below w.heap.size w W := by
  obtain ⟨m, v1, v2, L, h1, h2, h3⟩ := h
  exact h3
theorem TabN.next {w W W' : World} {t : Nat} {P : List (B × Int)} (h : TabN w W t P) (hb : Below W.heap.size W W') : TabN w W' t P := by
  obtain ⟨m, v1, v2, L, h1, h2, h3⟩ := h
  exact ⟨m, v1, v2, L, h1.next hb, h2, below_out h3 hb⟩
theorem tabN_new (w : World) : Calls Tryd.prog 20 #[] w fun e w' => e = .returned (.pointer (some ⟨w.heap.size, 0, none⟩)) ∧ TabN w w' w.heap.size [] := by
  refine (new_any w).mono ?_
  rintro e w' ⟨rfl, h, hb⟩
  exact ⟨rfl, none, _, _, [], h, fun i hi => by rw [ft_new hi]; exact Nat.le_refl _, hb⟩
theorem tabN_add {w W : World} {t : Nat} {P : List (B × Int)} (h : TabN w W t P) (hmx : MxAt w) (p : B) (hp : p.length ≤ 9223372036854775807) (id : Int) (hw : (Lit.int .i64 id).wf = true) :
    Calls Tryd.prog 22 #[.pointer (some ⟨t, 0, none⟩), .string (str p), .int .i64 id] W fun e W' => e = .returned (errOf (addE P p)) ∧ TabN w W' t (addP P p id) := by
  obtain ⟨m, v1, v2, L, h1, h2, h3⟩ := h
  refine (add_any h1 (hmx.next h3) p hp id hw).mono ?_
  rintro e W' ⟨rfl, m', v1', v2', L', hT, hG⟩
  refine ⟨rfl, m', v1', v2', L', hT, fun i hi => ?_, h3.trans (hG.kept.below h3.size h2)⟩
  rcases hG.fp i hi with e | e
  · exact h2 i e
  · exact Nat.le_trans h3.size e
theorem tabN_find {w W : World} {t : Nat} {P : List (B × Int)} (h : TabN w W t P) (hmx : MxAt w) (host : B) (hh : host.length ≤ 9223372036854775807) :
    Calls Tryd.prog 25 #[.pointer (some ⟨t, 0, none⟩), .string (str host)] W fun e W' => e = .returned (.tuple #[.int .i64 (findN P host).1, errOf (findN P host).2]) ∧ TabN w W' t P := by
  have h0 := h
  obtain ⟨m, v1, v2, L, h1, h2, h3⟩ := h
  refine (find_num h1 (hmx.next h3) host hh).mono ?_
  rintro e W' ⟨rfl, hb⟩
  exact ⟨rfl, h0.next hb⟩
def pW1 : B := [42, 46, 98, 46, 99]
def pW2 : B := [97, 46, 42, 46, 99]
def TW1 : List (B × Int) := [(pW1, 1)]
def TW2 : List (B × Int) := [(pW1, 1), (pW2, 2)]
def TW3 : List (B × Int) := [(pW1, 1), (pW2, 2), ([], 3)]
theorem w_a1 : addE [] pW1 = 0 ∧ addP [] pW1 1 = TW1 := by decide
theorem w_a2 : addE TW1 pW2 = 0 ∧ addP TW1 pW2 2 = TW2 := by decide
theorem w_a3 : addE TW2 [] = 0 ∧ addP TW2 [] 3 = TW3 := by decide
theorem w_a4 : addE TW3 [65, 46, 42, 46, 67] = 6 := by decide
theorem w_f1 : findN TW3 [65, 46, 98, 46, 99] = (1, 0) := by decide
theorem w_f2 : findN TW3 [97, 46, 120, 46, 99] = (2, 0) := by decide
theorem w_f3 : findN TW3 [98, 46, 99] = (3, 0) := by decide
theorem w_s : splitN [72, 46, 120, 58, 56, 48] = ([104, 46, 120], 80, 0) := by decide
set_option maxRecDepth 20000 in
set_option maxHeartbeats 8000000 in
theorem works_any (w : World) (hmx : MxAt w) : Calls Tryd.prog 15 #[] w fun e w' => e = .returned (.bool true) ∧ Below w.heap.size w w' := by
  obtain ⟨t, ht⟩ : ∃ t, w.heap.size = t := ⟨_, rfl⟩
  have HN := hid (tabN_new w)
  rw [ht] at HN
  have HA1 := hid (show ∀ W, TabN w W t [] → Calls Tryd.prog 22 #[.pointer (some ⟨t, 0, none⟩), .string ⟨#[42, 46, 98, 46, 99]⟩, .int .i64 1] W fun e W' => e = .returned .nilIface ∧ TabN w W' t TW1 from fun W h => by
    have h1 := tabN_add h hmx pW1 (by decide) 1 (by decide)
    rw [w_a1.1, w_a1.2] at h1
    exact h1)
  have HA2 := hid (show ∀ W, TabN w W t TW1 → Calls Tryd.prog 22 #[.pointer (some ⟨t, 0, none⟩), .string ⟨#[97, 46, 42, 46, 99]⟩, .int .i64 2] W fun e W' => e = .returned .nilIface ∧ TabN w W' t TW2 from fun W h => by
    have h1 := tabN_add h hmx pW2 (by decide) 2 (by decide)
    rw [w_a2.1, w_a2.2] at h1
    exact h1)
  have HA3 := hid (show ∀ W, TabN w W t TW2 → Calls Tryd.prog 22 #[.pointer (some ⟨t, 0, none⟩), .string ⟨#[]⟩, .int .i64 3] W fun e W' => e = .returned .nilIface ∧ TabN w W' t TW3 from fun W h => by
    have h1 := tabN_add h hmx [] (by decide) 3 (by decide)
    rw [w_a3.1, w_a3.2] at h1
    exact h1)
  have HA4 := hid (show ∀ W, TabN w W t TW3 → Calls Tryd.prog 22 #[.pointer (some ⟨t, 0, none⟩), .string ⟨#[65, 46, 42, 46, 67]⟩, .int .i64 4] W fun e W' => e = .returned (errOf 6) ∧ Below w.heap.size w W' from fun W h => by
    have h1 := tabN_add h hmx [65, 46, 42, 46, 67] (by decide) 4 (by decide)
    rw [w_a4] at h1
    exact h1.mono (fun e W' he => ⟨he.1, he.2.below⟩))
  have HF1 := hid (show ∀ W, TabN w W t TW3 → Calls Tryd.prog 25 #[.pointer (some ⟨t, 0, none⟩), .string ⟨#[65, 46, 98, 46, 99]⟩] W fun e W' => e = .returned (.tuple #[.int .i64 1, .nilIface]) ∧ TabN w W' t TW3 from fun W h => by
    have h1 := tabN_find h hmx [65, 46, 98, 46, 99] (by decide)
    rw [w_f1] at h1
    exact h1)
  have HF2 := hid (show ∀ W, TabN w W t TW3 → Calls Tryd.prog 25 #[.pointer (some ⟨t, 0, none⟩), .string ⟨#[97, 46, 120, 46, 99]⟩] W fun e W' => e = .returned (.tuple #[.int .i64 2, .nilIface]) ∧ TabN w W' t TW3 from fun W h => by
    have h1 := tabN_find h hmx [97, 46, 120, 46, 99] (by decide)
    rw [w_f2] at h1
    exact h1)
  have HF3 := hid (show ∀ W, TabN w W t TW3 → Calls Tryd.prog 25 #[.pointer (some ⟨t, 0, none⟩), .string ⟨#[98, 46, 99]⟩] W fun e W' => e = .returned (.tuple #[.int .i64 3, .nilIface]) ∧ TabN w W' t TW3 from fun W h => by
    have h1 := tabN_find h hmx [98, 46, 99] (by decide)
    rw [w_f3] at h1
    exact h1)
  have HS := hid (show ∀ W, TabN w W t TW3 → Calls Tryd.prog 10 #[.string ⟨#[72, 46, 120, 58, 56, 48]⟩] W fun e W' => e = .returned (.tuple #[.string ⟨#[104, 46, 120]⟩, .int .i64 80, .nilIface]) ∧ TabN w W' t TW3 from fun W h => by
    have h1 := psplit_any [72, 46, 120, 58, 56, 48] (by decide) W (hmx.next h.below)
    rw [w_s] at h1
    exact h1.mono (fun e W' he => ⟨he.1, h.next he.2⟩))
  have HNu := hid (fun W : World => num_any 6 (by decide) W)
  clear hmx
  go_enter Tryd.func15, Tryd.ntmps15
  go_wp2_with (first | (go_at_call 20; (with_reducible refine HN.out.mono ?_); rintro e w1 ⟨rfl, h1⟩; have HT0 := hid h1; clear h1 HN) | (go_at_call 22; first | ((with_reducible refine (HA1.out _ HT0.out).mono ?_); rintro e w2 ⟨rfl, h1⟩; have HT1 := hid h1; clear h1 HA1 HT0) | ((with_reducible refine (HA2.out _ HT1.out).mono ?_); rintro e w3 ⟨rfl, h1⟩; have HT2 := hid h1; clear h1 HA2 HT1) | ((with_reducible refine (HA3.out _ HT2.out).mono ?_); rintro e w4 ⟨rfl, h1⟩; have HT3 := hid h1; clear h1 HA3 HT2) | ((with_reducible refine (HA4.out _ HT7.out).mono ?_); rintro e w9 ⟨rfl, h1⟩; have HB9 := hid h1; clear h1 HA4)) | (go_at_call 25; first | ((with_reducible refine (HF1.out _ HT3.out).mono ?_); rintro e w5 ⟨rfl, h1⟩; have HT4 := hid h1; clear h1 HF1 HT3) | ((with_reducible refine (HF2.out _ HT4.out).mono ?_); rintro e w6 ⟨rfl, h1⟩; have HT5 := hid h1; clear h1 HF2 HT4) | ((with_reducible refine (HF3.out _ HT5.out).mono ?_); rintro e w7 ⟨rfl, h1⟩; have HT6 := hid h1; clear h1 HF3 HT5)) | (go_at_call 10; (with_reducible refine (HS.out _ HT6.out).mono ?_); rintro e w8 ⟨rfl, h1⟩; have HT7 := hid h1; clear h1 HS HT6) | (go_at_call 12; (with_reducible refine (HNu.out _).mono ?_); rintro e w10 ⟨rfl, rfl⟩))
  go_ret
  exact ⟨rfl, HB9.out⟩
end Go.Proofs.YtkjgdfihhhdjaaaDoor
