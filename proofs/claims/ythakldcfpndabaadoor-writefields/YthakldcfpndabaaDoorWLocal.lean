/- The words of a status, and the gateway's own responses: the program's. -/
import Derived.Test.YthakldcfpndabaaDoorWFns
namespace Go.Proofs.YthakldcfpndabaaDoor
open Go.RowKit

def reasonL : List (Int × B) → Int → B
  | [], _ => []
  | x :: l, s => if x.1 = s then x.2 else reasonL l s
def reasonT : List (Int × B) := [(200, [79, 75]), (400, [66, 97, 100, 32, 82, 101, 113, 117, 101, 115, 116]), (401, [85, 110, 97, 117, 116, 104, 111, 114, 105, 122, 101, 100]), (403, [70, 111, 114, 98, 105, 100, 100, 101, 110]), (404, [78, 111, 116, 32, 70, 111, 117, 110, 100]), (413, [67, 111, 110, 116, 101, 110, 116, 32, 84, 111, 111, 32, 76, 97, 114, 103, 101]), (417, [69, 120, 112, 101, 99, 116, 97, 116, 105, 111, 110, 32, 70, 97, 105, 108, 101, 100]), (429, [84, 111, 111, 32, 77, 97, 110, 121, 32, 82, 101, 113, 117, 101, 115, 116, 115]), (431, [82, 101, 113, 117, 101, 115, 116, 32, 72, 101, 97, 100, 101, 114, 32, 70, 105, 101, 108, 100, 115, 32, 84, 111, 111, 32, 76, 97, 114, 103, 101]), (502, [66, 97, 100, 32, 71, 97, 116, 101, 119, 97, 121]), (503, [83, 101, 114, 118, 105, 99, 101, 32, 85, 110, 97, 118, 97, 105, 108, 97, 98, 108, 101]), (504, [71, 97, 116, 101, 119, 97, 121, 32, 84, 105, 109, 101, 111, 117, 116])]
def reasonB (s : Int) : B := reasonL reasonT s
theorem reason_cases (s : Int) : s = 200 ∨ s = 400 ∨ s = 401 ∨ s = 403 ∨ s = 404 ∨ s = 413 ∨ s = 417 ∨ s = 429 ∨ s = 431 ∨ s = 502 ∨ s = 503 ∨ s = 504 ∨ (¬ s = 200 ∧ ¬ s = 400 ∧ ¬ s = 401 ∧ ¬ s = 403 ∧ ¬ s = 404 ∧ ¬ s = 413 ∧ ¬ s = 417 ∧ ¬ s = 429 ∧ ¬ s = 431 ∧ ¬ s = 502 ∧ ¬ s = 503 ∧ ¬ s = 504) := by omega
theorem reason_none {s : Int} (h : ¬ s = 200 ∧ ¬ s = 400 ∧ ¬ s = 401 ∧ ¬ s = 403 ∧ ¬ s = 404 ∧ ¬ s = 413 ∧ ¬ s = 417 ∧ ¬ s = 429 ∧ ¬ s = 431 ∧ ¬ s = 502 ∧ ¬ s = 503 ∧ ¬ s = 504) : reasonB s = [] := by
  obtain ⟨h0, h1, h2, h3, h4, h5, h6, h7, h8, h9, h10, h11⟩ := h
  have q : ∀ {a b : Int}, ¬ b = a → ¬ a = b := fun h e => h e.symm
  simp only [reasonB, reasonT, reasonL, q h0, q h1, q h2, q h3, q h4, q h5, q h6, q h7, q h8, q h9, q h10, q h11, if_false]
set_option maxRecDepth 20000 in
set_option maxHeartbeats 8000000 in
theorem reason_any (s : Int) (w : World) : Calls Tryd.prog 65 #[.int .i64 s] w fun e w' => e = .returned (.string (str (reasonB s))) ∧ w' = w := by
  rcases reason_cases s with rfl | rfl | rfl | rfl | rfl | rfl | rfl | rfl | rfl | rfl | rfl | rfl | h
  · go_enter Tryd.func65, Tryd.ntmps65
    go_wp2
    go_ret
    exact ⟨rfl, rfl⟩
  · go_enter Tryd.func65, Tryd.ntmps65
    go_wp2
    go_ret
    exact ⟨rfl, rfl⟩
  · go_enter Tryd.func65, Tryd.ntmps65
    go_wp2
    go_ret
    exact ⟨rfl, rfl⟩
  · go_enter Tryd.func65, Tryd.ntmps65
    go_wp2
    go_ret
    exact ⟨rfl, rfl⟩
  · go_enter Tryd.func65, Tryd.ntmps65
    go_wp2
    go_ret
    exact ⟨rfl, rfl⟩
  · go_enter Tryd.func65, Tryd.ntmps65
    go_wp2
    go_ret
    exact ⟨rfl, rfl⟩
  · go_enter Tryd.func65, Tryd.ntmps65
    go_wp2
    go_ret
    exact ⟨rfl, rfl⟩
  · go_enter Tryd.func65, Tryd.ntmps65
    go_wp2
    go_ret
    exact ⟨rfl, rfl⟩
  · go_enter Tryd.func65, Tryd.ntmps65
    go_wp2
    go_ret
    exact ⟨rfl, rfl⟩
  · go_enter Tryd.func65, Tryd.ntmps65
    go_wp2
    go_ret
    exact ⟨rfl, rfl⟩
  · go_enter Tryd.func65, Tryd.ntmps65
    go_wp2
    go_ret
    exact ⟨rfl, rfl⟩
  · go_enter Tryd.func65, Tryd.ntmps65
    go_wp2
    go_ret
    exact ⟨rfl, rfl⟩
  · have HV := hid (reason_none h)
    obtain ⟨h0, h1, h2, h3, h4, h5, h6, h7, h8, h9, h10, h11⟩ := h
    have e0 : (s == 200) = false := by simpa using h0
    have e1 : (s == 400) = false := by simpa using h1
    have e2 : (s == 401) = false := by simpa using h2
    have e3 : (s == 403) = false := by simpa using h3
    have e4 : (s == 404) = false := by simpa using h4
    have e5 : (s == 413) = false := by simpa using h5
    have e6 : (s == 417) = false := by simpa using h6
    have e7 : (s == 429) = false := by simpa using h7
    have e8 : (s == 431) = false := by simpa using h8
    have e9 : (s == 502) = false := by simpa using h9
    have e10 : (s == 503) = false := by simpa using h10
    have e11 : (s == 504) = false := by simpa using h11
    go_enter Tryd.func65, Tryd.ntmps65
    go_wp2
    go_ret
    exact ⟨by rw [HV.out]; rfl, rfl⟩
def locB (s k : Int) : Bool := decide (s ≠ 200) && decide (reasonB s ≠ []) && minB k
theorem reason_bounds {s : Int} (h : reasonB s ≠ []) : (∃ n : Nat, s = (n : Int) ∧ 100 ≤ n ∧ n ≤ 999) ∧ (reasonB s).length ≤ 31 := by
  rcases reason_cases s with rfl | rfl | rfl | rfl | rfl | rfl | rfl | rfl | rfl | rfl | rfl | rfl | h2
  · exact ⟨⟨200, rfl, by omega, by omega⟩, by decide⟩
  · exact ⟨⟨400, rfl, by omega, by omega⟩, by decide⟩
  · exact ⟨⟨401, rfl, by omega, by omega⟩, by decide⟩
  · exact ⟨⟨403, rfl, by omega, by omega⟩, by decide⟩
  · exact ⟨⟨404, rfl, by omega, by omega⟩, by decide⟩
  · exact ⟨⟨413, rfl, by omega, by omega⟩, by decide⟩
  · exact ⟨⟨417, rfl, by omega, by omega⟩, by decide⟩
  · exact ⟨⟨429, rfl, by omega, by omega⟩, by decide⟩
  · exact ⟨⟨431, rfl, by omega, by omega⟩, by decide⟩
  · exact ⟨⟨502, rfl, by omega, by omega⟩, by decide⟩
  · exact ⟨⟨503, rfl, by omega, by omega⟩, by decide⟩
  · exact ⟨⟨504, rfl, by omega, by omega⟩, by decide⟩
  · exact absurd (reason_none h2) h
theorem str_empty {t : B} (h : t ≠ []) : ((str t).toList == []) = false ∧ (str t).toList.isEmpty = false := by
  have e : (str t).toList = t := by rw [ByteArray.toList_eq]
  rw [e]
  exact ⟨by simpa using h, by simpa using h⟩
def bodyL (s : Int) : B := told 10 s.toNat ++ 32 :: (reasonB s ++ [10])
def ctB : B := [67, 111, 110, 116, 101, 110, 116, 45, 84, 121, 112, 101]
def tpB : B := [116, 101, 120, 116, 47, 112, 108, 97, 105, 110]
def clB : B := [67, 111, 110, 116, 101, 110, 116, 45, 76, 101, 110, 103, 116, 104]
def cnB : B := [67, 111, 110, 110, 101, 99, 116, 105, 111, 110]
def coB : B := [99, 108, 111, 115, 101]
def fldL (s : Int) (last : Bool) : List (B × B) := [(ctB, tpB), (clB, told 10 (bodyL s).length)] ++ (if last then [(cnB, coB)] else [])
/-- A text as bytes of its own. -/
theorem bytes_of (s : B) (w : World) : ∃ c W, (convert 9 74 (.string (str s))).run Tryd.prog w = .ok (.slice (some ⟨w.heap.size, 0, none⟩) s.length c) W ∧ ArgAt W (some ⟨w.heap.size, 0, none⟩) s ∧ Below w.heap.size w W ∧ W.heap.size = w.heap.size + 1 := by
  have h := run_bytes_of_string (P := Tryd.prog) w 9 74 5 (str s) Tryd.underlying9 Tryd.underlying74 Tryd.underlying5
  rw [str_size] at h
  refine ⟨_, _, h, fun i y hi => ⟨_, _, rfl, ?_⟩, ?_, by simp⟩
  · rw [Nat.zero_add]
    have h1 : w.drew.heap.size = w.heap.size := rfl
    have h2 := heap_alloc_new w.drew (.cells (bytesRow (str s) (grownCap w s.length 0 5)) 5 ((bytesRow (str s) (grownCap w s.length 0 5)).size, (bytesRow (str s) (grownCap w s.length 0 5)).size + 1))
    rw [h1] at h2
    simp only [World.cell?, h2]
    have hlt := (List.getElem?_eq_some_iff.1 hi).1
    unfold bytesRow
    simp [Array.getElem?_append, hlt]
    rw [Option.some.inj ((List.getElem?_eq_getElem hlt).symm.trans hi)]
  · exact (Below.refl _ w).drew.alloc (Nat.le_refl _) _
theorem conv_arg {w : World} {g c : Nat} {l : B} (h : ArgAt w (some ⟨g, 0, none⟩) l) : (convert 74 9 (.slice (some ⟨g, 0, none⟩) l.length c)).run Tryd.prog w = .ok (.string (str l)) w := by
  refine run_convert_bytes_back (P := Tryd.prog) w 74 9 5 ⟨g, 0, none⟩ c l Tryd.underlying74 Tryd.underlying5 Tryd.underlying9 (fun j hj => ?_)
  obtain ⟨g', o', e, hc⟩ := h j _ (List.getElem?_eq_getElem hj)
  rw [add_off]
  cases e
  rwa [Nat.zero_add] at hc
set_option maxRecDepth 20000 in
set_option maxHeartbeats 8000000 in
theorem local_no (s k : Int) (last : Bool) (w : World) (hl : locB s k = false) : Calls Tryd.prog 40 #[.int .i64 s, .int .i64 k, .bool last] w fun e w' => e = .returned (.tuple #[.agg respZ, .slice none 0 0, .iface 83 (.int .i64 20)]) ∧ Below w.heap.size w w' := by
  have HRe := hid (show ∀ w : World, _ from fun w => reason_any s w)
  have HMi := hid (show ∀ w : World, _ from fun w => isminor_any k w)
  have HBz := hid (below_new w (.cells respZ 54 (0, 0)))
  have HHz := hid (heap_alloc_new w (.cells respZ 54 (0, 0)))
  unfold locB at hl
  unfold respZ at HBz HHz
  by_cases h2 : s = 200
  · subst h2
    obtain ⟨S, hS⟩ : ∃ S, str (reasonB 200) = S := ⟨_, rfl⟩
    rw [hS] at HRe
    clear hl hS
    go_enter Tryd.func40, Tryd.ntmps40
    go_wp2_with (go_at_call 65; (with_reducible refine (HRe.out _).mono ?_); rintro e w1 ⟨rfl, hw1⟩; subst w1)
    (try simp only [Exit.inBlock, Exit.then])
    refine bodyPost_ret (results_resp3 rfl _ _ _ 54 _ (0, 0) rfl (HHz.out) rfl) rfl ?_
    exact ⟨rfl, HBz.out⟩
  · have e2 : (s == 200) = false := by simpa using h2
    by_cases h3 : reasonB s = []
    · rw [h3] at HRe
      clear hl
      go_enter Tryd.func40, Tryd.ntmps40
      go_wp2_with (go_at_call 65; (with_reducible refine (HRe.out _).mono ?_); rintro e w1 ⟨rfl, hw1⟩; subst w1)
      (try simp only [Exit.inBlock, Exit.then])
      refine bodyPost_ret (results_resp3 rfl _ _ _ 54 _ (0, 0) rfl (HHz.out) rfl) rfl ?_
      exact ⟨rfl, HBz.out⟩
    · have h4 : minB k = false := by rw [decide_eq_true h2, decide_eq_true h3] at hl; simpa using hl
      obtain ⟨e3, e4⟩ := str_empty h3
      rw [h4] at HMi
      obtain ⟨S, hS⟩ : ∃ S, str (reasonB s) = S := ⟨_, rfl⟩
      rw [hS] at HRe e3 e4
      clear hl hS h2 h3 h4
      go_enter Tryd.func40, Tryd.ntmps40
      go_wp2_with (first | (go_at_call 65; (with_reducible refine (HRe.out _).mono ?_); rintro e w1 ⟨rfl, hw1⟩; subst w1) | (go_at_call 63; (with_reducible refine (HMi.out _).mono ?_); rintro e w1 ⟨rfl, hw1⟩; subst w1))
      (try simp only [Exit.inBlock, Exit.then])
      refine bodyPost_ret (results_resp3 rfl _ _ _ 54 _ (0, 0) rfl (HHz.out) rfl) rfl ?_
      exact ⟨rfl, HBz.out⟩
theorem fldC_two (a b : B × B) : fldC [a, b] = [.string (str a.1), .string (str a.2), .string (str b.1), .string (str b.2)] := rfl
theorem fldC_uno (a : B × B) : fldC [a] = [.string (str a.1), .string (str a.2)] := rfl
theorem own_two (w : World) (a b : B × B) (base : Nat) (hb : base ≤ w.heap.size) : OwnF (w.alloc (.cells #[.string (str a.1), .string (str a.2), .string (str b.1), .string (str b.2)] 25 (0, 0))) base (.slice (some ⟨w.heap.size, 0, none⟩) 2 2) [a, b] :=
  ⟨rfl, .inr ⟨w.heap.size, 2, _, rfl, hb, heap_alloc_new w _, Nat.le_refl _, by unfold maxLen; decide, rfl, rfl⟩⟩
/-- A response's block, kept. -/
structure RespAt (w W : World) (c0 c1 c2 c3 : Value) : Prop where
  low : Below w.heap.size w W
  blk : W.heap[w.heap.size]? = some (.cells #[c0, c1, c2, c3] 54 (0, 0))
theorem RespAt.next {w W W' : World} {c0 c1 c2 c3 : Value} (h : RespAt w W c0 c1 c2 c3) (hb : Below W.heap.size W W') : RespAt w W' c0 c1 c2 c3 := ⟨h.low.trans (hb.mono h.low.size), (hb.block _ (lt_of_heap h.blk)).trans h.blk⟩
theorem RespAt.next2 {w W W' : World} {N : Nat} {c0 c1 c2 c3 : Value} (h : RespAt w W c0 c1 c2 c3) (hN : w.heap.size < N) (hb : Below N W W') : RespAt w W' c0 c1 c2 c3 := ⟨h.low.trans (hb.mono (Nat.le_of_lt hN)), (hb.block _ hN).trans h.blk⟩
theorem argAt_low {g N : Nat} {W W' : World} {l : B} (h : ArgAt W (some ⟨g, 0, none⟩) l) (hb : Below N W W') (hg : g < N) : ArgAt W' (some ⟨g, 0, none⟩) l := by
  intro i y hi
  obtain ⟨g', o', e, hc⟩ := h i y hi
  exact ⟨g', o', e, (hb.cell (p := ⟨g', o' + i, none⟩) (by cases e; exact hg)).trans hc⟩
set_option maxRecDepth 20000 in
set_option maxHeartbeats 8000000 in
theorem local_yes_true (s k : Int) (w : World) (hE : EnvP w) (hl : locB s k = true) : Calls Tryd.prog 40 #[.int .i64 s, .int .i64 k, .bool true] w fun e w' => ∃ p c g d, e = .returned (.tuple #[.agg #[.int .i64 s, .string (str (reasonB s)), .int .i64 k, .slice p 3 c], .slice (some ⟨g, 0, none⟩) (bodyL s).length d, .nilIface]) ∧ FAt w' p (fldL s true) ∧ ArgAt w' (some ⟨g, 0, none⟩) (bodyL s) ∧ Below w.heap.size w w' := by
  have HRe := hid (show ∀ w : World, _ from fun w => reason_any s w)
  have HMi := hid (show ∀ w : World, _ from fun w => isminor_any k w)
  have hp : (s ≠ 200 ∧ reasonB s ≠ []) ∧ minB k = true := by
    unfold locB at hl
    simp only [Bool.and_eq_true, decide_eq_true_eq] at hl
    exact hl
  obtain ⟨⟨h2, h3⟩, h4⟩ := hp
  have e2 : (s == 200) = false := by simpa using h2
  obtain ⟨e3, e4⟩ := str_empty h3
  rw [h4] at HMi
  obtain ⟨⟨st, hst, hs1, hs2⟩, hrl⟩ := reason_bounds h3
  have hd3 : (told 10 s.toNat).length = 3 := by rw [hst]; exact told_len3 hs1 hs2
  have HTx := hid (show ∀ W : World, EnvP W → _ from fun W h => text_any st (by omega) W h)
  rw [show told 10 st = told 10 s.toNat from by rw [hst]; rfl, ← hst] at HTx
  have hbl : (bodyL s).length ≤ 36 := by unfold bodyL; simp [hd3]; omega
  have HTy := hid (show ∀ W : World, EnvP W → _ from fun W h => text_any (bodyL s).length (by omega) W h)
  have HBy := hid (show ∀ W : World, _ from fun W => bytes_of (bodyL s) W)
  have HCat := hid (show ((str (told 10 s.toNat) ++ ⟨#[32]⟩) ++ str (reasonB s)) ++ ⟨#[10]⟩ = str (bodyL s) from by
    rw [show (⟨#[32]⟩ : ByteArray) = str [32] from rfl, show (⟨#[10]⟩ : ByteArray) = str [10] from rfl, str_app, str_app, str_app]
    exact congrArg str (by unfold bodyL; simp))
  have hsd : (str (told 10 s.toNat)).size = 3 := by rw [str_size]; exact hd3
  have hsr : (str (reasonB s)).size ≤ 31 := by rw [str_size]; exact hrl
  have HR0 := hid (show RespAt w (w.alloc (.cells respZ 54 (0, 0))) (.int .i64 0) (.string ⟨#[]⟩) (.int .i64 0) (.slice none 0 0) from ⟨below_new w _, heap_alloc_new w _⟩)
  unfold respZ at HR0
  rw [← HCat.out] at HBy
  have HO5 := hid (show ∀ W : World, OwnF (W.alloc (.cells #[.string ⟨#[67, 111, 110, 116, 101, 110, 116, 45, 84, 121, 112, 101]⟩, .string ⟨#[116, 101, 120, 116, 47, 112, 108, 97, 105, 110]⟩, .string ⟨#[67, 111, 110, 116, 101, 110, 116, 45, 76, 101, 110, 103, 116, 104]⟩, .string (str (told 10 (bodyL s).length))] 25 (0, 0))) W.heap.size (.slice (some ⟨W.heap.size, 0, none⟩) 2 2) (fldL s false) from fun W => own_two W (ctB, tpB) (clB, told 10 (bodyL s).length) W.heap.size (Nat.le_refl _))
  obtain ⟨L, hL⟩ : ∃ L, (bodyL s).length = L := ⟨_, rfl⟩
  rw [hL] at HTy HBy HO5 hbl
  rw [hL]
  obtain ⟨Y, hY⟩ : ∃ Y, str (told 10 L) = Y := ⟨_, rfl⟩
  rw [hY] at HTy HO5
  obtain ⟨D, hD⟩ : ∃ D, str (told 10 s.toNat) = D := ⟨_, rfl⟩
  rw [hD] at HTx HBy hsd
  obtain ⟨S, hS⟩ : ∃ S, str (reasonB s) = S := ⟨_, rfl⟩
  rw [hS] at HRe HBy hsr e3 e4
  rw [hS]
  have hcat1 : (D ++ (⟨#[32]⟩ : ByteArray)).size = 4 := by rw [ByteArray.size_append, hsd]; rfl
  have hcat2 : ((D ++ (⟨#[32]⟩ : ByteArray)) ++ S).size = 4 + S.size := by rw [ByteArray.size_append, hcat1]
  have HE := hid hE
  obtain ⟨j0, hj0, hy0, hy1, hy2⟩ := info_parts infoF
  clear hl h2 h3 h4 hst hs1 hs2 hrl hd3 hD hS hL hE hY HCat
  go_enter Tryd.func40, Tryd.ntmps40
  go_wp2_with (first | (go_at_call 65; (with_reducible refine (HRe.out _).mono ?_); rintro e w1 ⟨rfl, hw1⟩; subst w1) | (go_at_call 63; (with_reducible refine (HMi.out _).mono ?_); rintro e w1 ⟨rfl, hw1⟩; subst w1) | (go_at_call 50; (with_reducible refine (HTx.out _ (HE.out.next HR0.out.low)).mono ?_); rintro e w2 ⟨rfl, hb⟩; have HR2 := hid (HR0.out.next hb); have HG2 := hid (lt_of_heap HR2.out.blk); obtain ⟨d3, W3, hcv, hA3, hB3, hz3⟩ := HBy.out w2; have HR3 := hid (HR2.out.next hB3); have HA3 := hid hA3; have HZ3 := hid hz3; clear hb HTx hA3 hB3 hz3) | (go_at_call 50; clear hcv; (with_reducible refine (HTy.out _ (HE.out.next HR3.out.low)).mono ?_); rintro e w4 ⟨rfl, hb⟩; have HR5 := hid ((HR3.out.next hb).next (below_new w4 (.cells #[.string ⟨#[67, 111, 110, 116, 101, 110, 116, 45, 84, 121, 112, 101]⟩, .string ⟨#[116, 101, 120, 116, 47, 112, 108, 97, 105, 110]⟩, .string ⟨#[67, 111, 110, 116, 101, 110, 116, 45, 76, 101, 110, 103, 116, 104]⟩, .string Y] 25 (0, 0)))); have HA5 := hid ((HA3.out.next hb).next (below_new w4 (.cells #[.string ⟨#[67, 111, 110, 116, 101, 110, 116, 45, 84, 121, 112, 101]⟩, .string ⟨#[116, 101, 120, 116, 47, 112, 108, 97, 105, 110]⟩, .string ⟨#[67, 111, 110, 116, 101, 110, 116, 45, 76, 101, 110, 103, 116, 104]⟩, .string Y] 25 (0, 0)))); have HG4 := hid (show w2.heap.size < w4.heap.size from Nat.lt_of_lt_of_le (by rw [HZ3.out]; omega) hb.size); have HO5' := hid (HO5.out w4); clear hb HTy; have HR6 := hid (HR5.out.next (below_new (w4.alloc (.cells #[.string ⟨#[67, 111, 110, 116, 101, 110, 116, 45, 84, 121, 112, 101]⟩, .string ⟨#[116, 101, 120, 116, 47, 112, 108, 97, 105, 110]⟩, .string ⟨#[67, 111, 110, 116, 101, 110, 116, 45, 76, 101, 110, 103, 116, 104]⟩, .string Y] 25 (0, 0))) (.cells #[.string ⟨#[67, 111, 110, 110, 101, 99, 116, 105, 111, 110]⟩, .string ⟨#[99, 108, 111, 115, 101]⟩] 25 (0, 0)))); have HA6 := hid (HA5.out.next (below_new (w4.alloc (.cells #[.string ⟨#[67, 111, 110, 116, 101, 110, 116, 45, 84, 121, 112, 101]⟩, .string ⟨#[116, 101, 120, 116, 47, 112, 108, 97, 105, 110]⟩, .string ⟨#[67, 111, 110, 116, 101, 110, 116, 45, 76, 101, 110, 103, 116, 104]⟩, .string Y] 25 (0, 0))) (.cells #[.string ⟨#[67, 111, 110, 110, 101, 99, 116, 105, 111, 110]⟩, .string ⟨#[99, 108, 111, 115, 101]⟩] 25 (0, 0)))); have HO6 := hid (HO5'.out.alloc (.cells #[.string ⟨#[67, 111, 110, 110, 101, 99, 116, 105, 111, 110]⟩, .string ⟨#[99, 108, 111, 115, 101]⟩] 25 (0, 0))); have HC6 := hid (cells_new (w4.alloc (.cells #[.string ⟨#[67, 111, 110, 116, 101, 110, 116, 45, 84, 121, 112, 101]⟩, .string ⟨#[116, 101, 120, 116, 47, 112, 108, 97, 105, 110]⟩, .string ⟨#[67, 111, 110, 116, 101, 110, 116, 45, 76, 101, 110, 103, 116, 104]⟩, .string Y] 25 (0, 0))) (fldC [(cnB, coB)]) 25); have HZ6 := hid (show ((w4.alloc (.cells #[.string ⟨#[67, 111, 110, 116, 101, 110, 116, 45, 84, 121, 112, 101]⟩, .string ⟨#[116, 101, 120, 116, 47, 112, 108, 97, 105, 110]⟩, .string ⟨#[67, 111, 110, 116, 101, 110, 116, 45, 76, 101, 110, 103, 116, 104]⟩, .string Y] 25 (0, 0))).alloc (.cells #[.string ⟨#[67, 111, 110, 110, 101, 99, 116, 105, 111, 110]⟩, .string ⟨#[99, 108, 111, 115, 101]⟩] 25 (0, 0))).heap.size = w4.heap.size + 1 + 1 from by simp); have HZ5 := hid (show (w4.alloc (.cells #[.string ⟨#[67, 111, 110, 116, 101, 110, 116, 45, 84, 121, 112, 101]⟩, .string ⟨#[116, 101, 120, 116, 47, 112, 108, 97, 105, 110]⟩, .string ⟨#[67, 111, 110, 116, 101, 110, 116, 45, 76, 101, 110, 103, 116, 104]⟩, .string Y] 25 (0, 0))).heap.size = w4.heap.size + 1 from by simp)) | (at_builtin; refine wpList_append_own_at _ rfl (.tmp 41) (.tmp 43) 22 rfl w4.heap.size 25 j0 _ 2 32 Tryd.underlying22 hj0 hy0 hy1 hy2 rfl (by decide) (.slice (some ⟨w4.heap.size, 0, none⟩) 2 2) 2 (fldC (fldL s false)) (by go_simp) (HO6.out) ⟨w4.heap.size + 1, 0, none⟩ 1 1 (fldC [(cnB, coB)]) (by go_simp) rfl (by have h8 := HC6.out; rw [HZ5.out] at h8; exact h8) (by simp [fldC, Value.oneCell']) (by unfold maxLen; decide) (by decide) (by rw [HZ6.out]; omega) ?_; intro v' w7 hown hgr _ _; have HB7 := hid (OwnF.below HO6.out (by rw [HZ6.out]; omega) hgr); have HRF := hid (HR6.out.next2 (Nat.lt_trans HG2.out HG4.out) HB7.out); have HAF := hid (argAt_low HA6.out HB7.out HG4.out); obtain ⟨p7, c7, rfl⟩ := own_slice hown; have HOF := hid (show OwnF w7 w4.heap.size (.slice p7 3 c7) (fldL s true) from hown); obtain ⟨y0, y1, y2, y3, yz⟩ := cells4 HRF.out.blk; have yz0 := yz 0; have yz1 := yz 1; have yz2 := yz 2; have yz3 := yz 3; clear hown hgr yz))
  (try simp only [Exit.inBlock, Exit.then])
  refine bodyPost_ret (results_resp3 rfl _ _ _ 54 _ (0, 0) rfl (fourC HRF.out.blk _ _ _ _) rfl) rfl ?_
  refine ⟨_, _, _, _, rfl, (ownF_set4 HOF.out HRF.out.blk resp_ne _ _ _ _).fat, HAF.out.only (only4 (F := fun x => x = w.heap.size) rfl _ _ _ _) (fun a ha _ hf => ?_), below_four HRF.out.low _ _ _ _⟩
  cases ha
  have h9 : w2.heap.size = w.heap.size := hf
  have := HG2.out
  omega
set_option maxRecDepth 20000 in
set_option maxHeartbeats 8000000 in
theorem local_yes_false (s k : Int) (w : World) (hE : EnvP w) (hl : locB s k = true) : Calls Tryd.prog 40 #[.int .i64 s, .int .i64 k, .bool false] w fun e w' => ∃ p c g d, e = .returned (.tuple #[.agg #[.int .i64 s, .string (str (reasonB s)), .int .i64 k, .slice p 2 c], .slice (some ⟨g, 0, none⟩) (bodyL s).length d, .nilIface]) ∧ FAt w' p (fldL s false) ∧ ArgAt w' (some ⟨g, 0, none⟩) (bodyL s) ∧ Below w.heap.size w w' := by
  have HRe := hid (show ∀ w : World, _ from fun w => reason_any s w)
  have HMi := hid (show ∀ w : World, _ from fun w => isminor_any k w)
  have hp : (s ≠ 200 ∧ reasonB s ≠ []) ∧ minB k = true := by
    unfold locB at hl
    simp only [Bool.and_eq_true, decide_eq_true_eq] at hl
    exact hl
  obtain ⟨⟨h2, h3⟩, h4⟩ := hp
  have e2 : (s == 200) = false := by simpa using h2
  obtain ⟨e3, e4⟩ := str_empty h3
  rw [h4] at HMi
  obtain ⟨⟨st, hst, hs1, hs2⟩, hrl⟩ := reason_bounds h3
  have hd3 : (told 10 s.toNat).length = 3 := by rw [hst]; exact told_len3 hs1 hs2
  have HTx := hid (show ∀ W : World, EnvP W → _ from fun W h => text_any st (by omega) W h)
  rw [show told 10 st = told 10 s.toNat from by rw [hst]; rfl, ← hst] at HTx
  have hbl : (bodyL s).length ≤ 36 := by unfold bodyL; simp [hd3]; omega
  have HTy := hid (show ∀ W : World, EnvP W → _ from fun W h => text_any (bodyL s).length (by omega) W h)
  have HBy := hid (show ∀ W : World, _ from fun W => bytes_of (bodyL s) W)
  have HCat := hid (show ((str (told 10 s.toNat) ++ ⟨#[32]⟩) ++ str (reasonB s)) ++ ⟨#[10]⟩ = str (bodyL s) from by
    rw [show (⟨#[32]⟩ : ByteArray) = str [32] from rfl, show (⟨#[10]⟩ : ByteArray) = str [10] from rfl, str_app, str_app, str_app]
    exact congrArg str (by unfold bodyL; simp))
  have hsd : (str (told 10 s.toNat)).size = 3 := by rw [str_size]; exact hd3
  have hsr : (str (reasonB s)).size ≤ 31 := by rw [str_size]; exact hrl
  have HR0 := hid (show RespAt w (w.alloc (.cells respZ 54 (0, 0))) (.int .i64 0) (.string ⟨#[]⟩) (.int .i64 0) (.slice none 0 0) from ⟨below_new w _, heap_alloc_new w _⟩)
  unfold respZ at HR0
  rw [← HCat.out] at HBy
  have HO5 := hid (show ∀ W : World, OwnF (W.alloc (.cells #[.string ⟨#[67, 111, 110, 116, 101, 110, 116, 45, 84, 121, 112, 101]⟩, .string ⟨#[116, 101, 120, 116, 47, 112, 108, 97, 105, 110]⟩, .string ⟨#[67, 111, 110, 116, 101, 110, 116, 45, 76, 101, 110, 103, 116, 104]⟩, .string (str (told 10 (bodyL s).length))] 25 (0, 0))) W.heap.size (.slice (some ⟨W.heap.size, 0, none⟩) 2 2) (fldL s false) from fun W => own_two W (ctB, tpB) (clB, told 10 (bodyL s).length) W.heap.size (Nat.le_refl _))
  obtain ⟨L, hL⟩ : ∃ L, (bodyL s).length = L := ⟨_, rfl⟩
  rw [hL] at HTy HBy HO5 hbl
  rw [hL]
  obtain ⟨Y, hY⟩ : ∃ Y, str (told 10 L) = Y := ⟨_, rfl⟩
  rw [hY] at HTy HO5
  obtain ⟨D, hD⟩ : ∃ D, str (told 10 s.toNat) = D := ⟨_, rfl⟩
  rw [hD] at HTx HBy hsd
  obtain ⟨S, hS⟩ : ∃ S, str (reasonB s) = S := ⟨_, rfl⟩
  rw [hS] at HRe HBy hsr e3 e4
  rw [hS]
  have hcat1 : (D ++ (⟨#[32]⟩ : ByteArray)).size = 4 := by rw [ByteArray.size_append, hsd]; rfl
  have hcat2 : ((D ++ (⟨#[32]⟩ : ByteArray)) ++ S).size = 4 + S.size := by rw [ByteArray.size_append, hcat1]
  have HE := hid hE
  clear hl h2 h3 h4 hst hs1 hs2 hrl hd3 hD hS hL hE hY HCat
  go_enter Tryd.func40, Tryd.ntmps40
  go_wp2_with (first | (go_at_call 65; (with_reducible refine (HRe.out _).mono ?_); rintro e w1 ⟨rfl, hw1⟩; subst w1) | (go_at_call 63; (with_reducible refine (HMi.out _).mono ?_); rintro e w1 ⟨rfl, hw1⟩; subst w1) | (go_at_call 50; (with_reducible refine (HTx.out _ (HE.out.next HR0.out.low)).mono ?_); rintro e w2 ⟨rfl, hb⟩; have HR2 := hid (HR0.out.next hb); have HG2 := hid (lt_of_heap HR2.out.blk); obtain ⟨d3, W3, hcv, hA3, hB3, hz3⟩ := HBy.out w2; have HR3 := hid (HR2.out.next hB3); have HA3 := hid hA3; have HZ3 := hid hz3; clear hb HTx hA3 hB3 hz3) | (go_at_call 50; clear hcv; (with_reducible refine (HTy.out _ (HE.out.next HR3.out.low)).mono ?_); rintro e w4 ⟨rfl, hb⟩; have HR5 := hid ((HR3.out.next hb).next (below_new w4 (.cells #[.string ⟨#[67, 111, 110, 116, 101, 110, 116, 45, 84, 121, 112, 101]⟩, .string ⟨#[116, 101, 120, 116, 47, 112, 108, 97, 105, 110]⟩, .string ⟨#[67, 111, 110, 116, 101, 110, 116, 45, 76, 101, 110, 103, 116, 104]⟩, .string Y] 25 (0, 0)))); have HA5 := hid ((HA3.out.next hb).next (below_new w4 (.cells #[.string ⟨#[67, 111, 110, 116, 101, 110, 116, 45, 84, 121, 112, 101]⟩, .string ⟨#[116, 101, 120, 116, 47, 112, 108, 97, 105, 110]⟩, .string ⟨#[67, 111, 110, 116, 101, 110, 116, 45, 76, 101, 110, 103, 116, 104]⟩, .string Y] 25 (0, 0)))); have HG4 := hid (show w2.heap.size < w4.heap.size from Nat.lt_of_lt_of_le (by rw [HZ3.out]; omega) hb.size); have HO5' := hid (HO5.out w4); clear hb HTy; have HRF := HR5; have HAF := HA5; have HOF := HO5'; obtain ⟨y0, y1, y2, y3, yz⟩ := cells4 HR5.out.blk; have yz0 := yz 0; have yz1 := yz 1; have yz2 := yz 2; have yz3 := yz 3; clear yz))
  (try simp only [Exit.inBlock, Exit.then])
  refine bodyPost_ret (results_resp3 rfl _ _ _ 54 _ (0, 0) rfl (fourC HRF.out.blk _ _ _ _) rfl) rfl ?_
  refine ⟨_, _, _, _, rfl, (ownF_set4 HOF.out HRF.out.blk resp_ne _ _ _ _).fat, HAF.out.only (only4 (F := fun x => x = w.heap.size) rfl _ _ _ _) (fun a ha _ hf => ?_), below_four HRF.out.low _ _ _ _⟩
  cases ha
  have h9 : w2.heap.size = w.heap.size := hf
  have := HG2.out
  omega
end Go.Proofs.YthakldcfpndabaaDoor
