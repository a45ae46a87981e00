/- A text at a path; what must come whatever the input is; texts that are the same; an error's number. -/
import Derived.Test.YtiglabpemlogbaaDoorROnly
import Derived.Test.YtiglabpemlogbaaDoorAs
namespace Go.Proofs.YtiglabpemlogbaaDoor
open Go.RowKit

set_option maxRecDepth 20000 in
theorem clone_any (s : B) (hs : s.length ≤ 1048577) (w : World) : Calls Tryd.prog 25 #[.string (str s)] w fun e w' => e = .returned (.string (str s)) ∧ Below w.heap.size w w' := by
  have hsz : (str s).size ≤ 1048577 := by rw [str_size]; exact hs
  obtain ⟨S, hS⟩ : ∃ S, str s = S := ⟨_, rfl⟩
  rw [hS] at hsz ⊢
  clear hS hs
  go_enter Tryd.func25, Tryd.ntmps25
  go_wp2_with (go_at_call 36; (with_reducible refine (Tryd.stringslite_Clone S w (by omega)).mono ?_); rintro e w1 ⟨rfl, hb⟩; have HB1 := hid hb; clear hb)
  go_ret
  exact ⟨rfl, HB1.out⟩
theorem text_len {t : JV} (h : Fits t) : t.text.length ≤ 1048576 := by
  cases t
  simp only [Fits] at h
  exact h.1
set_option maxRecDepth 20000 in
set_option maxHeartbeats 8000000 in
theorem text_any (t : JV) (p : B) (hp : p.length ≤ 1048577) (w : World) (N : Nat) (cs : List Value) (hN : N ≤ w.heap.size) (hf : Fits t) (hE : Env w) (hv : ValB w N t cs) : Calls Tryd.prog 16 #[.agg cs.toArray, .string (str p)] w fun e w' => e = .returned (.tuple #[.string (str (ofKind 4 (goto t (steps p))).1.text), errOf (ofKind 4 (goto t (steps p))).2]) ∧ Below w.heap.size w w' := by
  obtain ⟨k1, k2, k3, k4, k5, k6, k7, k8, k9, k10, k11, rfl⟩ := hv.form
  have HFk := hid (findKind_any 4 t p hp)
  obtain ⟨S, hS⟩ : ∃ S, str p = S := ⟨_, rfl⟩
  have HS := hid hS
  rw [hS]
  have HF := hid hf
  have HE := hid hE
  have HV := hid hv
  have HN := hid hN
  obtain ⟨W1, hW1⟩ : ∃ W1, W1 = ((w.alloc (C7 k1 k2 k3 k4 k5 k6 k7 k8 k9 k10 k11)).alloc (.cells #[.int .i64 4] 3 (0, 0))) := ⟨_, rfl⟩
  have HB0 := hid (show Below w.heap.size w W1 from by rw [hW1]; exact (two_at w _ _).2.2)
  have HCell := hid (show W1.cell? ⟨w.heap.size + 1, 0, none⟩ = some (.int .i64 4) from by have := (two_at w (C7 k1 k2 k3 k4 k5 k6 k7 k8 k9 k10 k11) (.cells #[.int .i64 4] 3 (0, 0))).2.1; rw [← hW1] at this; simp [World.cell?, this])
  have HN1 := hid (show N ≤ W1.heap.size from Nat.le_trans hN HB0.out.size)
  have HW1 := hid hW1
  obtain ⟨G, hG⟩ : ∃ G, ofKind 4 (goto t (steps p)) = G := ⟨_, rfl⟩
  have HG := hid hG
  rw [hG]
  have HTl := hid (show G.1.text.length ≤ 1048577 from Nat.le_succ_of_le (text_len (show Fits G.1 from by rw [← hG]; exact fits_kind t (steps p) hf)))
  clear hf hE hv hp hG hS hW1 hN
  obtain ⟨⟨xk, xb, xt, xn, xh, xl, xs⟩, cd⟩ := G
  simp only [JV.text] at HTl ⊢
  have HCl := hid (clone_any xt HTl.out)
  go_enter Tryd.func16, Tryd.ntmps16
  go_wp2_with (first
    | (go_at_call 13; have hcall := HFk.out W1 N (w.heap.size + 1) 0 _ HN1.out HF.out (HE.out.below HB0.out) (HV.out.below (HB0.out.mono HN.out)) HCell.out; rw [HG.out, HS.out] at hcall; rw [← HW1.out]; (with_reducible refine hcall.mono ?_); clear hcall; rintro e w1 ⟨cs1, rfl, hv1, hb⟩; have HB1 := hid (below_out HB0.out hb); obtain ⟨p1, c1, p2, c2, rfl, _, _⟩ := hv1.open; clear hb hv1)
    | (go_at_call 25; (with_reducible refine (HCl.out (w1.alloc (C7 xk xb xt xn xh p1 xl.length c1 p2 xs.length c2))).mono ?_); rintro e w2 ⟨rfl, hb⟩; have HB2 := hid (HB1.out.trans ((below_out (below_new w1 _) hb).mono HB1.out.size)); clear hb))
  go_ret2
  exact ⟨rfl, HB2.out⟩
/-- The value of sure. -/
def sureV : JV := .mk 6 false [] 0 false [.mk 5 false [] 0 false [.mk 4 false [120] 0 false [] []] []] [[97]]
theorem sure_goto : goto sureV (steps [97, 46, 48]) = some (.mk 4 false [120] 0 false [] []) := by
  have e1 : steps [97, 46, 48] = [[97], [48]] := by decide
  have hi : Lib.itoa ((0 : Nat) : Int) = [48] := by rw [Lib.itoa_nonneg, Lib.decDigits_one (by omega)]; rfl
  have e3 : numAt 1 [48] = some 0 := by rw [← hi]; exact numAt_of (by omega) (by omega)
  rw [e1]
  have p1 : placeN sureV [97] = some 0 := by decide
  rw [goto_some p1 (by rfl : sureV.parts[0]? = some (.mk 5 false [] 0 false [.mk 4 false [120] 0 false [] []] []))]
  have p2 : placeN (.mk 5 false [] 0 false [.mk 4 false [120] 0 false [] []] []) [48] = some 0 := by
    rw [place_list (by decide)]
    exact e3
  rw [goto_some p2 (by rfl : (JV.mk 5 false [] 0 false [.mk 4 false [120] 0 false [] []] []).parts[0]? = some (.mk 4 false [120] 0 false [] []))]
  rfl
theorem sure_fits : Fits sureV := by
  simp only [sureV, Fits, FitsL]
  decide
theorem sure_on {W : World} {a b c : Nat} (ha : W.heap[a]? = some (.cells #[.string ⟨#[97]⟩] 9 (0, 0)))
    (hb : W.heap[b]? = some (.cells #[.int .i64 4, .bool false, .string ⟨#[120]⟩, .int .i64 0, .bool false, .slice none 0 0, .slice none 0 0] 25 (0, 0)))
    (hc : W.heap[c]? = some (.cells #[.int .i64 5, .bool false, .string ⟨#[]⟩, .int .i64 0, .bool false, .slice (some ⟨b, 0, none⟩) 1 1, .slice none 0 0] 25 (0, 0))) :
    ValB W W.heap.size sureV [.int .i64 6, .bool false, .string ⟨#[]⟩, .int .i64 0, .bool false, .slice (some ⟨c, 0, none⟩) 1 1, .slice (some ⟨a, 0, none⟩) 1 1] := by
  obtain ⟨b0, b1, b2, b3, b4, b5, b6, _⟩ := seven hb
  obtain ⟨c0, c1, c2, c3, c4, c5, c6, _⟩ := seven hc
  refine ⟨fun k => k < W.heap.size, fun k h => h, ?_⟩
  have row : ∀ (g : Nat) (v0 v1 v2 v3 v4 v5 v6 : Value), Seven W g v0 v1 v2 v3 v4 v5 v6 → ∀ j c, [v0, v1, v2, v3, v4, v5, v6][j]? = some c → W.cell? ⟨g, 0 + j, none⟩ = some c := by
    intro g v0 v1 v2 v3 v4 v5 v6 h j c hj
    rcases j with _ | _ | _ | _ | _ | _ | _ | j <;> simp at hj
    · subst hj; exact h.a0
    · subst hj; exact h.a1
    · subst hj; exact h.a2
    · subst hj; exact h.a3
    · subst hj; exact h.a4
    · subst hj; exact h.a5
    · subst hj; exact h.a6
  simp only [sureV, ValIs]
  refine ⟨_, _, rfl, ⟨_, 1, rfl, Nat.le_refl _, fun _ => ⟨c, 0, rfl, lt_of_heap hc, ?_⟩⟩, ⟨_, 1, rfl, Nat.le_refl _, fun _ => ⟨a, 0, rfl, lt_of_heap ha, ?_⟩⟩⟩
  · simp only [ValsIs, and_true]
    refine ⟨_, ?_, row c _ _ _ _ _ _ _ (seven hc)⟩
    simp only [ValIs]
    refine ⟨_, _, rfl, ⟨_, 1, rfl, Nat.le_refl _, fun _ => ⟨b, 0, rfl, lt_of_heap hb, ?_⟩⟩, ⟨none, 0, rfl, Nat.le_refl _, fun h => by simp at h⟩⟩
    simp only [ValsIs, and_true]
    refine ⟨_, ?_, row b _ _ _ _ _ _ _ (seven hb)⟩
    simp only [ValIs]
    exact ⟨_, _, rfl, ⟨none, 0, rfl, Nat.le_refl _, fun h => by simp at h⟩, ⟨none, 0, rfl, Nat.le_refl _, fun h => by simp at h⟩⟩
  · intro j t hj
    cases j with
    | zero =>
      simp at hj
      subst hj
      simp [World.cell?, ha]
    | succ j => simp at hj
theorem four_at (w : World) (o0 o1 o2 o3 : Obj) : ((((w.alloc o0).alloc o1).alloc o2).alloc o3).heap[w.heap.size]? = some o0 ∧ ((((w.alloc o0).alloc o1).alloc o2).alloc o3).heap[w.heap.size + 1]? = some o1 ∧ ((((w.alloc o0).alloc o1).alloc o2).alloc o3).heap[w.heap.size + 1 + 1]? = some o2 ∧ Below w.heap.size w ((((w.alloc o0).alloc o1).alloc o2).alloc o3) := by
  have h2 := two_at w o0 o1
  obtain ⟨X, hX⟩ : ∃ X, (w.alloc o0).alloc o1 = X := ⟨_, rfl⟩
  have hs : X.heap.size = w.heap.size + 1 + 1 := by rw [← hX]; simp
  rw [hX] at h2 ⊢
  have h3 := two_at X o2 o3
  refine ⟨(h3.2.2.block _ (by omega)).trans h2.1, (h3.2.2.block _ (by omega)).trans h2.2.1, by rw [← hs]; exact h3.1, h2.2.2.trans (h3.2.2.mono h2.2.2.size)⟩
set_option maxRecDepth 20000 in
set_option maxHeartbeats 8000000 in
theorem sure_any (w : World) (hE : Env w) : Calls Tryd.prog 9 #[] w fun e w' => e = .returned (.bool true) ∧ Below w.heap.size w w' := by
  have HE := hid hE
  have HTx := hid (text_any sureV [97, 46, 48] (by decide))
  have HG := hid (show ofKind 4 (goto sureV (steps [97, 46, 48])) = (.mk 4 false [120] 0 false [] [], 0) from by rw [sure_goto]; rfl)
  obtain ⟨W, hW⟩ : ∃ W, W = ((((w.alloc (.cells #[.string ⟨#[97]⟩] 9 (0, 0))).alloc (.cells #[.int .i64 4, .bool false, .string ⟨#[120]⟩, .int .i64 0, .bool false, .slice none 0 0, .slice none 0 0] 25 (0, 0))).alloc (.cells #[.int .i64 5, .bool false, .string ⟨#[]⟩, .int .i64 0, .bool false, .slice (some ⟨w.heap.size + 1, 0, none⟩) 1 1, .slice none 0 0] 25 (0, 0))).alloc (.cells #[.int .i64 6, .bool false, .string ⟨#[]⟩, .int .i64 0, .bool false, .slice (some ⟨w.heap.size + 1 + 1, 0, none⟩) 1 1, .slice (some ⟨w.heap.size, 0, none⟩) 1 1] 25 (0, 0))) := ⟨_, rfl⟩
  have h4 := four_at w (.cells #[.string ⟨#[97]⟩] 9 (0, 0)) (.cells #[.int .i64 4, .bool false, .string ⟨#[120]⟩, .int .i64 0, .bool false, .slice none 0 0, .slice none 0 0] 25 (0, 0)) (.cells #[.int .i64 5, .bool false, .string ⟨#[]⟩, .int .i64 0, .bool false, .slice (some ⟨w.heap.size + 1, 0, none⟩) 1 1, .slice none 0 0] 25 (0, 0)) (.cells #[.int .i64 6, .bool false, .string ⟨#[]⟩, .int .i64 0, .bool false, .slice (some ⟨w.heap.size + 1 + 1, 0, none⟩) 1 1, .slice (some ⟨w.heap.size, 0, none⟩) 1 1] 25 (0, 0))
  rw [← hW] at h4
  have HV := hid (sure_on h4.1 h4.2.1 h4.2.2.1)
  have HB := hid h4.2.2.2
  have HW := hid hW
  clear hE h4 hW
  go_enter Tryd.func9, Tryd.ntmps9
  go_wp2_with (go_at_call 16; have hcall := HTx.out W W.heap.size _ (Nat.le_refl _) sure_fits (HE.out.below HB.out) HV.out; rw [HG.out] at hcall; rw [← HW.out]; (with_reducible refine hcall.mono ?_); clear hcall; rintro e w1 ⟨rfl, hb⟩; have HB1 := hid (below_out HB.out hb); clear hb; simp only [JV.text, errOf_zero])
  go_ret
  exact ⟨rfl, HB1.out⟩
set_option maxRecDepth 20000 in
set_option maxHeartbeats 8000000 in
theorem texts_same (ns : List B) (hn : ns.length ≤ 1048576) (w : World) (p q : Option Addr) (c d : Nat) (h1 : NamesOn w ns p) (h2 : NamesOn w ns q) : Calls Tryd.prog 8 #[.slice p ns.length c, .slice q ns.length d] w fun e w' => e = .returned (.bool true) ∧ Below w.heap.size w w' := by
  obtain ⟨n, e1⟩ : ∃ n, ns.length = n := ⟨_, rfl⟩
  have HN := hid e1
  have H1 := hid h1
  have H2 := hid h2
  rw [e1] at hn ⊢
  clear h1 h2 e1
  go_enter Tryd.func8, Tryd.ntmps8
  go_wp2
  go_loopg [5] (n + 1) (fun gk s5 wr => ∃ i : Nat, i ≤ n ∧ gk = n - i + 1 ∧ s5 = .int .i64 (i : Int) ∧ Below w.heap.size w wr)
  case atStart => exact ⟨0, by omega, rfl, rfl, Below.refl _ _⟩
  case round =>
    obtain ⟨i, hi, rfl, rfl, hb⟩ := hrel
    have HB := hid hb
    clear hb
    by_cases hin : i < n
    · have hi1 : i < ns.length := by rw [HN.out]; exact hin
      obtain ⟨g, o, rfl, hc⟩ := H1.out.below HB.out i ns[i] (List.getElem?_eq_getElem hi1)
      obtain ⟨g2, o2, rfl, hc2⟩ := H2.out.below HB.out i ns[i] (List.getElem?_eq_getElem hi1)
      obtain ⟨Y, hY⟩ : ∃ Y, str ns[i] = Y := ⟨_, rfl⟩
      rw [hY] at hc hc2
      clear hi1 hY
      go_wp2
      go_quiet (fail)
      go_wp2
      go_roundg (n - (i + 1) + 1)
      case measure => omega
      case rel => exact ⟨i + 1, by omega, rfl, by push_cast; rfl, HB.out.trans ((below_drew (Below.refl wr.heap.size wr) nq).mono HB.out.size)⟩
    · obtain rfl : i = n := by omega
      go_wp2
      go_ret
      exact ⟨rfl, HB.out⟩
theorem num_any (k : Nat) (w : World) (hE : Env w) : Calls Tryd.prog 6 #[errOf k] w fun e w' => e = .returned (.int .i64 (k : Int)) ∧ Below w.heap.size w w' := by
  by_cases h : k = 0
  · subst h
    exact num_nil w
  · rw [errOf_pos h]
    exact num_err (k : Int) w hE.typ
end Go.Proofs.YtiglabpemlogbaaDoor
