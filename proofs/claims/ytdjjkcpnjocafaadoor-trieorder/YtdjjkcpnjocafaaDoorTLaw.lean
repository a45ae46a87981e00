/- What the laws call: an error's number, fields and texts held against each other; Beats, and the document's Fits and Beats; what must come whatever the input is. -/
import Derived.Test.YtdjjkcpnjocafaaDoorTRChk
import Derived.Test.YtdjjkcpnjocafaaDoorAs
namespace Go.Proofs.YtdjjkcpnjocafaaDoor
open Go.RowKit

section
variable {P : Program} {md : Region.Mode} {ops : Array Oper} {Q : Exit → Act → World → Prop} {S : World → Prop} {D : Nat → Bool}
theorem late_skip {P : Program} {ops : Array Oper} {Q : Exit → Act → World → Prop} {md : Region.Mode} {S : World → Prop} {D : Nat → Bool} {i : Nat} {oi : Oper} {fuel : Nat} {listed : Array Bool} {a : Act} {w : World} (d : Option Tmp) (hi : ops[i]? = some oi) (hd : oi.dst = d)
    (hs : Region.noSelect ops = true) (hf : Region.free md ops listed i = true) (hr : (Region.ready md ops listed).contains i = true) (hD : lateB md ops D i = true) (hn : noneLateB D listed = true)
    (hQ : ∀ c a w, Q (.panic c) (a.put d undef) w → Q (.panic c) a w) (hw : Region.wanted oi (yielded ops a.tmps) = false) (hS : S w)
    (h : wpAnyD P md ops Q S D fuel (listed.setIfInBounds i true) (a.put d undef) w) : wpAnyD P md ops Q S D (fuel + 1) listed a w := by
  subst hd; exact wpAnyD_take hi hs hf hr hD hn hQ (Or.inr ⟨hw, rfl⟩) hS h
end
/-- A row of fields that is handed in. -/
def FAt (w : World) (p : Option Addr) (fs : List (B × B)) : Prop := ∀ j f, fs[j]? = some f → ∃ g o, p = some ⟨g, o, none⟩ ∧ w.cell? ⟨g, o + j * 2, none⟩ = some (.string (str f.1)) ∧ w.cell? ⟨g, o + j * 2 + 1, none⟩ = some (.string (str f.2))
theorem FAt.next {w w' : World} {p : Option Addr} {fs : List (B × B)} (h : FAt w p fs) (hb : Below w.heap.size w w') : FAt w' p fs := by
  intro j f hj
  obtain ⟨g, o, e, h1, h2⟩ := h j f hj
  exact ⟨g, o, e, cell_keep hb h1, cell_keep hb h2⟩
theorem OwnF.fat {w : World} {b n c : Nat} {p : Option Addr} {fs : List (B × B)} (h : OwnF w b (.slice p n c) fs) : FAt w p fs := by
  intro j f hj
  obtain ⟨g, o, e, h1, h2⟩ := h.at hj
  exact ⟨g, o, e, by rw [Nat.mul_comm]; exact h1, by rw [Nat.mul_comm]; exact h2⟩
/-- What the law's num asks of memory. -/
def EnvE (w : World) : Prop := w.cell? ⟨0, 0, none⟩ = some (.iface 119 (.agg #[.pointer (some ⟨4, 28, none⟩)]))
theorem EnvE.next {w w' : World} (h : EnvE w) (hb : Below w.heap.size w w') : EnvE w' := cell_keep hb h
theorem num_any (k : Nat) (w : World) (he : EnvE w) : Calls Tryd.prog 10 #[errOf k] w fun e w' => e = .returned (.int .i64 (k : Int)) ∧ Below w.heap.size w w' := by
  by_cases hk : k = 0
  · subst hk
    exact num_nil w
  · rw [errOf_pos hk]
    exact num_err (k : Int) w he
structure RdL (U : World) (g o g' o' : Nat) (N V : ByteArray) : Prop where
  a0 : U.cell? ⟨g, o, none⟩ = some (.string N)
  a1 : U.cell? ⟨g, o + 1, none⟩ = some (.string V)
  b0 : U.cell? ⟨g', o', none⟩ = some (.string N)
  b1 : U.cell? ⟨g', o' + 1, none⟩ = some (.string V)
set_option maxRecDepth 20000 in
set_option maxHeartbeats 8000000 in
theorem fields_same (fs : List (B × B)) (p p' : Option Addr) (n c c' : Nat) (hn : fs.length = n) (w : World) (hF : FAt w p fs) (hF' : FAt w p' fs) (hnn : n ≤ 140737488355328) :
    Calls Tryd.prog 15 #[.slice p n c, .slice p' n c'] w fun e w' => e = .returned (.bool true) ∧ Below w.heap.size w w' := by
  have HF := hid hF
  have HF' := hid hF'
  have HN := hid hn
  clear hF hF' hn
  go_enter Tryd.func15, Tryd.ntmps15
  go_wp2
  go_loopg [5] (n + 1) (fun gk s5 wr => ∃ i : Nat, s5 = .int .i64 (i : Int) ∧ i ≤ n ∧ gk = n - i + 1 ∧ Below w.heap.size w wr)
  case atStart => exact ⟨0, rfl, by omega, rfl, Below.refl _ _⟩
  case round =>
    obtain ⟨i, rfl, hin, rfl, hb⟩ := hrel
    have HB := hid hb
    clear hb
    by_cases hlt : i < n
    · obtain ⟨f, hf⟩ : ∃ f, fs[i]? = some f := ⟨fs[i]'(by rw [HN.out]; exact hlt), List.getElem?_eq_getElem (by rw [HN.out]; exact hlt)⟩
      obtain ⟨g, o, hp, c0, c1⟩ := (HF.out.next HB.out) i f hf
      obtain ⟨g', o', hp', d0, d1⟩ := (HF'.out.next HB.out) i f hf
      subst hp hp'
      have hltI : (i : Int) < (n : Int) := by omega
      obtain ⟨N, hN⟩ : ∃ N, str f.1 = N := ⟨_, rfl⟩
      obtain ⟨V, hV⟩ : ∃ V, str f.2 = V := ⟨_, rfl⟩
      rw [hN] at c0 d0
      rw [hV] at c1 d1
      have hS0 : RdL wr.drew g (o + i * 2) g' (o' + i * 2) N V := ⟨c0, c1, d0, d1⟩
      clear hf hN hV
      go_wp2
      refine wp_region_noPanic ?_
      refine any_begin 9 (by kernel_rfl) (by kernel_rfl) ?_
      refine late_begin (fun U => RdL U g (o + i * 2) g' (o' + i * 2) N V) (fun _ => false) hS0 (fun hS => ?_)
      refine late_take (i := 0) (some 17) rfl rfl (by kernel_rfl) (by kernel_rfl) (by kernel_rfl) (by kernel_rfl) (by kernel_rfl) (fun _ _ _ h => h) (by rfl) (v := ?v0f) ?hy0f hS ?rest0f
      case hy0f => intro w0 hSw; obtain ⟨a0, a1, b0, b1⟩ := hSw; go_simp; try with_reducible rfl
      simp only [Act.put, List.setIfInBounds_toArray, List.set_cons_zero, List.set_cons_succ]
      refine late_take (i := 1) (some 18) rfl rfl (by kernel_rfl) (by kernel_rfl) (by kernel_rfl) (by kernel_rfl) (by kernel_rfl) (fun _ _ _ h => h) (by rfl) (v := ?v1f) ?hy1f hS ?rest1f
      case hy1f => intro w0 hSw; obtain ⟨a0, a1, b0, b1⟩ := hSw; go_simp; try with_reducible rfl
      simp only [Act.put, List.setIfInBounds_toArray, List.set_cons_zero, List.set_cons_succ]
      refine late_take (i := 2) (some 19) rfl rfl (by kernel_rfl) (by kernel_rfl) (by kernel_rfl) (by kernel_rfl) (by kernel_rfl) (fun _ _ _ h => h) (by rfl) (v := ?v2f) ?hy2f hS ?rest2f
      case hy2f => intro w0 hSw; obtain ⟨a0, a1, b0, b1⟩ := hSw; go_simp; try with_reducible rfl
      simp only [Act.put, List.setIfInBounds_toArray, List.set_cons_zero, List.set_cons_succ]
      refine late_take (i := 3) (some 20) rfl rfl (by kernel_rfl) (by kernel_rfl) (by kernel_rfl) (by kernel_rfl) (by kernel_rfl) (fun _ _ _ h => h) (by rfl) (v := ?v3f) ?hy3f hS ?rest3f
      case hy3f => intro w0 hSw; obtain ⟨a0, a1, b0, b1⟩ := hSw; go_simp; try with_reducible rfl
      simp only [Act.put, List.setIfInBounds_toArray, List.set_cons_zero, List.set_cons_succ]
      refine late_take (i := 4) (some 21) rfl rfl (by kernel_rfl) (by kernel_rfl) (by kernel_rfl) (by kernel_rfl) (by kernel_rfl) (fun _ _ _ h => h) (by rfl) (v := ?v4f) ?hy4f hS ?rest4f
      case hy4f => intro w0 hSw; obtain ⟨a0, a1, b0, b1⟩ := hSw; go_simp; try with_reducible rfl
      simp only [Act.put, List.setIfInBounds_toArray, List.set_cons_zero, List.set_cons_succ]
      refine late_take (i := 5) (some 22) rfl rfl (by kernel_rfl) (by kernel_rfl) (by kernel_rfl) (by kernel_rfl) (by kernel_rfl) (fun _ _ _ h => h) (by rfl) (v := ?v5f) ?hy5f hS ?rest5f
      case hy5f => intro w0 hSw; obtain ⟨a0, a1, b0, b1⟩ := hSw; go_simp; try with_reducible rfl
      simp only [Act.put, List.setIfInBounds_toArray, List.set_cons_zero, List.set_cons_succ]
      refine late_take (i := 6) (some 23) rfl rfl (by kernel_rfl) (by kernel_rfl) (by kernel_rfl) (by kernel_rfl) (by kernel_rfl) (fun _ _ _ h => h) (by rfl) (v := ?v6f) ?hy6f hS ?rest6f
      case hy6f => intro w0 hSw; obtain ⟨a0, a1, b0, b1⟩ := hSw; go_simp; try with_reducible rfl
      simp only [Act.put, List.setIfInBounds_toArray, List.set_cons_zero, List.set_cons_succ]
      refine late_take (i := 7) (some 24) rfl rfl (by kernel_rfl) (by kernel_rfl) (by kernel_rfl) (by kernel_rfl) (by kernel_rfl) (fun _ _ _ h => h) (by rfl) (v := ?v7f) ?hy7f hS ?rest7f
      case hy7f => intro w0 hSw; obtain ⟨a0, a1, b0, b1⟩ := hSw; go_simp; try with_reducible rfl
      simp only [Act.put, List.setIfInBounds_toArray, List.set_cons_zero, List.set_cons_succ]
      refine late_take (i := 8) (some 25) rfl rfl (by kernel_rfl) (by kernel_rfl) (by kernel_rfl) (by kernel_rfl) (by kernel_rfl) (fun _ _ _ h => h) (by rfl) (v := ?v8f) ?hy8f hS ?rest8f
      case hy8f => intro w0 hSw; obtain ⟨a0, a1, b0, b1⟩ := hSw; go_simp; try with_reducible rfl
      simp only [Act.put, List.setIfInBounds_toArray, List.set_cons_zero, List.set_cons_succ]
      refine late_done (by kernel_rfl) ?_ _
      refine NoPanic.normal ?_
      go_wp2
      go_roundg (n - (i + 1) + 1)
      case measure => omega
      case rel => exact ⟨i + 1, by go_num, by omega, rfl, HB.out.drew⟩
    · obtain rfl : i = n := by omega
      have hltI : ¬ (i : Int) < (i : Int) := by omega
      clear hlt
      go_wp2
      go_ret
      exact ⟨rfl, HB.out⟩
set_option maxRecDepth 20000 in
set_option maxHeartbeats 8000000 in
theorem texts_same (l : List B) (p p' : Option Addr) (n c c' : Nat) (hn : l.length = n) (w : World) (hF : TxAt w p l) (hF' : TxAt w p' l) (hnn : n ≤ 140737488355328) :
    Calls Tryd.prog 17 #[.slice p n c, .slice p' n c'] w fun e w' => e = .returned (.bool true) ∧ Below w.heap.size w w' := by
  have HF := hid hF
  have HF' := hid hF'
  have HN := hid hn
  clear hF hF' hn
  go_enter Tryd.func17, Tryd.ntmps17
  go_wp2
  go_loopg [5] (n + 1) (fun gk s5 wr => ∃ i : Nat, s5 = .int .i64 (i : Int) ∧ i ≤ n ∧ gk = n - i + 1 ∧ Below w.heap.size w wr)
  case atStart => exact ⟨0, rfl, by omega, rfl, Below.refl _ _⟩
  case round =>
    obtain ⟨i, rfl, hin, rfl, hb⟩ := hrel
    have HB := hid hb
    clear hb
    by_cases hlt : i < n
    · obtain ⟨f, hf⟩ : ∃ f, l[i]? = some f := ⟨l[i]'(by rw [HN.out]; exact hlt), List.getElem?_eq_getElem (by rw [HN.out]; exact hlt)⟩
      obtain ⟨g, o, rfl, c0⟩ := (HF.out.next HB.out) i f hf
      obtain ⟨g', o', rfl, d0⟩ := (HF'.out.next HB.out) i f hf
      obtain ⟨N, hN⟩ : ∃ N, str f = N := ⟨_, rfl⟩
      rw [hN] at c0 d0
      clear hf hN
      go_wp2
      go_quiet (fail)
      go_wp2
      go_roundg (n - (i + 1) + 1)
      case measure => omega
      case rel => exact ⟨i + 1, by push_cast; go_num, by omega, rfl, HB.out.trans ((below_drewT _ _).mono HB.out.size)⟩
    · obtain rfl : i = n := by omega
      go_wp2
      go_ret
      exact ⟨rfl, HB.out⟩
/-- What the document's Fits answers. -/
def RFitsAns (o : Option (Option (List (B × B)))) (w : World) (e : Ending) (w' : World) : Prop := Below w.heap.size w w' ∧ match o with
  | none => e = .returned (.tuple #[.bool false, .slice none 0 0, .int .i64 3])
  | some none => e = .returned (.tuple #[.bool false, .slice none 0 0, .int .i64 0])
  | some (some F) => ∃ q d, e = .returned (.tuple #[.bool true, .slice q F.length d, .int .i64 0]) ∧ OwnF w' w.heap.size (.slice q F.length d) F
set_option maxRecDepth 20000 in
set_option maxHeartbeats 8000000 in
theorem rfitsO_any (pa path : B) (ha : pa.length ≤ 4398046511104) (hp : path.length ≤ 4294967280) (w : World) : Calls Tryd.prog 21 #[.string (str pa), .string (str path)] w fun e w' => RFitsAns (fitsO pa path) w e w' := by
  have HCk := hid (fun W : World => rcheck_any pa ha W)
  obtain ⟨ck, hck⟩ : ∃ ck, checkP pa = ck := ⟨_, rfl⟩
  have HCk2 := hid (show ∀ W : World, Calls Tryd.prog 12 #[.string (str pa)] W fun e w' => e = .returned (.int .i64 (if ck then 0 else 3)) ∧ Below W.heap.size W w' from fun W => by have h := HCk.out W; unfold RChkAns at h; rw [hck] at h; exact h)
  clear HCk
  cases hb : begB 47 path with
  | false =>
    have e1 : fitsO pa path = none := by unfold fitsO; rw [hb, Bool.and_false]; rfl
    have HSp := hid (fun W : World => rsplit_none (p := path) (by omega) hb W)
    rw [e1]
    obtain ⟨S, hS⟩ : ∃ S, str pa = S := ⟨_, rfl⟩
    obtain ⟨Y, hY⟩ : ∃ S, str path = S := ⟨_, rfl⟩
    rw [hS] at HCk2 ⊢
    rw [hY] at HSp ⊢
    clear hS hY ha hp hb e1 hck
    cases ck with
    | false =>
      rw [if_neg (by decide)] at HCk2
      go_enter Tryd.func21, Tryd.ntmps21
      go_wp2_with (first | (go_at_call 30; (with_reducible refine (HSp.out _).mono ?_); rintro e w1 ⟨rfl, hw1⟩; subst w1) | (go_at_call 12; (with_reducible refine (HCk2.out _).mono ?_); rintro e w2 ⟨rfl, hb2⟩; have HB2 := hid hb2; clear hb2))
      go_ret3
      exact ⟨HB2.out, rfl⟩
    | true =>
      rw [if_pos rfl] at HCk2
      go_enter Tryd.func21, Tryd.ntmps21
      go_wp2_with (first | (go_at_call 30; (with_reducible refine (HSp.out _).mono ?_); rintro e w1 ⟨rfl, hw1⟩; subst w1) | (go_at_call 12; (with_reducible refine (HCk2.out _).mono ?_); rintro e w2 ⟨rfl, hb2⟩; have HB2 := hid hb2; clear hb2))
      go_ret3
      exact ⟨HB2.out, rfl⟩
  | true =>
    obtain ⟨t, rfl⟩ := beg_cons hb
    have htl : t.length ≤ 4294967280 := by simp at hp; omega
    have HSp := hid (fun W : World => rsplit_yes t (by omega) W)
    have hcl := cutT_len t
    obtain ⟨X, hX⟩ : ∃ X, cutT t = X := ⟨_, rfl⟩
    obtain ⟨n, hn⟩ : ∃ n, X.length = n := ⟨_, rfl⟩
    have HN := hid hn
    rw [hX, hn] at HSp hcl
    cases ck with
    | false =>
      have e1 : fitsO pa (47 :: t) = none := by unfold fitsO; rw [hck]; rfl
      rw [e1]
      rw [if_neg (by decide)] at HCk2
      obtain ⟨S, hS⟩ : ∃ S, str pa = S := ⟨_, rfl⟩
      obtain ⟨Y, hY⟩ : ∃ S, str (47 :: t) = S := ⟨_, rfl⟩
      rw [hS] at HCk2 ⊢
      rw [hY] at HSp ⊢
      clear hS hY ha hp hb e1 hck hX hn
      go_enter Tryd.func21, Tryd.ntmps21
      go_wp2_with (first | (go_at_call 30; (with_reducible refine (HSp.out _).mono ?_); rintro e w1 ⟨p1, c1, rfl, ho, hb1⟩; have HB1 := hid hb1; clear hb1 ho) | (go_at_call 12; (with_reducible refine (HCk2.out _).mono ?_); rintro e w2 ⟨rfl, hb2⟩; have HB2 := hid (below_out HB1.out hb2); clear hb2))
      go_ret3
      exact ⟨HB2.out, rfl⟩
    | true =>
      rw [if_pos rfl] at HCk2
      obtain ⟨tp, etp, h64, h256, hrl⟩ := check_parts hck
      have e1 : fitsO pa (47 :: t) = some (fitsT (cutT tp) X) := by unfold fitsO; rw [hck, hb, etp]; show some (fitsT (cutT tp) (cutT t)) = _; rw [hX]
      rw [e1]
      have HFt := hid (fun (py : Option Addr) (c : Nat) (hc : n ≤ c) (W : World) (h : TxAt W py X) => rfits_any tp (by rw [etp] at h256; simp at h256; omega) X py n c HN.out (by omega) hc (by rw [← hX, joinT_cut]; omega) W h)
      rw [← etp] at HFt
      obtain ⟨S, hS⟩ : ∃ S, str pa = S := ⟨_, rfl⟩
      obtain ⟨Y, hY⟩ : ∃ S, str (47 :: t) = S := ⟨_, rfl⟩
      rw [hS] at HCk2 HFt ⊢
      rw [hY] at HSp ⊢
      obtain ⟨R, hR⟩ : ∃ R, fitsT (cutT tp) X = R := ⟨_, rfl⟩
      rw [hR] at HFt ⊢
      clear hS hY ha hp hb e1 hck hX hn hR etp h64 h256 hrl
      cases R with
      | none =>
        go_enter Tryd.func21, Tryd.ntmps21
        go_wp2_with (first | (go_at_call 30; (with_reducible refine (HSp.out _).mono ?_); rintro e w1 ⟨p1, c1, rfl, ho, hb1⟩; have HB1 := hid hb1; have HCp := hid ho.cap; have HTx := hid ho.tx; clear hb1 ho) | (go_at_call 12; (with_reducible refine (HCk2.out _).mono ?_); rintro e w2 ⟨rfl, hb2⟩; have HB2 := hid (below_out HB1.out hb2); have HT2 := hid (HTx.out.next hb2); clear hb2) | (go_at_call 37; (with_reducible refine (HFt.out _ _ HCp.out _ HT2.out).mono ?_); rintro e w3 ⟨rfl, hb3⟩; have HB3 := hid (below_out HB2.out hb3); clear hb3))
        go_ret3
        exact ⟨HB3.out, rfl⟩
      | some F =>
        obtain ⟨L, hL⟩ : ∃ L, F.length = L := ⟨_, rfl⟩
        have HF2 := hid (fun (py : Option Addr) (c : Nat) (hc : n ≤ c) (W : World) (h : TxAt W py X) => (HFt.out py c hc W h).mono (R' := fun e w' => ∃ q d, e = .returned (.tuple #[.bool true, .slice q L d]) ∧ OwnF w' W.heap.size (.slice q L d) F ∧ Below W.heap.size W w') (by rintro e w' ⟨q, d, h3, h4⟩; rw [hL] at h3 h4; exact ⟨q, d, h3, h4⟩))
        have HL := hid hL
        clear hL HFt
        go_enter Tryd.func21, Tryd.ntmps21
        go_wp2_with (first | (go_at_call 30; (with_reducible refine (HSp.out _).mono ?_); rintro e w1 ⟨p1, c1, rfl, ho, hb1⟩; have HB1 := hid hb1; have HCp := hid ho.cap; have HTx := hid ho.tx; clear hb1 ho) | (go_at_call 12; (with_reducible refine (HCk2.out _).mono ?_); rintro e w2 ⟨rfl, hb2⟩; have HB2 := hid (below_out HB1.out hb2); have HT2 := hid (HTx.out.next hb2); clear hb2) | (go_at_call 37; (with_reducible refine (HF2.out _ _ HCp.out _ HT2.out).mono ?_); rintro e w3 ⟨q3, d3, rfl, ho3, hb3⟩; have HO3 := hid (ho3.lowT HB2.out.size); have HB3 := hid (below_out HB2.out hb3); clear hb3 ho3))
        go_ret3
        exact ⟨HB3.out, q3, d3, by rw [HL.out]; rfl, by rw [HL.out]; exact HO3.out⟩
end Go.Proofs.YtdjjkcpnjocafaaDoor
