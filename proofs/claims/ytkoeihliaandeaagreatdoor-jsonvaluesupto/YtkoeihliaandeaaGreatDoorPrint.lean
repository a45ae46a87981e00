/- Print and Quote. -/
import Derived.Test.YtkoeihliaandeaaGreatDoorWv
namespace Go.Proofs.YtkoeihliaandeaaGreatDoor
open Go.RowKit

set_option maxRecDepth 20000 in
set_option maxHeartbeats 4000000 in
theorem wval_one {k : Int} {b0 : Bool} {t : B} {n : Int} {hh : Bool} {ls : List JV} {ns : List B} (hS : ∀ x ∈ ls, WvalOk x) : WvalOk (.mk k b0 t n hh ls ns) := by
  intro w N b v acc r cs h hf hp hv hlo
  obtain ⟨p1, c1, p2, c2, rfl, hp1, hp2⟩ := hv.open
  have HFt := hid hf
  have HPt := hid hp
  have HVt := hid hv
  have HTx := hid (show t.length ≤ maxI from by simp only [Fits] at hf; exact hf.1)
  have HSO := hid hS
  have HBw := hid (lt_of_heap h.row)
  obtain ⟨n1, e1⟩ : ∃ n1, ls.length = n1 := ⟨_, rfl⟩
  obtain ⟨n2, e2⟩ : ∃ n2, ns.length = n2 := ⟨_, rfl⟩
  rw [e1, e2] at HVt
  rw [e1, e2]
  have HB0 := hid (below_new w (C7 k b0 t n hh p1 n1 c1 p2 n2 c2))
  have R0 := hid (h.below HB0.out)
  have F0 := hid (WF.of_below (b := b) HB0.out h.le)
  have HLo := hid hlo
  clear h hf hp hv hS e1 e2 hp1 hp2 hlo
  by_cases h1 : k = 1
  · subst h1
    have HPv := hid (show printV (.mk 1 b0 t n hh ls ns) = [110, 117, 108, 108] from rfl)
    rw [HPv.out] at HLo ⊢
    go_enter Tryz.func22, Tryz.ntmps22
    go_wp2_with (go_at_call 38; have hcall := add_any [110, 117, 108, 108] R0.out HLo.out; (with_reducible refine hcall.mono ?_); clear hcall; rintro e u1 ⟨rfl, hq⟩; have HQ := hid (hq.of F0.out); clear hq)
    go_end0
    exact ⟨rfl, HQ.out⟩
  have q1 : (k == 1) = false := by simp only [beq_eq_false_iff_ne, ne_eq]; omega
  by_cases h2 : k = 2
  · subst h2
    have HPv := hid (show printV (.mk 2 b0 t n hh ls ns) = Lib.formatBool b0 from by cases b0 <;> rfl)
    rw [HPv.out] at HLo ⊢
    go_enter Tryz.func22, Tryz.ntmps22
    go_wp2_with (first
      | (go_at_call 39; refine (Tryz.strconv_FormatBool b0 _).mono ?_; rintro e u0 ⟨rfl, rfl⟩)
      | (go_at_call 38; have hcall := add_any (Lib.formatBool b0) R0.out HLo.out; (with_reducible refine hcall.mono ?_); clear hcall; rintro e u1 ⟨rfl, hq⟩; have HQ := hid (hq.of F0.out); clear hq))
    go_end0
    exact ⟨rfl, HQ.out⟩
  have q2 : (k == 2) = false := by simp only [beq_eq_false_iff_ne, ne_eq]; omega
  by_cases h3 : k = 3
  · subst h3
    have HPv := hid (show printV (.mk 3 b0 t n hh ls ns) = t from rfl)
    rw [HPv.out] at HLo ⊢
    go_enter Tryz.func22, Tryz.ntmps22
    go_wp2_with (go_at_call 38; have hcall := add_any t R0.out HLo.out; (with_reducible refine hcall.mono ?_); clear hcall; rintro e u1 ⟨rfl, hq⟩; have HQ := hid (hq.of F0.out); clear hq)
    go_end0
    exact ⟨rfl, HQ.out⟩
  have q3 : (k == 3) = false := by simp only [beq_eq_false_iff_ne, ne_eq]; omega
  by_cases h4 : k = 4
  · subst h4
    have HPv := hid (show printV (.mk 4 b0 t n hh ls ns) = quoteB t from rfl)
    rw [HPv.out] at HLo ⊢
    go_enter Tryz.func22, Tryz.ntmps22
    go_wp2_with (go_at_call 40; have hcall := quoted_any t HTx.out R0.out HLo.out; (with_reducible refine hcall.mono ?_); clear hcall; rintro e u1 ⟨rfl, hq⟩; have HQ := hid (hq.of F0.out); clear hq)
    go_end0
    exact ⟨rfl, HQ.out⟩
  have q4 : (k == 4) = false := by simp only [beq_eq_false_iff_ne, ne_eq]; omega
  by_cases h5 : k = 5
  · subst h5
    have HPv := hid (show printV (.mk 5 b0 t n hh ls ns) = [91] ++ (printL false true ls ns ++ [93]) from rfl)
    have HLo2 := hid (show -4611686018427387904 ≤ r - ((1 + (printL false true ls ns).length + 1 : Nat) : Int) from by have q := HLo.out; rw [HPv.out] at q; simp only [List.length_append, List.length_cons, List.length_nil] at q; push_cast at q ⊢; omega)
    rw [HPv.out]
    go_enter Tryz.func22, Tryz.ntmps22
    go_wp2_with (first
      | (go_at_call 38; have hcall := add_any [91] R0.out (by have q := HLo2.out; push_cast at q; simp only [List.length_cons, List.length_nil]; omega); (with_reducible refine hcall.mono ?_); clear hcall; rintro e u1 ⟨rfl, v1, a1, r1, z1, z2, z3⟩; have R1 := hid z1; have F1 := hid z2; have P1 := hid z3; have L1 := z3.2.2; simp only [List.length_cons, List.length_nil] at L1; have HX := hid (box_keep rfl rfl HBw.out z2); obtain ⟨x0, x1, x2, x3, x4, x5, x6, _⟩ := seven HX.out; clear z1 z2 z3 R0)
      | (go_at_call 41; have hcall := parts_write (k := 5) (by simp) b0 t n hh ls ns HSO.out _ _ _ _ _ _ _ R1.out HFt.out HPt.out (HVt.out.below (F0.out.trans F1.out).below) (by have q := HLo2.out; push_cast at q; show -4611686018427387904 ≤ r1 - ((printL false true ls ns).length : Int); omega); (with_reducible refine hcall.mono ?_); clear hcall; rintro e u2 ⟨rfl, v2, a2, r2, z1, z2, z3⟩; have R2 := hid z1; have F2 := hid z2; have P2 := hid (show PR a1 r1 (printL false true ls ns) a2 r2 from z3); have L2 := P2.out.2.2; clear z1 z2 z3 R1)
      | (go_at_call 38; have hcall := add_any [93] R2.out (by have q := HLo2.out; push_cast at q; simp only [List.length_cons, List.length_nil]; omega); (with_reducible refine hcall.mono ?_); clear hcall; rintro e u3 ⟨rfl, v3, a3, r3, z1, z2, z3⟩; have R3 := hid z1; have F3 := hid z2; have P3 := hid z3; clear z1 z2 z3 R2))
    go_end0
    exact ⟨rfl, v3, a3, r3, R3.out, ((F0.out.trans F1.out).trans F2.out).trans F3.out, P1.out.trans (P2.out.trans P3.out)⟩
  have q5 : (k == 5) = false := by simp only [beq_eq_false_iff_ne, ne_eq]; omega
  by_cases h6 : k = 6
  · subst h6
    have HPv := hid (show printV (.mk 6 b0 t n hh ls ns) = [123] ++ (printL true true ls ns ++ [125]) from rfl)
    have HLo2 := hid (show -4611686018427387904 ≤ r - ((1 + (printL true true ls ns).length + 1 : Nat) : Int) from by have q := HLo.out; rw [HPv.out] at q; simp only [List.length_append, List.length_cons, List.length_nil] at q; push_cast at q ⊢; omega)
    rw [HPv.out]
    go_enter Tryz.func22, Tryz.ntmps22
    go_wp2_with (first
      | (go_at_call 38; have hcall := add_any [123] R0.out (by have q := HLo2.out; push_cast at q; simp only [List.length_cons, List.length_nil]; omega); (with_reducible refine hcall.mono ?_); clear hcall; rintro e u1 ⟨rfl, v1, a1, r1, z1, z2, z3⟩; have R1 := hid z1; have F1 := hid z2; have P1 := hid z3; have L1 := z3.2.2; simp only [List.length_cons, List.length_nil] at L1; have HX := hid (box_keep rfl rfl HBw.out z2); obtain ⟨x0, x1, x2, x3, x4, x5, x6, _⟩ := seven HX.out; clear z1 z2 z3 R0)
      | (go_at_call 41; have hcall := parts_write (k := 6) (by simp) b0 t n hh ls ns HSO.out _ _ _ _ _ _ _ R1.out HFt.out HPt.out (HVt.out.below (F0.out.trans F1.out).below) (by have q := HLo2.out; push_cast at q; show -4611686018427387904 ≤ r1 - ((printL true true ls ns).length : Int); omega); (with_reducible refine hcall.mono ?_); clear hcall; rintro e u2 ⟨rfl, v2, a2, r2, z1, z2, z3⟩; have R2 := hid z1; have F2 := hid z2; have P2 := hid (show PR a1 r1 (printL true true ls ns) a2 r2 from z3); have L2 := P2.out.2.2; clear z1 z2 z3 R1)
      | (go_at_call 38; have hcall := add_any [125] R2.out (by have q := HLo2.out; push_cast at q; simp only [List.length_cons, List.length_nil]; omega); (with_reducible refine hcall.mono ?_); clear hcall; rintro e u3 ⟨rfl, v3, a3, r3, z1, z2, z3⟩; have R3 := hid z1; have F3 := hid z2; have P3 := hid z3; clear z1 z2 z3 R2))
    go_end0
    exact ⟨rfl, v3, a3, r3, R3.out, ((F0.out.trans F1.out).trans F2.out).trans F3.out, P1.out.trans (P2.out.trans P3.out)⟩
  have q6 : (k == 6) = false := by simp only [beq_eq_false_iff_ne, ne_eq]; omega
  have HPv := hid (show printV (.mk k b0 t n hh ls ns) = [] from by simp only [printV]; rw [if_neg h1, if_neg h2, if_neg h3, if_neg h4, if_neg h5, if_neg h6])
  rw [HPv.out]
  clear h1 h2 h3 h4 h5 h6
  go_enter Tryz.func22, Tryz.ntmps22
  go_wp2
  go_end0
  exact ⟨rfl, v, acc, r, R0.out, F0.out, PR.none _ _⟩
mutual
theorem wval_any : ∀ t : JV, WvalOk t
  | .mk _ _ _ _ _ ls _ => wval_one (wvals_any ls)
theorem wvals_any : ∀ ls : List JV, ∀ x ∈ ls, WvalOk x
  | [], x, h => by simp at h
  | y :: ys, x, h => by
    simp only [List.mem_cons] at h
    rcases h with rfl | h
    · exact wval_any x
    · exact wvals_any ys x h
end
/-- What Print hands back. -/
def ToldPr (r : B × Nat) (w : World) (e : Ending) (w' : World) : Prop := e = .returned (.tuple #[.string (str r.1), errOf r.2]) ∧ Below w.heap.size w w'
theorem valid_le (t : JV) : validN t = 0 ∨ validN t = 3 ∨ validN t = 5 ∨ validN t = 6 := by
  unfold validN
  split
  · simp
  · rcases fault_cases t with h | h | h <;> simp [h]
theorem Wr.start {w W : World} (hW : W = w.alloc (.cells #[.slice none 0 0, .int .i64 1048576] 57 (0, 0))) : Wr W w.heap.size w.heap.size (.slice none 0 0) [] 1048576 := by
  obtain ⟨a1, a2, a3⟩ := grow w (.cells #[.slice none 0 0, .int .i64 1048576] 57 (0, 0))
  rw [← hW] at a1 a2 a3
  exact ⟨a3, ⟨rfl, .inl ⟨rfl, rfl⟩⟩, Nat.le_refl _, by omega, by omega, by omega, by simp, fun _ => by simp⟩
set_option maxRecDepth 20000 in
set_option maxHeartbeats 4000000 in
theorem print_any (t : JV) (w : World) (cs : List Value) (hE : Env w) (hf : Fits t) (hv : ValOn w t cs) (hlen : validN t = 0 → (printV t).length ≤ 4611686018427387904) :
    Calls Tryz.prog 11 #[.agg cs.toArray] w fun e w' => ToldPr (printS t) w e w' := by
  obtain ⟨k1, k2, k3, k4, k5, k6, k7, k8, k9, k10, k11, rfl⟩ := hv.form
  have HE := hid hE
  have HF := hid hf
  have HV := hid hv
  have HB0 := hid (below_new w (C7 k1 k2 k3 k4 k5 k6 k7 k8 k9 k10 k11))
  clear hE hf hv
  obtain ⟨K, hK⟩ : ∃ K, validN t = K := ⟨_, rfl⟩
  have hKc := valid_le t
  rw [hK] at hKc hlen
  by_cases h0 : K = 0
  · subst h0
    have HVd := hid (show validN t = 0 from hK)
    have hl := hlen rfl
    have HPr := hid (show Pr t from pr_of t (by
      have := hK
      unfold validN at this
      split at this
      · cases this
      · exact this))
    clear hKc hlen hK
    obtain ⟨P, hP⟩ : ∃ P, printV t = P := ⟨_, rfl⟩
    have HP := hid hP
    rw [hP] at hl
    have WV : ∀ w1 : World, Below w.heap.size w w1 → Calls Tryz.prog 22 #[.pointer (some ⟨w1.heap.size, 0, none⟩), .agg #[.int .i64 k1, .bool k2, .string (str k3), .int .i64 k4, .bool k5, .slice k6 k7 k8, .slice k9 k10 k11]] (w1.alloc (.cells #[.slice none 0 0, .int .i64 1048576] 57 (0, 0))) fun e w' => e = .returned (.tuple #[]) ∧ Wrote w1.heap.size w1.heap.size [] 1048576 P (w1.alloc (.cells #[.slice none 0 0, .int .i64 1048576] 57 (0, 0))) w' := fun w1 hb => by
      have hc := wval_any t _ _ _ _ _ _ [.int .i64 k1, .bool k2, .string (str k3), .int .i64 k4, .bool k5, .slice k6 k7 k8, .slice k9 k10 k11] (Wr.start (w := w1) rfl) HF.out HPr.out ((HV.out.below hb).low.below (below_new _ _)) (by rw [HP.out]; omega)
      rw [HP.out] at hc
      exact hc
    have HWV := hid WV
    clear WV hP
    by_cases hbig : 1048576 < P.length
    · have HR := hid (show printS t = ([], 2) from by unfold printS; rw [if_neg (by rw [HVd.out]; simp), HP.out, if_pos hbig])
      rw [HR.out]
      go_enter Tryz.func11, Tryz.ntmps11
      go_wp2_with (first
        | (go_at_call 13; have hcall := valid_any t _ _ (HE.out.below HB0.out) HF.out (HV.out.below HB0.out); rw [HVd.out, show errOf 0 = Value.nilIface from rfl] at hcall; (with_reducible refine hcall.mono ?_); clear hcall; rintro e w1 ⟨rfl, hb⟩; have HB1 := hid (below_out HB0.out hb); have HX := hid ((hb.block w.heap.size (by simp)).trans (heap_alloc_new w (C7 k1 k2 k3 k4 k5 k6 k7 k8 k9 k10 k11))); have s2 := seven HX.out; obtain ⟨x0, x1, x2, x3, x4, x5, x6, _⟩ := s2; have HX2 := hid (((below_new w1 (.cells #[.slice none 0 0, .int .i64 1048576] 57 (0, 0))).block w.heap.size (lt_of_heap HX.out)).trans HX.out); obtain ⟨g0, g1, g2, g3, g4, g5, g6, _⟩ := seven HX2.out; clear hb)
        | (go_at_call 22; have hcall := HWV.out w1 HB1.out; (with_reducible refine hcall.mono ?_); clear hcall; rintro e w2 ⟨rfl, v2, a2, r2, z1, z2, z3⟩; have HB2 := hid (HB1.out.trans (((below_new w1 _).mono HB1.out.size).trans (z2.below.mono HB1.out.size))); have hr : r2 < 0 := z3.2.1 (fun q => by omega); obtain ⟨y0, y1, _⟩ := two z1.row; clear z1 z2 z3))
      go_ret2
      exact ⟨rfl, HB2.out⟩
    · have HR := hid (show printS t = (P, 0) from by unfold printS; rw [if_neg (by rw [HVd.out]; simp), HP.out, if_neg hbig])
      rw [HR.out]
      go_enter Tryz.func11, Tryz.ntmps11
      go_wp2_with (first
        | (go_at_call 13; have hcall := valid_any t _ _ (HE.out.below HB0.out) HF.out (HV.out.below HB0.out); rw [HVd.out, show errOf 0 = Value.nilIface from rfl] at hcall; (with_reducible refine hcall.mono ?_); clear hcall; rintro e w1 ⟨rfl, hb⟩; have HB1 := hid (below_out HB0.out hb); have HX := hid ((hb.block w.heap.size (by simp)).trans (heap_alloc_new w (C7 k1 k2 k3 k4 k5 k6 k7 k8 k9 k10 k11))); have s2 := seven HX.out; obtain ⟨x0, x1, x2, x3, x4, x5, x6, _⟩ := s2; have HX2 := hid (((below_new w1 (.cells #[.slice none 0 0, .int .i64 1048576] 57 (0, 0))).block w.heap.size (lt_of_heap HX.out)).trans HX.out); obtain ⟨g0, g1, g2, g3, g4, g5, g6, _⟩ := seven HX2.out; clear hb)
        | (go_at_call 22; have hcall := HWV.out w1 HB1.out; (with_reducible refine hcall.mono ?_); clear hcall; rintro e w2 ⟨rfl, v2, a2, r2, z1, z2, z3⟩; have HB2 := hid (HB1.out.trans (((below_new w1 _).mono HB1.out.size).trans (z2.below.mono HB1.out.size))); obtain ⟨e2, e3⟩ := z3.1 ⟨by omega, by omega⟩; have hr : ¬ r2 < 0 := (by omega); obtain ⟨p7, L7, c7, rfl⟩ := own_slice3 z1.own; obtain ⟨y0, y1, _⟩ := two z1.row; have hconv := conv_own (World.ownsRowF_of z1.own); rw [e2, List.nil_append] at hconv; clear z1 z2 z3 e2 e3))
      go_ret2
      exact ⟨rfl, HB2.out⟩
  · have HVd := hid hK
    have HR := hid (show printS t = ([], K) from by unfold printS; rw [hK, if_pos h0])
    rw [HR.out]
    have HE0 := hid (errOf_pos h0)
    clear hlen hKc hK
    have HVd2 := hid (show errOf K = .iface 43 (.int .i64 (K : Int)) from HE0.out)
    go_enter Tryz.func11, Tryz.ntmps11
    go_wp2_with (go_at_call 13; have hcall := valid_any t _ _ (HE.out.below HB0.out) HF.out (HV.out.below HB0.out); rw [HVd.out, HVd2.out] at hcall; (with_reducible refine hcall.mono ?_); clear hcall; rintro e w1 ⟨rfl, hb⟩; have HB1 := hid (below_out HB0.out hb); have HX := hid ((hb.block w.heap.size (by simp)).trans (heap_alloc_new w (C7 k1 k2 k3 k4 k5 k6 k7 k8 k9 k10 k11))); have s2 := seven HX.out; obtain ⟨x0, x1, x2, x3, x4, x5, x6, _⟩ := s2; clear hb)
    go_ret2
    exact ⟨by rw [HVd2.out]; rfl, HB1.out⟩
def quoteS (s : B) : B × Nat := if Lib.validD s then (quoteB s, 0) else ([], 3)
end Go.Proofs.YtkoeihliaandeaaGreatDoor
