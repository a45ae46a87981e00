/- Find and All of tables, and the calls of a nil table, by the program. -/
import Derived.Test.YtkjgdfihhhdjaaaDoorSTabF
namespace Go.Proofs.YtkjgdfihhhdjaaaDoor
open Go.RowKit Go.Maps

def findV (o : Option Int) : Value := match o with
  | none => .tuple #[.int .i64 0, .iface 72 (.int .i64 8)]
  | some i => .tuple #[.int .i64 i, .nilIface]
def findT (P : List (B × Int)) (L : List B) (host : B) : Value := match labsH false host with
  | none => .tuple #[.int .i64 0, err3]
  | some y => findV (findO (idsF P) y L)
theorem under_len {y : List B} {s pl : B} (hy : ∀ x ∈ y, x.length ≤ 253) (hs : s.length ≤ 254) (h : underS y s = some pl) : pl.length ≤ 100000 := by
  unfold underS at h
  split at h
  · cases h
  · rename_i hno
    have := Option.some.inj h
    subst this
    by_cases h0 : s = []
    · subst h0
      have : pickS y.reverse [] = [] := by cases y.reverse <;> rfl
      rw [this]
      exact Nat.zero_le _
    · have hl : s.length = y.length := Decidable.byContradiction fun e => hno ⟨h0, e⟩
      have hm : ∀ z ∈ pickS y.reverse s, z.length ≤ 253 := fun z hz => hy z (List.mem_reverse.1 (pick_mem hz))
      have h1 := joinH_len hm
      rw [pick_len _ _ (by rw [List.length_reverse, hl])] at h1
      have h3 : s.countP (· == 48) ≤ s.length := List.countP_le_length
      have : (253 + 1) * s.countP (· == 48) ≤ 254 * 254 := Nat.mul_le_mul_left 254 (by omega)
      omega
theorem find_none {ids : B × B → Option Int} {y : List B} {L : List B} {i : Nat} {s : B} (h : L[i]? = some s) (hu : underS y s = none) : findO ids y (L.drop i) = findO ids y (L.drop (i + 1)) := by
  obtain ⟨h1, e⟩ := List.getElem?_eq_some_iff.1 h
  rw [List.drop_eq_getElem_cons h1, e, findO, hu]
theorem find_miss {ids : B × B → Option Int} {y : List B} {L : List B} {i : Nat} {s pl : B} (h : L[i]? = some s) (hu : underS y s = some pl) (hi : ids (s, pl) = none) : findO ids y (L.drop i) = findO ids y (L.drop (i + 1)) := by
  obtain ⟨h1, e⟩ := List.getElem?_eq_some_iff.1 h
  rw [List.drop_eq_getElem_cons h1, e, findO, hu]
  simp [hi]
theorem find_hit {ids : B × B → Option Int} {y : List B} {L : List B} {i : Nat} {s pl : B} {k : Int} (h : L[i]? = some s) (hu : underS y s = some pl) (hi : ids (s, pl) = some k) : findO ids y (L.drop i) = some k := by
  obtain ⟨h1, e⟩ := List.getElem?_eq_some_iff.1 h
  rw [List.drop_eq_getElem_cons h1, e, findO, hu]
  simp [hi]
set_option maxRecDepth 20000 in
set_option maxHeartbeats 16000000 in
theorem find_any {w : World} {t : Nat} {P : List (B × Int)} {m : Option Nat} {v1 v2 : Value} {L : List B} (h : Tab w t P m v1 v2 L) (hmx : MxAt w) (host : B) (hh : host.length ≤ 9223372036854775807) :
    Calls Tryd.prog 25 #[.pointer (some ⟨t, 0, none⟩), .string (str host)] w fun e w' => e = .returned (findT P L host) ∧ Below w.heap.size w w' := by
  have HL := hid (plabels_any host false hh w hmx)
  obtain ⟨S, hS⟩ : ∃ S, str host = S := ⟨_, rfl⟩
  rw [hS] at HL ⊢
  unfold findT
  cases hl : labsH false host with
  | none =>
    rw [hl] at HL
    unfold PLab at HL
    dsimp only at HL ⊢
    clear hS hl h hmx
    go_enter Tryd.func25, Tryd.ntmps25
    go_wp2_with (go_at_call 29; (with_reducible refine HL.out.mono ?_); rintro e w1 ⟨hb, rfl⟩; have HB := hid hb; clear hb HL)
    go_ret2
    exact ⟨rfl, HB.out⟩
  | some y =>
    rw [hl] at HL
    unfold PLab at HL
    dsimp only at HL ⊢
    have hyl := labs_len hl
    have HYm := hid (labs_mem_len hl)
    obtain ⟨ny, hny⟩ : ∃ n, y.length = n := ⟨_, rfl⟩
    rw [hny] at HL hyl
    have HNy := hid hny
    obtain ⟨p1, n, c1, rfl⟩ := own_slice3 h.tab.sh
    have hn : L.length = n := (row_lenH h.tab.sh).symm
    have hnn : n ≤ 64 := by have := h.tab.ll; have := h.len; omega
    have HH := hid h
    have HN := hid hn
    have HLb := hid h.tab.sh.lb
    have HLl := hid h.tab.lb
    obtain ⟨_, hc1, _, _⟩ := h.tab.cells
    have HC1 := hid hc1
    clear hS hl h hmx hny hn hc1
    go_enter Tryd.func25, Tryd.ntmps25
    go_wp2_with (go_at_call 29; (with_reducible refine HL.out.mono ?_); rintro e w1 ⟨hb, qy, d1, rfl, ho⟩; have HB := hid hb; have HT := hid ho.lb; have hc1 := cell_keep hb HC1.out; clear hb ho HL)
    go_loopg [30] (n + 1) (fun gk s30 wr => ∃ i : Nat, i ≤ n ∧ gk = n - i + 1 ∧ s30 = .int .i64 (i : Int) ∧ findO (idsF P) y L = findO (idsF P) y (L.drop i) ∧ Below w1.heap.size w1 wr)
    case atStart => exact ⟨0, by omega, rfl, rfl, rfl, Below.refl _ _⟩
    case round =>
      obtain ⟨i, hi, rfl, rfl, hE, hb⟩ := hrel
      have HE := hid hE
      have HBr := hid hb
      have HBw := hid (below_out HB.out hb)
      clear hE hb
      by_cases hin : i < n
      · obtain ⟨s, hs⟩ : ∃ s, L[i]? = some s := ⟨_, List.getElem?_eq_getElem (by rw [HN.out]; exact hin)⟩
        obtain ⟨g1, o1, rfl, q1⟩ := (HLb.out.next HBw.out) i s hs
        have hsl := HLl.out s (List.mem_of_getElem? hs)
        have HU := hid (fun (W : World) (hT : LbAt W qy y) => under_any y qy ny d1 HNy.out hyl HYm.out s hsl W hT)
        have HSg := hid hs
        have HTr := hid (HT.out.next HBr.out)
        obtain ⟨SA, hSA⟩ : ∃ S, str s = S := ⟨_, rfl⟩
        rw [hSA] at q1 HU
        cases hu : underS y s with
        | none =>
          rw [hu] at HU
          unfold undV keyV at HU
          dsimp only at HU
          have HSt := hid (find_none (ids := idsF P) hs hu)
          clear hs hsl hSA hu
          go_wp2_with (go_at_call 43; (with_reducible refine (HU.out _ HTr.out).mono ?_); rintro e w2 ⟨rfl, hb2⟩; have HB2 := hid (below_out HBr.out (below_out hb2 (below_new w2 (.cells #[.string ⟨#[]⟩, .string ⟨#[]⟩] 75 (0, 0))))); clear hb2 HU)
          go_roundg (n - (i + 1) + 1)
          case measure => omega
          case rel => exact ⟨i + 1, by omega, rfl, by push_cast; go_num, HE.out.trans HSt.out, HB2.out⟩
        | some pl =>
          rw [hu] at HU
          unfold undV keyV at HU
          dsimp only at HU
          obtain ⟨SB, hSB⟩ : ∃ S, str pl = S := ⟨_, rfl⟩
          rw [hSA, hSB] at HU
          have hpl := under_len HYm.out hsl hu
          have HLk := hid (fun (W : World) (g : Nat) (hT : Tab W t P m (.slice (some ⟨g1, o1, none⟩) n c1) v2 L) (hb : KBox W g (str s) (str pl)) => hT.lks (a := s) (b := pl) ⟨by omega, hpl⟩ hb)
          rw [hSA, hSB] at HLk
          cases hid9 : idsF P (s, pl) with
          | none =>
            rw [hid9] at HLk
            have HSt := hid (find_miss (ids := idsF P) hs hu hid9)
            clear hs hsl hSA hSB hu hpl hid9
            go_wp2_with (go_at_call 43; (with_reducible refine (HU.out _ HTr.out).mono ?_); rintro e w2 ⟨rfl, hb2⟩; have HB2 := hid (below_out HBr.out (below_out hb2 (below_new w2 (.cells #[.string SA, .string SB] 75 (0, 0))))); have HK2 := hid (KBox.new w2 SA SB); clear hb2 HU)
            have hbD : Below w.heap.size w (w2.alloc (.cells #[.string SA, .string SB] 75 (0, 0))).drew := below_out (below_out HB.out HB2.out) (below_drewH _ 1)
            obtain ⟨cc, hS0a, _⟩ := HLk.out (w2.alloc (.cells #[.string SA, .string SB] 75 (0, 0))).drew w2.heap.size (HH.out.next hbD) (HK2.out.next (below_drewH _ 1))
            obtain ⟨b0, hb0⟩ : ∃ b0, w2.heap.size = b0 := ⟨_, rfl⟩
            rw [hb0] at hS0a ⊢
            refine wp_region_noPanic ?_
            refine any_begin 11 (by kernel_rfl) (by kernel_rfl) ?_
            refine late_begin (fun U => LkS U t b0 m SA SB (.tuple #[.int .i64 cc, .bool (none : Option Int).isSome])) (fun _ => false) hS0a (fun hS => ?_)
            refine late_take (i := 0) (some 43) rfl rfl (by kernel_rfl) (by kernel_rfl) (by kernel_rfl) (by kernel_rfl) (by kernel_rfl) (fun _ _ _ h => h) (by rfl) (v := ?v0a) ?hy0a hS ?rest0a
            case hy0a => intro w0 hSw; obtain ⟨a0, a1, a2, a3⟩ := hSw; go_simp; try with_reducible rfl
            simp only [Act.put, List.setIfInBounds_toArray, List.set_cons_zero, List.set_cons_succ]
            refine late_take (i := 1) (some 44) rfl rfl (by kernel_rfl) (by kernel_rfl) (by kernel_rfl) (by kernel_rfl) (by kernel_rfl) (fun _ _ _ h => h) (by rfl) (v := ?v1a) ?hy1a hS ?rest1a
            case hy1a => intro w0 hSw; obtain ⟨a0, a1, a2, a3⟩ := hSw; go_simp; try with_reducible rfl
            simp only [Act.put, List.setIfInBounds_toArray, List.set_cons_zero, List.set_cons_succ]
            refine late_take (i := 2) (some 45) rfl rfl (by kernel_rfl) (by kernel_rfl) (by kernel_rfl) (by kernel_rfl) (by kernel_rfl) (fun _ _ _ h => h) (by rfl) (v := ?v2a) ?hy2a hS ?rest2a
            case hy2a => intro w0 hSw; obtain ⟨a0, a1, a2, a3⟩ := hSw; go_simp; try with_reducible rfl
            simp only [Act.put, List.setIfInBounds_toArray, List.set_cons_zero, List.set_cons_succ]
            refine late_take (i := 3) (some 46) rfl rfl (by kernel_rfl) (by kernel_rfl) (by kernel_rfl) (by kernel_rfl) (by kernel_rfl) (fun _ _ _ h => h) (by rfl) (v := ?v3a) ?hy3a hS ?rest3a
            case hy3a => intro w0 hSw; obtain ⟨a0, a1, a2, a3⟩ := hSw; go_simp; try with_reducible rfl
            simp only [Act.put, List.setIfInBounds_toArray, List.set_cons_zero, List.set_cons_succ]
            refine late_take (i := 4) (some 47) rfl rfl (by kernel_rfl) (by kernel_rfl) (by kernel_rfl) (by kernel_rfl) (by kernel_rfl) (fun _ _ _ h => h) (by rfl) (v := ?v4a) ?hy4a hS ?rest4a
            case hy4a => intro w0 hSw; obtain ⟨a0, a1, a2, a3⟩ := hSw; go_simp; try with_reducible rfl
            simp only [Act.put, List.setIfInBounds_toArray, List.set_cons_zero, List.set_cons_succ]
            refine late_take (i := 5) (some 48) rfl rfl (by kernel_rfl) (by kernel_rfl) (by kernel_rfl) (by kernel_rfl) (by kernel_rfl) (fun _ _ _ h => h) (by rfl) (v := .tuple #[.int .i64 cc, .bool (none : Option Int).isSome]) ?hy5a hS ?rest5a
            case hy5a => intro w0 hSw; exact exec_look rfl rfl rfl hSw.look
            simp only [Act.put, List.setIfInBounds_toArray, List.set_cons_zero, List.set_cons_succ]
            refine late_take (i := 6) (some 42) rfl rfl (by kernel_rfl) (by kernel_rfl) (by kernel_rfl) (by kernel_rfl) (by kernel_rfl) (fun _ _ _ h => h) (by rfl) (v := ?v6a) ?hy6a hS ?rest6a
            case hy6a => intro w0 hSw; obtain ⟨a0, a1, a2, a3⟩ := hSw; go_simp; try with_reducible rfl
            simp only [Act.put, List.setIfInBounds_toArray, List.set_cons_zero, List.set_cons_succ]
            refine late_take (i := 7) (some 49) rfl rfl (by kernel_rfl) (by kernel_rfl) (by kernel_rfl) (by kernel_rfl) (by kernel_rfl) (fun _ _ _ h => h) (by rfl) (v := ?v7a) ?hy7a hS ?rest7a
            case hy7a => intro w0 hSw; obtain ⟨a0, a1, a2, a3⟩ := hSw; go_simp; try with_reducible rfl
            simp only [Act.put, List.setIfInBounds_toArray, List.set_cons_zero, List.set_cons_succ]
            refine late_take (i := 8) (some 50) rfl rfl (by kernel_rfl) (by kernel_rfl) (by kernel_rfl) (by kernel_rfl) (by kernel_rfl) (fun _ _ _ h => h) (by rfl) (v := ?v8a) ?hy8a hS ?rest8a
            case hy8a => intro w0 hSw; obtain ⟨a0, a1, a2, a3⟩ := hSw; go_simp; try with_reducible rfl
            simp only [Act.put, List.setIfInBounds_toArray, List.set_cons_zero, List.set_cons_succ]
            refine late_take (i := 9) (some 12) rfl rfl (by kernel_rfl) (by kernel_rfl) (by kernel_rfl) (by kernel_rfl) (by kernel_rfl) (fun _ _ _ h => h) (by rfl) (v := ?v9a) ?hy9a hS ?rest9a
            case hy9a => intro w0 hSw; obtain ⟨a0, a1, a2, a3⟩ := hSw; go_simp; try with_reducible rfl
            simp only [Act.put, List.setIfInBounds_toArray, List.set_cons_zero, List.set_cons_succ]
            refine late_take (i := 10) (some 13) rfl rfl (by kernel_rfl) (by kernel_rfl) (by kernel_rfl) (by kernel_rfl) (by kernel_rfl) (fun _ _ _ h => h) (by rfl) (v := ?v10a) ?hy10a hS ?rest10a
            case hy10a => intro w0 hSw; obtain ⟨a0, a1, a2, a3⟩ := hSw; go_simp; try with_reducible rfl
            simp only [Act.put, List.setIfInBounds_toArray, List.set_cons_zero, List.set_cons_succ]
            refine late_done (by kernel_rfl) ?_ _
            refine NoPanic.normal ?_
            go_wp2
            go_roundg (n - (i + 1) + 1)
            case measure => omega
            case rel => exact ⟨i + 1, by omega, rfl, by push_cast; go_num, HE.out.trans HSt.out, below_out HB2.out (below_drewH _ 1)⟩
          | some k0 =>
            rw [hid9] at HLk
            have HSt := hid (find_hit (ids := idsF P) hs hu hid9)
            clear hs hsl hSA hSB hu hpl hid9
            go_wp2_with (go_at_call 43; (with_reducible refine (HU.out _ HTr.out).mono ?_); rintro e w2 ⟨rfl, hb2⟩; have HB2 := hid (below_out HBr.out (below_out hb2 (below_new w2 (.cells #[.string SA, .string SB] 75 (0, 0))))); have HK2 := hid (KBox.new w2 SA SB); clear hb2 HU)
            have hbD : Below w.heap.size w (w2.alloc (.cells #[.string SA, .string SB] 75 (0, 0))).drew := below_out (below_out HB.out HB2.out) (below_drewH _ 1)
            obtain ⟨cc, hS0b, hcc⟩ := HLk.out (w2.alloc (.cells #[.string SA, .string SB] 75 (0, 0))).drew w2.heap.size (HH.out.next hbD) (HK2.out.next (below_drewH _ 1))
            obtain rfl : cc = k0 := hcc k0 rfl
            obtain ⟨b0, hb0⟩ : ∃ b0, w2.heap.size = b0 := ⟨_, rfl⟩
            rw [hb0] at hS0b ⊢
            refine wp_region_noPanic ?_
            refine any_begin 11 (by kernel_rfl) (by kernel_rfl) ?_
            refine late_begin (fun U => LkS U t b0 m SA SB (.tuple #[.int .i64 cc, .bool (some cc).isSome])) (fun _ => false) hS0b (fun hS => ?_)
            refine late_take (i := 0) (some 43) rfl rfl (by kernel_rfl) (by kernel_rfl) (by kernel_rfl) (by kernel_rfl) (by kernel_rfl) (fun _ _ _ h => h) (by rfl) (v := ?v0b) ?hy0b hS ?rest0b
            case hy0b => intro w0 hSw; obtain ⟨a0, a1, a2, a3⟩ := hSw; go_simp; try with_reducible rfl
            simp only [Act.put, List.setIfInBounds_toArray, List.set_cons_zero, List.set_cons_succ]
            refine late_take (i := 1) (some 44) rfl rfl (by kernel_rfl) (by kernel_rfl) (by kernel_rfl) (by kernel_rfl) (by kernel_rfl) (fun _ _ _ h => h) (by rfl) (v := ?v1b) ?hy1b hS ?rest1b
            case hy1b => intro w0 hSw; obtain ⟨a0, a1, a2, a3⟩ := hSw; go_simp; try with_reducible rfl
            simp only [Act.put, List.setIfInBounds_toArray, List.set_cons_zero, List.set_cons_succ]
            refine late_take (i := 2) (some 45) rfl rfl (by kernel_rfl) (by kernel_rfl) (by kernel_rfl) (by kernel_rfl) (by kernel_rfl) (fun _ _ _ h => h) (by rfl) (v := ?v2b) ?hy2b hS ?rest2b
            case hy2b => intro w0 hSw; obtain ⟨a0, a1, a2, a3⟩ := hSw; go_simp; try with_reducible rfl
            simp only [Act.put, List.setIfInBounds_toArray, List.set_cons_zero, List.set_cons_succ]
            refine late_take (i := 3) (some 46) rfl rfl (by kernel_rfl) (by kernel_rfl) (by kernel_rfl) (by kernel_rfl) (by kernel_rfl) (fun _ _ _ h => h) (by rfl) (v := ?v3b) ?hy3b hS ?rest3b
            case hy3b => intro w0 hSw; obtain ⟨a0, a1, a2, a3⟩ := hSw; go_simp; try with_reducible rfl
            simp only [Act.put, List.setIfInBounds_toArray, List.set_cons_zero, List.set_cons_succ]
            refine late_take (i := 4) (some 47) rfl rfl (by kernel_rfl) (by kernel_rfl) (by kernel_rfl) (by kernel_rfl) (by kernel_rfl) (fun _ _ _ h => h) (by rfl) (v := ?v4b) ?hy4b hS ?rest4b
            case hy4b => intro w0 hSw; obtain ⟨a0, a1, a2, a3⟩ := hSw; go_simp; try with_reducible rfl
            simp only [Act.put, List.setIfInBounds_toArray, List.set_cons_zero, List.set_cons_succ]
            refine late_take (i := 5) (some 48) rfl rfl (by kernel_rfl) (by kernel_rfl) (by kernel_rfl) (by kernel_rfl) (by kernel_rfl) (fun _ _ _ h => h) (by rfl) (v := .tuple #[.int .i64 cc, .bool (some cc).isSome]) ?hy5b hS ?rest5b
            case hy5b => intro w0 hSw; exact exec_look rfl rfl rfl hSw.look
            simp only [Act.put, List.setIfInBounds_toArray, List.set_cons_zero, List.set_cons_succ]
            refine late_take (i := 6) (some 42) rfl rfl (by kernel_rfl) (by kernel_rfl) (by kernel_rfl) (by kernel_rfl) (by kernel_rfl) (fun _ _ _ h => h) (by rfl) (v := ?v6b) ?hy6b hS ?rest6b
            case hy6b => intro w0 hSw; obtain ⟨a0, a1, a2, a3⟩ := hSw; go_simp; try with_reducible rfl
            simp only [Act.put, List.setIfInBounds_toArray, List.set_cons_zero, List.set_cons_succ]
            refine late_take (i := 7) (some 49) rfl rfl (by kernel_rfl) (by kernel_rfl) (by kernel_rfl) (by kernel_rfl) (by kernel_rfl) (fun _ _ _ h => h) (by rfl) (v := ?v7b) ?hy7b hS ?rest7b
            case hy7b => intro w0 hSw; obtain ⟨a0, a1, a2, a3⟩ := hSw; go_simp; try with_reducible rfl
            simp only [Act.put, List.setIfInBounds_toArray, List.set_cons_zero, List.set_cons_succ]
            refine late_take (i := 8) (some 50) rfl rfl (by kernel_rfl) (by kernel_rfl) (by kernel_rfl) (by kernel_rfl) (by kernel_rfl) (fun _ _ _ h => h) (by rfl) (v := ?v8b) ?hy8b hS ?rest8b
            case hy8b => intro w0 hSw; obtain ⟨a0, a1, a2, a3⟩ := hSw; go_simp; try with_reducible rfl
            simp only [Act.put, List.setIfInBounds_toArray, List.set_cons_zero, List.set_cons_succ]
            refine late_take (i := 9) (some 12) rfl rfl (by kernel_rfl) (by kernel_rfl) (by kernel_rfl) (by kernel_rfl) (by kernel_rfl) (fun _ _ _ h => h) (by rfl) (v := ?v9b) ?hy9b hS ?rest9b
            case hy9b => intro w0 hSw; obtain ⟨a0, a1, a2, a3⟩ := hSw; go_simp; try with_reducible rfl
            simp only [Act.put, List.setIfInBounds_toArray, List.set_cons_zero, List.set_cons_succ]
            refine late_take (i := 10) (some 13) rfl rfl (by kernel_rfl) (by kernel_rfl) (by kernel_rfl) (by kernel_rfl) (by kernel_rfl) (fun _ _ _ h => h) (by rfl) (v := ?v10b) ?hy10b hS ?rest10b
            case hy10b => intro w0 hSw; obtain ⟨a0, a1, a2, a3⟩ := hSw; go_simp; try with_reducible rfl
            simp only [Act.put, List.setIfInBounds_toArray, List.set_cons_zero, List.set_cons_succ]
            refine late_done (by kernel_rfl) ?_ _
            refine NoPanic.normal ?_
            go_wp2
            go_ret2
            exact ⟨by rw [HE.out, HSt.out]; rfl, hbD⟩
      · obtain rfl : n = i := by omega
        have HV := hid (show findO (idsF P) y L = none from by rw [HE.out, List.drop_of_length_le (by rw [HN.out]; exact Nat.le_refl _)]; rfl)
        go_wp2
        go_ret2
        exact ⟨by rw [HV.out]; rfl, HBw.out⟩
set_option maxRecDepth 20000 in
set_option maxHeartbeats 4000000 in
theorem find_nil (host : B) (hh : host.length ≤ 9223372036854775807) (w : World) (hmx : MxAt w) : Calls Tryd.prog 25 #[.pointer none, .string (str host)] w fun e w' => e = .returned (if (labsH false host).isSome then findV none else .tuple #[.int .i64 0, err3]) ∧ Below w.heap.size w w' := by
  have HL := hid (plabels_any host false hh w hmx)
  obtain ⟨S, hS⟩ : ∃ S, str host = S := ⟨_, rfl⟩
  rw [hS] at HL ⊢
  cases hl : labsH false host with
  | none =>
    rw [hl] at HL
    unfold PLab at HL
    dsimp only at HL ⊢
    clear hS hl hmx
    go_enter Tryd.func25, Tryd.ntmps25
    go_wp2_with (go_at_call 29; (with_reducible refine HL.out.mono ?_); rintro e w1 ⟨hb, rfl⟩; have HB := hid hb; clear hb HL)
    go_ret2
    exact ⟨rfl, HB.out⟩
  | some y =>
    rw [hl] at HL
    unfold PLab at HL
    dsimp only at HL ⊢
    have hyl := labs_len hl
    obtain ⟨ny, hny⟩ : ∃ n, y.length = n := ⟨_, rfl⟩
    rw [hny] at HL hyl
    clear hS hl hmx hny
    go_enter Tryd.func25, Tryd.ntmps25
    go_wp2_with (go_at_call 29; (with_reducible refine HL.out.mono ?_); rintro e w1 ⟨hb, qy, d1, rfl, ho⟩; have HB := hid hb; clear hb ho HL)
    go_ret2
    exact ⟨rfl, HB.out⟩
set_option maxRecDepth 20000 in
set_option maxHeartbeats 4000000 in
theorem add_nil (p : B) (hp : p.length ≤ 9223372036854775807) (id : Int) (w : World) (hmx : MxAt w) : Calls Tryd.prog 22 #[.pointer none, .string (str p), .int .i64 id] w fun e w' => e = .returned (if (patH p).isSome then .iface 72 (.int .i64 9) else err3) ∧ Below w.heap.size w w' := by
  have HP := hid (parse_any p hp w hmx)
  obtain ⟨S, hS⟩ : ∃ S, str p = S := ⟨_, rfl⟩
  rw [hS] at HP ⊢
  clear hS hmx
  cases hl : patH p with
  | none =>
    rw [hl] at HP
    unfold parV keyV at HP
    dsimp only at HP
    clear hl
    go_enter Tryd.func22, Tryd.ntmps22
    go_wp2_with (go_at_call 36; (with_reducible refine HP.out.mono ?_); rintro e w1 ⟨rfl, hb⟩; have HB := hid hb; clear hb HP)
    go_ret
    exact ⟨rfl, HB.out.trans ((below_new w1 _).mono HB.out.size)⟩
  | some x =>
    rw [hl] at HP
    unfold parV keyV at HP
    dsimp only at HP
    obtain ⟨SH, hSH⟩ : ∃ S, str (keyS x).1 = S := ⟨_, rfl⟩
    obtain ⟨PL, hPL⟩ : ∃ S, str (keyS x).2 = S := ⟨_, rfl⟩
    rw [hSH, hPL] at HP
    clear hSH hPL hl
    go_enter Tryd.func22, Tryd.ntmps22
    go_wp2_with (go_at_call 36; (with_reducible refine HP.out.mono ?_); rintro e w1 ⟨rfl, hb⟩; have HB := hid hb; clear hb HP)
    go_ret
    exact ⟨rfl, HB.out.trans ((below_new w1 _).mono HB.out.size)⟩
set_option maxRecDepth 20000 in
theorem all_nil (w : World) : Calls Tryd.prog 23 #[.pointer none] w fun e w' => e = .returned (.slice none 0 0) ∧ w' = w := by
  go_enter Tryd.func23, Tryd.ntmps23
  go_wp2
  go_ret
  exact ⟨rfl, rfl⟩
set_option maxRecDepth 20000 in
set_option maxHeartbeats 8000000 in
theorem all_any {w : World} {t : Nat} {P : List (B × Int)} {m : Option Nat} {v1 v2 : Value} {L : List B} (h : Tab w t P m v1 v2 L) : Calls Tryd.prog 23 #[.pointer (some ⟨t, 0, none⟩)] w fun e w' => ∃ q d, e = .returned (.slice q P.length d) ∧ LbAt w' q (P.map (·.1)) ∧ Below w.heap.size w w' := by
  obtain ⟨j0, hj0, hy0, hy1, hy2⟩ := info_parts infoS
  obtain ⟨_, _, hc, _⟩ := h.tab.cells
  obtain ⟨p, n, c, rfl⟩ := own_slice3 h.tab.al
  have hn : (P.map (·.1)).length = n := (row_lenH h.tab.al).symm
  have hnn : n ≤ 64 := by have := h.len; rw [← hn, List.length_map]; exact this
  have HLb := hid h.tab.al.lb
  have HS := hid (show ∀ x ∈ P.map (·.1), x.length ≤ 253 from fun x hx => by
    obtain ⟨q, hq, rfl⟩ := List.mem_map.1 hx
    obtain ⟨⟨y, hy⟩, _⟩ := h.fine q hq
    exact pat_short hy)
  rw [show P.length = n from by rw [← hn, List.length_map]]
  obtain ⟨X, hX⟩ : ∃ X, P.map (·.1) = X := ⟨_, rfl⟩
  rw [hX] at hn HLb HS ⊢
  have HN := hid hn
  clear h hX hn
  go_enter Tryd.func23, Tryd.ntmps23
  go_wp2
  go_loopg [3, 13] (n + 1) (fun gk s3 s13 wr => ∃ (i d : Nat) (q : Option Addr), i ≤ n ∧ gk = n - i + 1 ∧ s13 = .int .i64 (i : Int) ∧ s3 = .slice q i d ∧ OwnS wr w.heap.size (.slice q i d) (X.take i) ∧ Below w.heap.size w wr)
  case atStart => exact ⟨0, 0, none, by omega, rfl, rfl, rfl, OwnS.nil _ _, Below.refl _ _⟩
  case round =>
    obtain ⟨i, d, q, hi, rfl, rfl, rfl, ho, hb⟩ := hrel
    have HO := hid ho
    have HB := hid hb
    clear ho hb
    by_cases hin : i < n
    · have h1 : i < X.length := by rw [HN.out]; exact hin
      obtain ⟨x, hx⟩ : ∃ x, X[i]? = some x := ⟨_, List.getElem?_eq_getElem h1⟩
      obtain ⟨g1, o1, rfl, q1⟩ := (HLb.out.next HB.out) i x hx
      have HCl := hid (fun W : World => cloneH x W (by have := HS.out x (List.mem_of_getElem? hx); omega))
      have HTk := hid (show X.take (i + 1) = X.take i ++ [x] from by rw [List.take_succ_eq_append_getElem h1, (List.getElem?_eq_some_iff.1 hx).2])
      have HLi := hid (show (X.take i).length = i from by rw [List.length_take]; omega)
      obtain ⟨Sx, hSx⟩ : ∃ S, str x = S := ⟨_, rfl⟩
      have HSx := hid hSx
      rw [hSx] at q1 HCl
      obtain ⟨acc, hacc⟩ : ∃ acc, X.take i = acc := ⟨_, rfl⟩
      rw [hacc] at HO HTk HLi
      clear h1 hx hSx hacc
      go_wp2_with (first | (go_at_call 42; (with_reducible refine (HCl.out _).mono ?_); rintro e w2 ⟨rfl, hb2⟩; have HB2 := hid (HB.out.trans (hb2.mono HB.out.size)); have HO2 := hid (HO.out.keep hb2); clear hb2) | (at_builtin; refine wpList_append_own_at _ rfl (.tmp 17) (.tmp 20) 44 rfl w.heap.size 9 j0 _ 1 16 Tryd.underlying44 hj0 hy0 hy1 hy2 rfl (by decide) (.slice q i d) i (strC acc) (by go_simp) (by have h8 := HO2.out.alloc (.cells #[.string Sx] 9 (0, 0)); unfold OwnS at h8; rw [HLi.out] at h8; exact h8) ⟨w2.heap.size, 0, none⟩ 1 1 [.string Sx] (by go_simp) rfl (cells_new w2 _ _) (by simp [Value.oneCell']) (by unfold maxLen; omega) (by omega) (by have h1 := HB2.out.size; simp; omega) ?_; intro v6 w3 hown hgr _ _; obtain ⟨p7, L7, c7, rfl⟩ := own_slice3 hown; have HO3 := hid (show OwnS w3 w.heap.size (.slice p7 L7 c7) (acc ++ [x]) from OwnS.put (by rw [HLi.out, HSx.out]; exact hown)); have HB3 := hid ((HB2.out.trans ((below_new w2 _).mono HB2.out.size)).trans (OwnS.below (HO2.out.alloc _) (by have h1 := HB2.out.size; simp; omega) hgr)); obtain ⟨hL7, _⟩ : L7 = i + 1 ∧ True := ⟨row_lenH hown, trivial⟩; subst hL7; clear hown hgr))
      go_roundg (n - (i + 1) + 1)
      case measure => omega
      case rel => exact ⟨i + 1, c7, p7, by omega, rfl, by push_cast; go_num, rfl, by rw [HTk.out]; exact HO3.out, HB3.out⟩
    · obtain rfl : n = i := by omega
      have HX := hid (show X.take n = X from List.take_of_length_le (by rw [HN.out]; exact Nat.le_refl _))
      rw [HX.out] at HO
      go_wp2
      go_ret
      exact ⟨q, d, rfl, HO.out.lb, HB.out⟩
end Go.Proofs.YtkjgdfihhhdjaaaDoor
