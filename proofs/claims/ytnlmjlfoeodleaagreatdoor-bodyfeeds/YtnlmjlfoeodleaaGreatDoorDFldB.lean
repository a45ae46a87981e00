/- The document's reader of chunked bodies: a trailer's line that ends makes a field. -/
import Derived.Test.YtnlmjlfoeodleaaGreatDoorDFld
namespace Go.Proofs.YtnlmjlfoeodleaaGreatDoor
open Go.RowKit

theorem pairF {W : World} {g : Nat} {a b : Value} {T : TypeId} {fr : Nat × Nat} (h : W.heap[g]? = some (.cells #[a, b] T fr)) : W.cell? ⟨g, 0, none⟩ = some a ∧ W.cell? ⟨g, 1, none⟩ = some b := by
  constructor <;> simp [World.cell?, h]
theorem ownF_none9 {w : World} {b n c : Nat} {p : Option Addr} {X : List (B × B)} (h : OwnF w b (.slice p n c) X) : p = none → c = 0 := by
  intro e
  subst e
  rcases h.2 with ⟨h1, _⟩ | ⟨g, cap, cur, h1, _⟩
  · cases h1; rfl
  · cases h1
theorem newR_ownF {w W : World} {b n c : Nat} {p : Option Addr} {X : List (B × B)} (h : OwnF W b (.slice p n c) X) (hb : w.heap.size ≤ b) : NewR w p c := by
  refine ⟨ownF_none9 h, fun a e => ?_⟩
  subst e
  rcases h.2 with ⟨h1, _⟩ | ⟨g, cap, cur, h1, h2, _⟩
  · cases h1
  · cases h1; exact Nat.le_trans hb (own_ge h rfl)
theorem three_end {w w2 : World} {o1 o2 : Obj} (h : TwoAt w w2 o1 o2) (j1 j2 j3 : Nat) (u1 u2 u3 : Value) : (((w2.setCell ⟨w.heap.size, j1, none⟩ u1).setCell ⟨w.heap.size, j2, none⟩ u2).setCell ⟨w.heap.size, j3, none⟩ u3).heap[w.heap.size + 1]? = some o2 := by
  iterate 3 rw [Below.heap_setCell _ _ _ _ (fun e => by have e2 : w.heap.size + 1 = w.heap.size := e; omega)]
  exact h.b2
theorem three_low {w w2 : World} (h : Below w.heap.size w w2) (j1 j2 j3 : Nat) (u1 u2 u3 : Value) : Below w.heap.size w (((w2.setCell ⟨w.heap.size, j1, none⟩ u1).setCell ⟨w.heap.size, j2, none⟩ u2).setCell ⟨w.heap.size, j3, none⟩ u3) := by
  iterate 3 refine Below.setCell ?_ (show w.heap.size ≤ w.heap.size from Nat.le_refl _) _
  exact h
theorem fat_set {W : World} {p : Option Addr} {fs : List (B × B)} (h : FAt W p fs) (b j : Nat) (v : Value) (hp : ∀ a, p = some a → b < a.block) : FAt (W.setCell ⟨b, j, none⟩ v) p fs := by
  intro i f hi
  obtain ⟨g, o, e, h1, h2⟩ := h i f hi
  have hb := hp _ e
  have e9 : (W.setCell ⟨b, j, none⟩ v).heap[g]? = W.heap[g]? := Below.heap_setCell _ _ _ _ (fun e => by have e2 : g = b := e; dsimp only at hb; omega)
  refine ⟨g, o, e, ?_, ?_⟩
  · simp only [World.cell?] at h1 ⊢
    rw [e9]; exact h1
  · simp only [World.cell?] at h2 ⊢
    rw [e9]; exact h2
theorem fld_end {w w2 : World} {n c : Nat} {q : Option Addr} {X : List (B × B)} (h : OwnF w2 (w.heap.size + 2) (.slice q n c) X) (j1 j2 j3 : Nat) (u1 u2 u3 c0 c1 c2 c3 c4 c5 c6 c7 c8 c9 : Value) : FAt (((((((((((((w2.setCell ⟨w.heap.size, j1, none⟩ u1).setCell ⟨w.heap.size, j2, none⟩ u2).setCell ⟨w.heap.size, j3, none⟩ u3).setCell ⟨w.heap.size + 1, 0, none⟩ c0).setCell ⟨w.heap.size + 1, 1, none⟩ c1).setCell ⟨w.heap.size + 1, 2, none⟩ c2).setCell ⟨w.heap.size + 1, 3, none⟩ c3).setCell ⟨w.heap.size + 1, 4, none⟩ c4).setCell ⟨w.heap.size + 1, 5, none⟩ c5).setCell ⟨w.heap.size + 1, 6, none⟩ c6).setCell ⟨w.heap.size + 1, 7, none⟩ c7).setCell ⟨w.heap.size + 1, 8, none⟩ c8).setCell ⟨w.heap.size + 1, 9, none⟩ c9) q X := by
  have hq : ∀ a, q = some a → w.heap.size + 1 < a.block := by
    intro a e
    subst e
    rcases h.2 with ⟨h1, _⟩ | ⟨g, cap, cur, h1, h2, _⟩
    · cases h1
    · cases h1; exact h2
  iterate 10 refine fat_set ?_ _ _ _ (fun a e => hq a e)
  iterate 3 refine fat_set ?_ _ _ _ (fun a e => Nat.lt_of_succ_lt (hq a e))
  exact h.fat
set_option maxRecDepth 20000 in
set_option maxHeartbeats 8000000 in
theorem tr_4 (d : DK) (lp tp : Option Addr) (ln lc tn tc : Nat) (w : World) (hl : d.line.length = ln) (ht : d.tr.length = tn) (hll : ln ≤ 1048576) (htt : tn ≤ 1048575) (hbb : d.bytes ≤ 1048576) (hA : DkAt w d lp lc tp tc) (hs : d.st = 7) (hh : hasD d = true) (ho : ¬ 8192 < d.bytes + 1) : Calls Tryz.prog 113 #[.agg (dkC d (.slice lp ln lc) (.slice tp tn tc)), byteV 10] w fun e w' => ∃ q2 d2, e = .returned (.agg (dkC { cntD d with tr := d.tr ++ [((cutF 58 d.line).1, trimL (cutF 58 d.line).2.1)], line := [], st := 6 } (.slice none 0 0) (.slice q2 (tn + 1) d2))) ∧ FAt w' q2 (d.tr ++ [((cutF 58 d.line).1, trimL (cutF 58 d.line).2.1)]) ∧ NewR w q2 d2 ∧ Below w.heap.size w w' := by
  have HSp := hid (cut_split hh)
  obtain ⟨nmv, hnm⟩ : ∃ x, (cutF 58 d.line).1 = x := ⟨_, rfl⟩
  obtain ⟨valv, hvl⟩ : ∃ x, (cutF 58 d.line).2.1 = x := ⟨_, rfl⟩
  obtain ⟨ka, hka⟩ : ∃ x, nmv.length = x := ⟨_, rfl⟩
  have hAT : (if (cutF 58 d.line).2.2 = true then ((cutF 58 d.line).1.length : Int) else -1) = (ka : Int) := by rw [if_pos (show (cutF 58 d.line).2.2 = true from hh), hnm, hka]
  have HC := hid (fun (W : World) (hW : Below w.heap.size w W) => colon_any d.line lp ln lc hl hll W (hA.line.next hW))
  rw [hAT] at HC
  rw [hnm, hvl] at HSp
  have hkl : ka + 1 ≤ ln := by
    have h9 := congrArg List.length HSp.out
    rw [List.length_append, List.length_cons, hka, hl] at h9
    omega
  have hSl : SlOk lp ln lc d.line := ⟨hl, by rw [← hl]; exact hA.lcap, hA.lnil, hA.line.plain⟩
  obtain ⟨qa, da, hq1, P1⟩ := part_h hSl ka (by omega)
  obtain ⟨qb, db, hq2, P2⟩ := part_l hSl (ka + 1) hkl
  have HQ1 := hid hq1
  have HQ2 := hid (show ∀ W, (Instr.sliceAt 32 (.slice lp ln lc) (some (.int .i64 ((ka : Int) + 1))) none none).run Tryz.prog W = .ok (.slice qb (ln - (ka + 1)) db) W from fun W => by have := hq2 W; push_cast at this; exact this)
  have HCa := hid (show ∀ W, ArgAt W lp d.line → (convert 32 9 (.slice qa ka da)).run Tryz.prog W = .ok (.string (str nmv)) W from fun W hW => by
    have h9 := P1.arg W hW
    rw [List.drop_zero, show d.line.take ka = nmv from by rw [HSp.out, ← hka]; simp] at h9
    exact conv_arg h9 hka)
  have HCb := hid (show ∀ W, ArgAt W lp d.line → (convert 32 9 (.slice qb (ln - (ka + 1)) db)).run Tryz.prog W = .ok (.string (str valv)) W from fun W hW => by
    have h9 := P2.arg W hW
    rw [show d.line.drop (ka + 1) = valv from by rw [HSp.out, ← hka, List.drop_append]; simp, List.take_of_length_le (by have h8 := congrArg List.length HSp.out; rw [List.length_append, List.length_cons, hka, hl] at h8; omega)] at h9
    exact conv_arg h9 (by have h8 := congrArg List.length HSp.out; rw [List.length_append, List.length_cons, hka, hl] at h8; omega))
  have hvz : valv.length ≤ 1048576 := by have h8 := congrArg List.length HSp.out; rw [List.length_append, List.length_cons, hka, hl] at h8; omega
  have HTr := hid (show ∀ W : World, _ from fun W => rtrim_any (str valv) W (by rw [str_size]; omega))
  rw [show trimS (str valv) = str (trimL valv) from rfl] at HTr
  have hl0 : ((ln : Int) == 0) = false := i_ne (b := 0) (by omega)
  have HAl := hid hA
  have HTn := hid ht
  rw [hnm, hvl]
  obtain ⟨SA, hSA⟩ : ∃ S, str nmv = S := ⟨_, rfl⟩
  obtain ⟨SB, hSB⟩ : ∃ S, str valv = S := ⟨_, rfl⟩
  obtain ⟨SV, hSV⟩ : ∃ S, str (trimL valv) = S := ⟨_, rfl⟩
  have HSA := hid hSA
  have HSV := hid hSV
  rw [hSA] at HCa
  rw [hSB] at HCb HTr
  rw [hSV] at HTr
  clear hSA hSB hSV hA ht hl hnm hvl hAT hh hSl hq1 hq2 P1 P2 hka hvz HSp
  obtain ⟨most, len, st, e0, digits, size, more, line, bytes, tr, gh⟩ := d
  dsimp only at *
  unfold dkC byteV cntD
  dsimp only
  subst hs
  obtain ⟨Y, hY⟩ : ∃ Y : Int, (bytes : Int) + 1 = Y := ⟨_, rfl⟩
  have hy0 : (bytes : Int) = Y - 1 := by omega
  have hy1 : 0 < Y := by omega
  have hy2 : Y ≤ 1048577 := by omega
  have ho2 : decide ((8192 : Int) < Y) = false := by rw [decide_eq_false_iff_not]; omega
  have hwk : IntKind.i64.wrap ((ka : Int) + 1) = (ka : Int) + 1 := by rw [IntKind.wrap_i64]; omega
  clear ho hbb
  push_cast
  rw [hY, hy0]
  clear hY hy0
  go_enter Tryz.func113, Tryz.ntmps113
  go_wp2_with (first | (go_at_call 132; (with_reducible refine (HC.out _ (below_twoD w _ _)).mono ?_); rintro e w1 ⟨rfl, hw1⟩; subst w1))
  have HT0 := hid (TwoAt.start w (.cells #[.int .i64 (most : Int), .int .i64 (len : Int), .int .i64 7, .int .i64 (e0 : Int), .int .i64 (digits : Int), .int .i64 (size : Int), .int .i64 (more : Int), .slice lp ln lc, .int .i64 Y, .slice tp tn tc] 35 (0, 0)) (.cells #[.int .i64 0, .int .i64 0, .int .i64 0, .int .i64 0, .int .i64 0, .int .i64 0, .int .i64 0, .slice none 0 0, .int .i64 0, .slice none 0 0] 35 (0, 0)))
  generalize hW0 : (w.alloc (.cells #[.int .i64 (most : Int), .int .i64 (len : Int), .int .i64 7, .int .i64 (e0 : Int), .int .i64 (digits : Int), .int .i64 (size : Int), .int .i64 (more : Int), .slice lp ln lc, .int .i64 Y, .slice tp tn tc] 35 (0, 0))).alloc (.cells #[.int .i64 0, .int .i64 0, .int .i64 0, .int .i64 0, .int .i64 0, .int .i64 0, .int .i64 0, .slice none 0 0, .int .i64 0, .slice none 0 0] 35 (0, 0)) = W0 at HT0 ⊢
  clear hW0
  refine wp_region_noPanic ?_
  refine any_begin 15 (by kernel_rfl) (by kernel_rfl) ?_
  have HT1 := hid (show TwoAt w W0.drew _ _ from HT0.out.next ⟨rfl, rfl, rfl, Nat.le_refl _, fun _ _ => rfl⟩)
  generalize hW1 : W0.drew = W1 at HT1 ⊢
  clear hW1 HT0
  have HRd := hid (show ∀ U : World, TwoAt w U (.cells #[.int .i64 (most : Int), .int .i64 (len : Int), .int .i64 7, .int .i64 (e0 : Int), .int .i64 (digits : Int), .int .i64 (size : Int), .int .i64 (more : Int), .slice lp ln lc, .int .i64 Y, .slice tp tn tc] 35 (0, 0)) (.cells #[.int .i64 0, .int .i64 0, .int .i64 0, .int .i64 0, .int .i64 0, .int .i64 0, .int .i64 0, .slice none 0 0, .int .i64 0, .slice none 0 0] 35 (0, 0)) → RdTd U w.heap.size (.slice lp ln lc) lp line from fun U hU => by
    obtain ⟨_, _, _, _, _, _, _, p7, _, _, _⟩ := cells10 hU.b1
    exact ⟨p7, HAl.out.line.next hU.low⟩)
  have hS0 : RdTd W1 w.heap.size (.slice lp ln lc) lp line := HRd.out _ HT1.out
  refine late_begin (fun U => RdTd U w.heap.size (.slice lp ln lc) lp line) (fun _ => false) hS0 (fun hS => ?_)
  refine late_take (i := 0) (some 74) rfl rfl (by kernel_rfl) (by kernel_rfl) (by kernel_rfl) (by kernel_rfl) (by kernel_rfl) (fun _ _ _ h => h) (by rfl) (v := ?v0) ?hy0 hS ?rest0
  case hy0 => intro w0 hSw; have a0 := hSw.c7; go_simp; try with_reducible rfl
  simp only [Act.put, List.setIfInBounds_toArray, List.set_cons_zero, List.set_cons_succ]
  refine late_take (i := 1) (some 75) rfl rfl (by kernel_rfl) (by kernel_rfl) (by kernel_rfl) (by kernel_rfl) (by kernel_rfl) (fun _ _ _ h => h) (by rfl) (v := ?v1) ?hy1 hS ?rest1
  case hy1 => intro w0 hSw; have a0 := hSw.c7; go_simp; try with_reducible rfl
  simp only [Act.put, List.setIfInBounds_toArray, List.set_cons_zero, List.set_cons_succ]
  refine late_take (i := 2) (some 76) rfl rfl (by kernel_rfl) (by kernel_rfl) (by kernel_rfl) (by kernel_rfl) (by kernel_rfl) (fun _ _ _ h => h) (by rfl) (v := ?v2) ?hy2 hS ?rest2
  case hy2 => intro w0 hSw; have a0 := hSw.c7; go_simp; try with_reducible rfl
  simp only [Act.put, List.setIfInBounds_toArray, List.set_cons_zero, List.set_cons_succ]
  refine late_take (i := 3) (some 77) rfl rfl (by kernel_rfl) (by kernel_rfl) (by kernel_rfl) (by kernel_rfl) (by kernel_rfl) (fun _ _ _ h => h) (by rfl) (v := .slice qa ka da) ?hy3 hS ?rest3
  case hy3 => exact fun w0 hSw => exec_sl (.tmp 75) none (some (.tmp 76)) rfl (.slice lp ln lc) (.slice qa ka da) none (some (.int .i64 (ka : Int))) rfl rfl rfl HQ1.out w0
  simp only [Act.put, List.setIfInBounds_toArray, List.set_cons_zero, List.set_cons_succ]
  refine late_take (i := 4) (some 78) rfl rfl (by kernel_rfl) (by kernel_rfl) (by kernel_rfl) (by kernel_rfl) (by kernel_rfl) (fun _ _ _ h => h) (by rfl) (v := .string SA) ?hy4 hS ?rest4
  case hy4 => exact fun w0 hSw => exec_cv (.tmp 77) rfl (.slice qa ka da) (.string SA) rfl w0 (HCa.out w0 hSw.arg)
  simp only [Act.put, List.setIfInBounds_toArray, List.set_cons_zero, List.set_cons_succ]
  refine late_take (i := 5) (some 79) rfl rfl (by kernel_rfl) (by kernel_rfl) (by kernel_rfl) (by kernel_rfl) (by kernel_rfl) (fun _ _ _ h => h) (by rfl) (v := ?v5) ?hy5 hS ?rest5
  case hy5 => intro w0 hSw; have a0 := hSw.c7; go_simp; try with_reducible rfl
  simp only [Act.put, List.setIfInBounds_toArray, List.set_cons_zero, List.set_cons_succ]
  refine late_take (i := 6) (some 80) rfl rfl (by kernel_rfl) (by kernel_rfl) (by kernel_rfl) (by kernel_rfl) (by kernel_rfl) (fun _ _ _ h => h) (by rfl) (v := ?v6) ?hy6 hS ?rest6
  case hy6 => intro w0 hSw; have a0 := hSw.c7; go_simp; try with_reducible rfl
  simp only [Act.put, List.setIfInBounds_toArray, List.set_cons_zero, List.set_cons_succ]
  refine late_take (i := 7) (some 81) rfl rfl (by kernel_rfl) (by kernel_rfl) (by kernel_rfl) (by kernel_rfl) (by kernel_rfl) (fun _ _ _ h => h) (by rfl) (v := ?v7) ?hy7 hS ?rest7
  case hy7 => intro w0 hSw; have a0 := hSw.c7; go_simp; try with_reducible rfl
  simp only [Act.put, List.setIfInBounds_toArray, List.set_cons_zero, List.set_cons_succ]
  refine late_take (i := 8) (some 82) rfl rfl (by kernel_rfl) (by kernel_rfl) (by kernel_rfl) (by kernel_rfl) (by kernel_rfl) (fun _ _ _ h => h) (by rfl) (v := .int .i64 ((ka : Int) + 1)) ?hy8 hS ?rest8
  case hy8 => intro w0 hSw; have a0 := hSw.c7; go_simp; try with_reducible rfl
  simp only [Act.put, List.setIfInBounds_toArray, List.set_cons_zero, List.set_cons_succ]
  refine late_take (i := 9) (some 83) rfl rfl (by kernel_rfl) (by kernel_rfl) (by kernel_rfl) (by kernel_rfl) (by kernel_rfl) (fun _ _ _ h => h) (by rfl) (v := .slice qb (ln - (ka + 1)) db) ?hy9 hS ?rest9
  case hy9 => exact fun w0 hSw => exec_sl (.tmp 80) (some (.tmp 82)) none rfl (.slice lp ln lc) (.slice qb (ln - (ka + 1)) db) (some (.int .i64 ((ka : Int) + 1))) none rfl rfl rfl HQ2.out w0
  simp only [Act.put, List.setIfInBounds_toArray, List.set_cons_zero, List.set_cons_succ]
  refine late_take (i := 10) (some 84) rfl rfl (by kernel_rfl) (by kernel_rfl) (by kernel_rfl) (by kernel_rfl) (by kernel_rfl) (fun _ _ _ h => h) (by rfl) (v := .string SB) ?hy10 hS ?rest10
  case hy10 => exact fun w0 hSw => exec_cv (.tmp 83) rfl (.slice qb (ln - (ka + 1)) db) (.string SB) rfl w0 (HCb.out w0 hSw.arg)
  simp only [Act.put, List.setIfInBounds_toArray, List.set_cons_zero, List.set_cons_succ]
  refine wpAnyD_twoD (i := 11) (j := 13) (by kernel_rfl) rfl rfl (fun K hK => ?_) (fun K hK => ?_)
  · skip
    go_simp
    go_at_call 133
    refine (HTr.out _).mono ?_
    rintro e w2 ⟨rfl, hb⟩
    subst w2
    refine hK _ _ ⟨fun _ => hS, ?_⟩
    clear hK K
    refine late_take (i := 12) (some 86) rfl rfl (by kernel_rfl) (by kernel_rfl) (by kernel_rfl) (by kernel_rfl) (by kernel_rfl) (fun _ _ _ h => h) (by rfl) (v := ?v12) ?hy12 hS ?rest12
    case hy12 => intro w0 hSw; have a0 := hSw.c7; go_simp; try with_reducible rfl
    simp only [Act.put, List.setIfInBounds_toArray, List.set_cons_zero, List.set_cons_succ]
    refine wpAnyD_one (i := 13) (by kernel_rfl) rfl (fun K hK => ?_)
    go_simp
    have HT2 := hid (HT1.out.next ((below_new W1 (.cells #[.string ⟨#[]⟩, .string ⟨#[]⟩] 88 (0, 0))).mono HT1.out.sz))
    have hS2 : RdTd (W1.alloc (.cells #[.string ⟨#[]⟩, .string ⟨#[]⟩] 88 (0, 0))) w.heap.size (.slice lp ln lc) lp line := HRd.out _ HT2.out
    refine hK _ _ ⟨fun _ => hS2, ?_⟩
    clear hK K
    refine wpAnyD_one (i := 14) (by kernel_rfl) rfl (fun K hK => ?_)
    go_simp
    have HT3 := hid (HT1.out.next ((below_new W1 (.cells #[.string SA, .string SV] 88 (0, 0))).mono HT1.out.sz))
    have HF3 := hid (heap_alloc_new W1 (.cells #[.string SA, .string SV] 88 (0, 0)))
    have hS3 : RdTd (W1.alloc (.cells #[.string SA, .string SV] 88 (0, 0))) w.heap.size (.slice lp ln lc) lp line := HRd.out _ HT3.out
    refine hK _ _ ⟨fun _ => hS3, ?_⟩
    clear hK K
    refine late_done (by kernel_rfl) ?_ _
    refine NoPanic.normal ?_
    have HGe := hid HT1.out.sz
    clear hS3 hS2 hS hS0 HT2 HT1 HRd HQ1 HQ2 HCa HCb HTr HC
    generalize hG : W1.heap.size = G at HF3 HGe ⊢
    generalize hW3 : W1.alloc (.cells #[.string SA, .string SV] 88 (0, 0)) = W3 at HT3 HF3 ⊢
    have HG3 := hid (show G < W3.heap.size from lt_of_heap HF3.out)
    clear hW3 hG
    have hx1 := HT3.out.b1; obtain ⟨p0, p1, p2, p3, p4, p5, p6, p7, p8, p9, rq⟩ := cells10 hx1; clear hx1 rq
    go_wp2_with (first | (at_builtin; refine wpList_copyF rfl (.tmp 87) (.tmp 89) rfl (by go_simp) tr tp tn tc (by go_simp) HTn.out (HAl.out.tr.next HT3.out.low) HAl.out.tnil (by omega) ?_; intro q1 d1 w1 ho1 hb1; clear p0 p1 p2 p3 p4 p5 p6 p7 p8 p9; have HT4 := hid (HT3.out.next (hb1.mono HT3.out.sz)); have HO1 := hid (OwnF.lower ho1 HT3.out.sz); have hf4 := (hb1.block G HG3.out).trans HF3.out; obtain ⟨y0, y1⟩ := pairF hf4; have hx1 := HT4.out.b1; have hx2 := HT4.out.b2; obtain ⟨p0, p1, p2, p3, p4, p5, p6, p7, p8, p9, rq⟩ := cells10 hx1; have r0 := rq 0; have r1 := rq 1; have r2 := rq 2; have r3 := rq 3; have r4 := rq 4; have r5 := rq 5; have r6 := rq 6; have r7 := rq 7; have r8 := rq 8; have r9 := rq 9; clear rq; obtain ⟨k0, k1, k2, k3, k4, k5, k6, k7, k8, k9, zq⟩ := cells10 hx2; have z0 := zq 0; have z1 := zq 1; have z2 := zq 2; have z3 := zq 3; have z4 := zq 4; have z5 := zq 5; have z6 := zq 6; have z7 := zq 7; have z8 := zq 8; have z9 := zq 9; clear zq; clear hx1 hx2 ho1 hb1 hf4) | (at_builtin; obtain ⟨i0, hi0, hz0, hz1, hz2⟩ := info_parts infoF; refine wpList_append_own_at _ rfl (.tmp 91) (.tmp 93) 33 rfl (w.heap.size + 2) 88 i0 _ 2 32 Tryz.underlying33 hi0 hz0 hz1 hz2 rfl (by decide) (.slice q1 tn d1) tn (fldC tr) (by go_simp) (by have h8 := HO1.out.keep (below_new _ (.cells #[.string SA, .string SV] 88 (0, 0))); unfold OwnF at h8; rw [HTn.out] at h8; exact h8) ⟨w1.heap.size, 0, none⟩ 1 1 [.string SA, .string SV] (by go_simp) rfl (cells_new w1 _ _) (by simp [Value.oneCell']) (by unfold maxLen; omega) (by omega) (by have := HT4.out.sz; simp; omega) ?_; intro v2 w2 hown hgr _ hblk; have HO2 := hid (show OwnF w2 (w.heap.size + 2) v2 (tr ++ [(nmv, trimL valv)]) from OwnF.put (acc := tr) (by dsimp only; rw [HTn.out, HSA.out, HSV.out]; exact hown)); have HT5 := hid ((HT4.out.next ((below_new _ _).mono HT4.out.sz)).next ((Only.grown (F := fun k => (Value.slice q1 tn d1).ownBlock = some k) hgr (fun k e => e)).below (fun k hk => own_ge HO1.out hk) (by have := HT4.out.sz; simp; omega))); obtain ⟨q2, d2, rfl⟩ := own_slice hown; clear hown hgr hblk y0 y1 p0 p1 p2 p3 p4 p5 p6 p7 p8 p9 r0 r1 r2 r3 r4 r5 r6 r7 r8 r9 k0 k1 k2 k3 k4 k5 k6 k7 k8 k9 z0 z1 z2 z3 z4 z5 z6 z7 z8 z9; have hx1 := HT5.out.b1; have hx2 := HT5.out.b2; obtain ⟨p0, p1, p2, p3, p4, p5, p6, p7, p8, p9, rq⟩ := cells10 hx1; have r0 := rq 0; have r1 := rq 1; have r2 := rq 2; have r3 := rq 3; have r4 := rq 4; have r5 := rq 5; have r6 := rq 6; have r7 := rq 7; have r8 := rq 8; have r9 := rq 9; clear rq; obtain ⟨k0, k1, k2, k3, k4, k5, k6, k7, k8, k9, zq⟩ := cells10 hx2; have z0 := zq 0; have z1 := zq 1; have z2 := zq 2; have z3 := zq 3; have z4 := zq 4; have z5 := zq 5; have z6 := zq 6; have z7 := zq 7; have z8 := zq 8; have z9 := zq 9; clear zq; clear hx1 hx2))
    refine bodyPost_ret (results_dk rfl _ _ _ 35 _ (0, 0) rfl (put10 (three_end HT5.out _ _ _ _ _ _) _ _ _ _ _ _ _ _ _ _) rfl) rfl ?_
    exact ⟨q2, d2, rfl, fld_end HO2.out _ _ _ _ _ _ _ _ _ _ _ _ _ _ _ _, newR_ownF HO2.out (Nat.le_add_right _ _), below10 (three_low HT5.out.low _ _ _ _ _ _) (Nat.le_succ _) _ _ _ _ _ _ _ _ _ _⟩
  · skip
    go_simp
    have HT2 := hid (HT1.out.next ((below_new W1 (.cells #[.string ⟨#[]⟩, .string ⟨#[]⟩] 88 (0, 0))).mono HT1.out.sz))
    have hS2 : RdTd (W1.alloc (.cells #[.string ⟨#[]⟩, .string ⟨#[]⟩] 88 (0, 0))) w.heap.size (.slice lp ln lc) lp line := HRd.out _ HT2.out
    refine hK _ _ ⟨fun _ => hS2, ?_⟩
    clear hK K
    refine wpAnyD_one (i := 11) (by kernel_rfl) rfl (fun K hK => ?_)
    go_simp
    go_at_call 133
    refine (HTr.out _).mono ?_
    rintro e w2 ⟨rfl, hb⟩
    subst w2
    refine hK _ _ ⟨fun _ => hS2, ?_⟩
    clear hK K
    refine late_take (i := 12) (some 86) rfl rfl (by kernel_rfl) (by kernel_rfl) (by kernel_rfl) (by kernel_rfl) (by kernel_rfl) (fun _ _ _ h => h) (by rfl) (v := ?v12b) ?hy12b hS2 ?rest12b
    case hy12b => intro w0 hSw; have a0 := hSw.c7; go_simp; try with_reducible rfl
    simp only [Act.put, List.setIfInBounds_toArray, List.set_cons_zero, List.set_cons_succ]
    refine wpAnyD_one (i := 14) (by kernel_rfl) rfl (fun K hK => ?_)
    go_simp
    have HT3 := hid (HT1.out.next ((below_new W1 (.cells #[.string SA, .string SV] 88 (0, 0))).mono HT1.out.sz))
    have HF3 := hid (heap_alloc_new W1 (.cells #[.string SA, .string SV] 88 (0, 0)))
    have hS3 : RdTd (W1.alloc (.cells #[.string SA, .string SV] 88 (0, 0))) w.heap.size (.slice lp ln lc) lp line := HRd.out _ HT3.out
    refine hK _ _ ⟨fun _ => hS3, ?_⟩
    clear hK K
    refine late_done (by kernel_rfl) ?_ _
    refine NoPanic.normal ?_
    have HGe := hid HT1.out.sz
    clear hS3 hS2 hS hS0 HT2 HT1 HRd HQ1 HQ2 HCa HCb HTr HC
    generalize hG : W1.heap.size = G at HF3 HGe ⊢
    generalize hW3 : W1.alloc (.cells #[.string SA, .string SV] 88 (0, 0)) = W3 at HT3 HF3 ⊢
    have HG3 := hid (show G < W3.heap.size from lt_of_heap HF3.out)
    clear hW3 hG
    have hx1 := HT3.out.b1; obtain ⟨p0, p1, p2, p3, p4, p5, p6, p7, p8, p9, rq⟩ := cells10 hx1; clear hx1 rq
    go_wp2_with (first | (at_builtin; refine wpList_copyF rfl (.tmp 87) (.tmp 89) rfl (by go_simp) tr tp tn tc (by go_simp) HTn.out (HAl.out.tr.next HT3.out.low) HAl.out.tnil (by omega) ?_; intro q1 d1 w1 ho1 hb1; clear p0 p1 p2 p3 p4 p5 p6 p7 p8 p9; have HT4 := hid (HT3.out.next (hb1.mono HT3.out.sz)); have HO1 := hid (OwnF.lower ho1 HT3.out.sz); have hf4 := (hb1.block G HG3.out).trans HF3.out; obtain ⟨y0, y1⟩ := pairF hf4; have hx1 := HT4.out.b1; have hx2 := HT4.out.b2; obtain ⟨p0, p1, p2, p3, p4, p5, p6, p7, p8, p9, rq⟩ := cells10 hx1; have r0 := rq 0; have r1 := rq 1; have r2 := rq 2; have r3 := rq 3; have r4 := rq 4; have r5 := rq 5; have r6 := rq 6; have r7 := rq 7; have r8 := rq 8; have r9 := rq 9; clear rq; obtain ⟨k0, k1, k2, k3, k4, k5, k6, k7, k8, k9, zq⟩ := cells10 hx2; have z0 := zq 0; have z1 := zq 1; have z2 := zq 2; have z3 := zq 3; have z4 := zq 4; have z5 := zq 5; have z6 := zq 6; have z7 := zq 7; have z8 := zq 8; have z9 := zq 9; clear zq; clear hx1 hx2 ho1 hb1 hf4) | (at_builtin; obtain ⟨i0, hi0, hz0, hz1, hz2⟩ := info_parts infoF; refine wpList_append_own_at _ rfl (.tmp 91) (.tmp 93) 33 rfl (w.heap.size + 2) 88 i0 _ 2 32 Tryz.underlying33 hi0 hz0 hz1 hz2 rfl (by decide) (.slice q1 tn d1) tn (fldC tr) (by go_simp) (by have h8 := HO1.out.keep (below_new _ (.cells #[.string SA, .string SV] 88 (0, 0))); unfold OwnF at h8; rw [HTn.out] at h8; exact h8) ⟨w1.heap.size, 0, none⟩ 1 1 [.string SA, .string SV] (by go_simp) rfl (cells_new w1 _ _) (by simp [Value.oneCell']) (by unfold maxLen; omega) (by omega) (by have := HT4.out.sz; simp; omega) ?_; intro v2 w2 hown hgr _ hblk; have HO2 := hid (show OwnF w2 (w.heap.size + 2) v2 (tr ++ [(nmv, trimL valv)]) from OwnF.put (acc := tr) (by dsimp only; rw [HTn.out, HSA.out, HSV.out]; exact hown)); have HT5 := hid ((HT4.out.next ((below_new _ _).mono HT4.out.sz)).next ((Only.grown (F := fun k => (Value.slice q1 tn d1).ownBlock = some k) hgr (fun k e => e)).below (fun k hk => own_ge HO1.out hk) (by have := HT4.out.sz; simp; omega))); obtain ⟨q2, d2, rfl⟩ := own_slice hown; clear hown hgr hblk y0 y1 p0 p1 p2 p3 p4 p5 p6 p7 p8 p9 r0 r1 r2 r3 r4 r5 r6 r7 r8 r9 k0 k1 k2 k3 k4 k5 k6 k7 k8 k9 z0 z1 z2 z3 z4 z5 z6 z7 z8 z9; have hx1 := HT5.out.b1; have hx2 := HT5.out.b2; obtain ⟨p0, p1, p2, p3, p4, p5, p6, p7, p8, p9, rq⟩ := cells10 hx1; have r0 := rq 0; have r1 := rq 1; have r2 := rq 2; have r3 := rq 3; have r4 := rq 4; have r5 := rq 5; have r6 := rq 6; have r7 := rq 7; have r8 := rq 8; have r9 := rq 9; clear rq; obtain ⟨k0, k1, k2, k3, k4, k5, k6, k7, k8, k9, zq⟩ := cells10 hx2; have z0 := zq 0; have z1 := zq 1; have z2 := zq 2; have z3 := zq 3; have z4 := zq 4; have z5 := zq 5; have z6 := zq 6; have z7 := zq 7; have z8 := zq 8; have z9 := zq 9; clear zq; clear hx1 hx2))
    refine bodyPost_ret (results_dk rfl _ _ _ 35 _ (0, 0) rfl (put10 (three_end HT5.out _ _ _ _ _ _) _ _ _ _ _ _ _ _ _ _) rfl) rfl ?_
    exact ⟨q2, d2, rfl, fld_end HO2.out _ _ _ _ _ _ _ _ _ _ _ _ _ _ _ _, newR_ownF HO2.out (Nat.le_add_right _ _), below10 (three_low HT5.out.low _ _ _ _ _ _) (Nat.le_succ _) _ _ _ _ _ _ _ _ _ _⟩
end Go.Proofs.YtnlmjlfoeodleaaGreatDoor
