/- The document's Parse; JsonReads. -/
import Derived.Test.YtkoeihliaandeaaGreatDoorRefI
import Derived.Test.YtkoeihliaandeaaGreatDoorRefS
namespace Go.Proofs.YtkoeihliaandeaaGreatDoor
open Go.RowKit

def ToldRp (r : JV × Nat × Nat) (w : World) (e : Ending) (w' : World) : Prop := ∃ cs : List Value, e = .returned (.tuple #[.agg cs.toArray, .int .i64 (r.2.1 : Int), .int .i64 (r.2.2 : Int)]) ∧ ValIs w' (fun j => w.heap.size ≤ j ∧ j < w'.heap.size) r.1 cs ∧ Below w.heap.size w w'
/-- What is handed out of Parse: the value's own block, a reading, a value. -/
structure PB (w W : World) (s : ByteArray) (p k : Int) (g : Nat) (c0 c1 c2 c3 c4 c5 c6 : Value) : Prop where
  o : W.heap[w.heap.size]? = some (.cells #[.int .i64 0, .bool false, .string ⟨#[]⟩, .int .i64 0, .bool false, .slice none 0 0, .slice none 0 0] 25 (0, 0))
  r : W.heap[g]? = some (.cells #[.string s, .int .i64 p, .int .i64 k] 49 (0, 0))
  v : W.heap[g + 1]? = some (.cells #[c0, c1, c2, c3, c4, c5, c6] 25 (0, 0))
  hg : w.heap.size < g
  low : Below w.heap.size w W
theorem PB.below {w W V : World} {s : ByteArray} {p k : Int} {g : Nat} {c0 c1 c2 c3 c4 c5 c6 : Value} (h : PB w W s p k g c0 c1 c2 c3 c4 c5 c6) (hb : Below W.heap.size W V) : PB w V s p k g c0 c1 c2 c3 c4 c5 c6 :=
  ⟨(hb.block _ (lt_of_heap h.o)).trans h.o, (hb.block _ (lt_of_heap h.r)).trans h.r, (hb.block _ (lt_of_heap h.v)).trans h.v, h.hg, h.low.trans (hb.mono h.low.size)⟩
theorem PB.put {w W : World} {s : ByteArray} {p k : Int} {g : Nat} {c0 c1 c2 c3 c4 c5 c6 : Value} (h : PB w W s p k g c0 c1 c2 c3 c4 c5 c6) (s' : ByteArray) (q j : Int) : PB w (((W.setCell ⟨g, 0, none⟩ (.string s')).setCell ⟨g, 1, none⟩ (.int .i64 q)).setCell ⟨g, 2, none⟩ (.int .i64 j)) s' q j g c0 c1 c2 c3 c4 c5 c6 := by
  have hg := h.hg
  refine ⟨(three_other (by omega) _ _ _).trans h.o, three_put (has_three h.r) _ _ _, (three_other (by omega) _ _ _).trans h.v, hg, ?_⟩
  iterate 3 refine Below.setCell ?_ (show w.heap.size ≤ g by omega) _
  exact h.low
theorem PB.start {w w1 : World} {s : ByteArray} {p k : Int} {c0 c1 c2 c3 c4 c5 c6 : Value} (hb : Below (w.alloc (.cells #[.int .i64 0, .bool false, .string ⟨#[]⟩, .int .i64 0, .bool false, .slice none 0 0, .slice none 0 0] 25 (0, 0))).heap.size (w.alloc (.cells #[.int .i64 0, .bool false, .string ⟨#[]⟩, .int .i64 0, .bool false, .slice none 0 0, .slice none 0 0] 25 (0, 0))) w1) : PB w ((w1.alloc (.cells #[.string s, .int .i64 p, .int .i64 k] 49 (0, 0))).alloc (.cells #[c0, c1, c2, c3, c4, c5, c6] 25 (0, 0))) s p k w1.heap.size c0 c1 c2 c3 c4 c5 c6 := by
  obtain ⟨a1, a2, a3⟩ := grow w (.cells #[.int .i64 0, .bool false, .string ⟨#[]⟩, .int .i64 0, .bool false, .slice none 0 0, .slice none 0 0] 25 (0, 0))
  obtain ⟨b1, b2, b3⟩ := two_at (w := w1) (o1 := .cells #[.string s, .int .i64 p, .int .i64 k] 49 (0, 0)) (o2 := .cells #[c0, c1, c2, c3, c4, c5, c6] 25 (0, 0)) rfl
  have h1 := (hb.block _ (by omega)).trans a3
  have hsz := hb.size
  exact ⟨(b3.block _ (lt_of_heap h1)).trans h1, b1, b2, by omega, (a1.trans (hb.mono (by omega))).trans (b3.mono (by omega))⟩
theorem PB.outB {w W : World} {s : ByteArray} {p k : Int} {g : Nat} {c0 c1 c2 c3 c4 c5 c6 : Value} (h : PB w W s p k g c0 c1 c2 c3 c4 c5 c6) (d0 d1 d2 d3 d4 d5 d6 : Value) : Below w.heap.size w (((((((W.setCell ⟨w.heap.size, 0, none⟩ d0).setCell ⟨w.heap.size, 1, none⟩ d1).setCell ⟨w.heap.size, 2, none⟩ d2).setCell ⟨w.heap.size, 3, none⟩ d3).setCell ⟨w.heap.size, 4, none⟩ d4).setCell ⟨w.heap.size, 5, none⟩ d5).setCell ⟨w.heap.size, 6, none⟩ d6) := by
  iterate 7 refine Below.setCell ?_ (show w.heap.size ≤ w.heap.size from Nat.le_refl _) _
  exact h.low
theorem val_out7 {w W : World} {F : Nat → Prop} {t : JV} {cs : List Value} (hv : ValIs W F t cs) (hF : ∀ j, F j → w.heap.size < j ∧ j < W.heap.size) (d0 d1 d2 d3 d4 d5 d6 : Value) : ValIs (((((((W.setCell ⟨w.heap.size, 0, none⟩ d0).setCell ⟨w.heap.size, 1, none⟩ d1).setCell ⟨w.heap.size, 2, none⟩ d2).setCell ⟨w.heap.size, 3, none⟩ d3).setCell ⟨w.heap.size, 4, none⟩ d4).setCell ⟨w.heap.size, 5, none⟩ d5).setCell ⟨w.heap.size, 6, none⟩ d6)
    (fun j => w.heap.size ≤ j ∧ j < (((((((W.setCell ⟨w.heap.size, 0, none⟩ d0).setCell ⟨w.heap.size, 1, none⟩ d1).setCell ⟨w.heap.size, 2, none⟩ d2).setCell ⟨w.heap.size, 3, none⟩ d3).setCell ⟨w.heap.size, 4, none⟩ d4).setCell ⟨w.heap.size, 5, none⟩ d5).setCell ⟨w.heap.size, 6, none⟩ d6).heap.size) t cs := by
  simp only [size_set]
  exact ValIs.keep (fun j hj => by have := (hF j hj).1; exact seven_other (by omega) _ _ _ _ _ _ _) (fun j hj => by have := hF j hj; exact ⟨by omega, this.2⟩) _ _ hv
theorem parse_cases {s : ByteArray} {P2 k2 : Nat} {K : Int} {x2 : JV} (hlen : s.data.toList.length ≤ 1048576) (hP : P2 ≤ s.size) (hK : (k2 : Int) = K) (h : (k2 = 0 ∧ blankR (val 32 (blanks (s.data.toList.drop 0))) = .ok x2 (s.data.toList.drop P2)) ∨ (k2 ≠ 0 ∧ x2 = .zero ∧ blankR (val 32 (blanks (s.data.toList.drop 0))) = .err k2 (s.data.toList.drop P2))) :
    ((K == 0) = false ∧ (K != 0) = true ∧ Hid (parse s.data.toList = (.zero, P2, k2))) ∨ (K = 0 ∧ (P2 : Int) < (s.size : Int) ∧ Hid (parse s.data.toList = (.zero, P2, 3))) ∨ (K = 0 ∧ ¬ (P2 : Int) < (s.size : Int) ∧ Hid (parse s.data.toList = (x2, s.size, 0))) := by
  have hl : s.data.toList.length = s.size := rfl
  have hld : ∀ q, q ≤ s.size → s.size - (s.data.toList.drop q).length = q := fun q hq => by rw [List.length_drop, hl]; omega
  rw [List.drop_zero] at h
  rcases h with ⟨h0, hr⟩ | ⟨h0, _, hr⟩
  · right
    obtain ⟨u, hu, hbu⟩ := blankR_ok hr
    by_cases hlt : P2 < s.size
    · refine .inl ⟨by omega, by omega, ?_⟩
      have hne : ¬ blanks u = [] := by
        rw [hbu]
        intro e
        have := congrArg List.length e
        rw [List.length_drop, hl] at this
        simp at this
        omega
      rw [parse_err hlen (k := 3) (u := blanks u) (by unfold whole; rw [hu]; simp only; rw [if_neg hne]), hbu, hl, hld P2 hP]
      exact hid rfl
    · refine .inr ⟨by omega, by omega, ?_⟩
      have he : blanks u = [] := by rw [hbu]; exact List.drop_of_length_le (by rw [hl]; omega)
      rw [parse_ok hlen (t := x2) (u := []) (by unfold whole; rw [hu]; simp only; rw [if_pos he])]
      rfl
  · refine .inl ⟨by simp only [beq_eq_false_iff_ne, ne_eq]; omega, by simp only [bne_iff_ne, ne_eq]; omega, ?_⟩
    rw [parse_err hlen (k := k2) (u := s.data.toList.drop P2) (by unfold whole; rw [blankR_err hr]), hl, hld P2 hP]
    exact hid rfl
set_option maxRecDepth 20000 in
set_option maxHeartbeats 8000000 in
theorem rparse_any (s : ByteArray) (hs : s.size ≤ 9223372036854775807) (w : World) : Calls Tryz.prog 6 #[.string s] w fun e w' => ToldRp (parse s.data.toList) w e w' := by
  obtain ⟨R, hR⟩ : ∃ R, parse s.data.toList = R := ⟨_, rfl⟩
  rw [hR]
  have HR := hid hR
  clear hR
  have hl : s.data.toList.length = s.size := rfl
  by_cases hbig : 1048576 < s.size
  · have hdec : decide ((1048576 : Int) < (s.size : Int)) = true := by rw [decide_eq_true_eq]; omega
    have HN := hid (show R = (.zero, 0, 2) from by rw [← HR.out]; exact parse_long (by rw [hl]; exact hbig))
    have HO := hid (heap_alloc_new w (.cells #[.int .i64 0, .bool false, .string ⟨#[]⟩, .int .i64 0, .bool false, .slice none 0 0, .slice none 0 0] 25 (0, 0)))
    obtain ⟨b0, b1, b2, b3, b4, b5, b6, bz⟩ := seven HO.out
    have bz0 := bz 0; have bz1 := bz 1; have bz2 := bz 2; have bz3 := bz 3; have bz4 := bz 4; have bz5 := bz 5; have bz6 := bz 6
    clear hbig hl bz
    go_enter Tryz.func6, Tryz.ntmps6
    go_wp2
    (try simp only [Exit.inBlock, Exit.then])
    refine bodyPost_ret (val_size3 rfl _ _ _ 25 _ (0, 0) rfl HO.out rfl) rfl ?_
    rw [HN.out]
    exact ⟨[.int .i64 0, .bool false, .string ⟨#[]⟩, .int .i64 0, .bool false, .slice none 0 0, .slice none 0 0], rfl, zero_val _ _, below_new _ _⟩
  have hdec : decide ((1048576 : Int) < (s.size : Int)) = false := by rw [decide_eq_false_iff_not]; omega
  have HS := hid (show s.size ≤ 1048576 by omega)
  have HSl := hid (show s.data.toList.length ≤ 1048576 by rw [hl]; omega)
  clear hbig hl
  go_enter Tryz.func6, Tryz.ntmps6
  go_wp2_with (first
    | (go_at_call 19; have hcall : Calls Tryz.prog 19 #[.agg #[.string s, .int .i64 0, .int .i64 0], .int .i64 0] (w.alloc (.cells #[.int .i64 0, .bool false, .string ⟨#[]⟩, .int .i64 0, .bool false, .slice none 0 0, .slice none 0 0] 25 (0, 0))) _ := rval_any HS.out 32 0 (by omega) _ 0 (Nat.zero_le _); (with_reducible refine hcall.mono ?_); clear hcall; rintro e w1 ⟨P2, k2, x2, cs, hP2, rfl, hv2, hb, hcase⟩; obtain ⟨e1, e2, e3, e4, e5, e6, e7, e8, e9, e10, e11, rfl⟩ := hv2.form; obtain ⟨K, hK⟩ : ∃ K : Int, (k2 : Int) = K := ⟨_, rfl⟩; rw [hK]; have HK := hid hK; have HB1 := hid (PB.start (w := w) (w1 := w1) (s := s) (p := (P2 : Int)) (k := K) (c0 := .int .i64 e1) (c1 := .bool e2) (c2 := .string (str e3)) (c3 := .int .i64 e4) (c4 := .bool e5) (c5 := .slice e6 e7 e8) (c6 := .slice e9 e10 e11) hb); have HVal := hid (And.intro hv2 (And.intro hb.size (grow w (.cells #[.int .i64 0, .bool false, .string ⟨#[]⟩, .int .i64 0, .bool false, .slice none 0 0, .slice none 0 0] 25 (0, 0))).2.1)); clear hb hv2; obtain ⟨c0, c1, c2, cz⟩ := three HB1.out.r; have cz0 := cz 0; have cz1 := cz 1; have cz2 := cz 2; clear cz; obtain ⟨f0, f1, f2, f3, f4, f5, f6, fz⟩ := seven HB1.out.v; have fz0 := fz 0; have fz1 := fz 1; have fz2 := fz 2; have fz3 := fz 3; have fz4 := fz 4; have fz5 := fz 5; have fz6 := fz 6; clear fz; obtain ⟨m0, m1, m2, m3, m4, m5, m6, mz⟩ := seven HB1.out.o; have mz0 := mz 0; have mz1 := mz 1; have mz2 := mz 2; have mz3 := mz 3; have mz4 := mz 4; have mz5 := mz 5; have mz6 := mz 6; clear mz; rcases parse_cases HSl.out hP2 hK hcase with ⟨hk0, hkn, HCa⟩ | ⟨rfl, hlt, HCb⟩ | ⟨rfl, hlt, HCc⟩ <;> clear hcase hK)
    | (go_at_call 20; (with_reducible refine (rfail_any s (P2 : Int) (P2 : Int) 3 _).mono ?_); rintro e w2 ⟨rfl, hb⟩; have HB2 := hid (HB1.out.below hb); have HB3 := hid (HB2.out.put s (P2 : Int) 3); clear hb; obtain ⟨j0, j1, j2, jz⟩ := three HB2.out.r; have jz0 := jz 0; have jz1 := jz 1; have jz2 := jz 2; clear jz; obtain ⟨k0, k1, k2, kz⟩ := three HB3.out.r; have kz0 := kz 0; have kz1 := kz 1; have kz2 := kz 2; clear kz; obtain ⟨n0, n1, n2, n3, n4, n5, n6, nz⟩ := seven HB3.out.o; have nz0 := nz 0; have nz1 := nz 1; have nz2 := nz 2; have nz3 := nz 3; have nz4 := nz 4; have nz5 := nz 5; have nz6 := nz 6; clear nz))
  · have HN := hid (show R = (.zero, P2, k2) from by rw [← HR.out]; exact HCa.out)
    have HBD := hid (show Below ((w1.alloc (.cells #[.string s, .int .i64 (P2 : Int), .int .i64 K] 49 (0, 0))).alloc (.cells #[.int .i64 e1, .bool e2, .string (str e3), .int .i64 e4, .bool e5, .slice e6 e7 e8, .slice e9 e10 e11] 25 (0, 0))).heap.size ((w1.alloc (.cells #[.string s, .int .i64 (P2 : Int), .int .i64 K] 49 (0, 0))).alloc (.cells #[.int .i64 e1, .bool e2, .string (str e3), .int .i64 e4, .bool e5, .slice e6 e7 e8, .slice e9 e10 e11] 25 (0, 0))) ((w1.alloc (.cells #[.string s, .int .i64 (P2 : Int), .int .i64 K] 49 (0, 0))).alloc (.cells #[.int .i64 e1, .bool e2, .string (str e3), .int .i64 e4, .bool e5, .slice e6 e7 e8, .slice e9 e10 e11] 25 (0, 0))).drew from below_drew (Below.refl _ _) 1)
    have HVd := hid (HB1.out.below HBD.out)
    refine wp_region_noPanic ?_
    refine any_begin 8 (by kernel_rfl) (by kernel_rfl) ?_
    refine late_begin (fun U => U.heap[w1.heap.size]? = some (.cells #[.string s, .int .i64 (P2 : Int), .int .i64 K] 49 (0, 0))) (fun _ => false) HVd.out.r (fun hS => ?_)
    clear HBD
    generalize ((w1.alloc (.cells #[.string s, .int .i64 (P2 : Int), .int .i64 K] 49 (0, 0))).alloc (.cells #[.int .i64 e1, .bool e2, .string (str e3), .int .i64 e4, .bool e5, .slice e6 e7 e8, .slice e9 e10 e11] 25 (0, 0))).drew = V at hS HVd ⊢
    obtain ⟨q0, q1, q2, q3, q4, q5, q6, qz⟩ := seven HVd.out.o; have qz0 := qz 0; have qz1 := qz 1; have qz2 := qz 2; have qz3 := qz 3; have qz4 := qz 4; have qz5 := qz 5; have qz6 := qz 6; clear qz
    refine late_take (i := 0) (some 34) rfl rfl (by kernel_rfl) (by kernel_rfl) (by kernel_rfl) (by kernel_rfl) (by kernel_rfl) (fun _ _ _ h => h) (by rfl) (v := ?v0a) ?hy0a hS ?rest0a
    case hy0a => intro w0 hSw; obtain ⟨k0, k1, k2', _⟩ := three hSw; go_simp; try with_reducible rfl
    simp only [Act.put, List.setIfInBounds_toArray, List.set_cons_zero, List.set_cons_succ]
    refine late_take (i := 1) (some 35) rfl rfl (by kernel_rfl) (by kernel_rfl) (by kernel_rfl) (by kernel_rfl) (by kernel_rfl) (fun _ _ _ h => h) (by rfl) (v := ?v1a) ?hy1a hS ?rest1a
    case hy1a => intro w0 hSw; obtain ⟨k0, k1, k2', _⟩ := three hSw; go_simp; try with_reducible rfl
    simp only [Act.put, List.setIfInBounds_toArray, List.set_cons_zero, List.set_cons_succ]
    refine late_take (i := 2) (some 36) rfl rfl (by kernel_rfl) (by kernel_rfl) (by kernel_rfl) (by kernel_rfl) (by kernel_rfl) (fun _ _ _ h => h) (by rfl) (v := ?v2a) ?hy2a hS ?rest2a
    case hy2a => intro w0 hSw; obtain ⟨k0, k1, k2', _⟩ := three hSw; go_simp; try with_reducible rfl
    simp only [Act.put, List.setIfInBounds_toArray, List.set_cons_zero, List.set_cons_succ]
    refine late_take (i := 3) (some 37) rfl rfl (by kernel_rfl) (by kernel_rfl) (by kernel_rfl) (by kernel_rfl) (by kernel_rfl) (fun _ _ _ h => h) (by rfl) (v := ?v3a) ?hy3a hS ?rest3a
    case hy3a => intro w0 hSw; obtain ⟨k0, k1, k2', _⟩ := three hSw; go_simp; try with_reducible rfl
    simp only [Act.put, List.setIfInBounds_toArray, List.set_cons_zero, List.set_cons_succ]
    refine late_take (i := 4) (some 38) rfl rfl (by kernel_rfl) (by kernel_rfl) (by kernel_rfl) (by kernel_rfl) (by kernel_rfl) (fun _ _ _ h => h) (by rfl) (v := ?v4a) ?hy4a hS ?rest4a
    case hy4a => intro w0 hSw; obtain ⟨k0, k1, k2', _⟩ := three hSw; go_simp; try with_reducible rfl
    simp only [Act.put, List.setIfInBounds_toArray, List.set_cons_zero, List.set_cons_succ]
    refine wpAnyD_one (i := 5) (by kernel_rfl) rfl (fun K' hK => ?_)
    go_simp
    refine hK _ _ ⟨fun _ => (seven_other (Nat.ne_of_gt HVd.out.hg) _ _ _ _ _ _ _).trans hS, ?_⟩
    clear hK K'
    refine wpAnyD_one (i := 6) (by kernel_rfl) rfl (fun K' hK => ?_)
    go_simp
    refine hK _ _ ⟨fun _ => (seven_other (Nat.ne_of_gt HVd.out.hg) _ _ _ _ _ _ _).trans hS, ?_⟩
    clear hK K'
    refine wpAnyD_one (i := 7) (by kernel_rfl) rfl (fun K' hK => ?_)
    go_simp
    refine hK _ _ ⟨fun _ => (seven_other (Nat.ne_of_gt HVd.out.hg) _ _ _ _ _ _ _).trans hS, ?_⟩
    clear hK K'
    refine late_done (by kernel_rfl) ?_ _
    refine NoPanic.normal ?_
    clear hS
    go_wp2
    (try simp only [Exit.inBlock, Exit.then])
    refine bodyPost_ret (val_size3 rfl _ _ _ 25 _ (0, 0) rfl (seven_put (has_seven HVd.out.o) _ _ _ _ _ _ _) rfl) rfl ?_
    rw [HN.out]
    exact ⟨_, by rw [HK.out]; rfl, zero_val _ _, HVd.out.outB _ _ _ _ _ _ _⟩
  · have HN := hid (show R = (.zero, P2, 3) from by rw [← HR.out]; exact HCb.out)
    have HBD := hid (show Below (((w2.setCell ⟨w1.heap.size, 0, none⟩ (.string s)).setCell ⟨w1.heap.size, 1, none⟩ (.int .i64 (P2 : Int))).setCell ⟨w1.heap.size, 2, none⟩ (.int .i64 3)).heap.size (((w2.setCell ⟨w1.heap.size, 0, none⟩ (.string s)).setCell ⟨w1.heap.size, 1, none⟩ (.int .i64 (P2 : Int))).setCell ⟨w1.heap.size, 2, none⟩ (.int .i64 3)) (((w2.setCell ⟨w1.heap.size, 0, none⟩ (.string s)).setCell ⟨w1.heap.size, 1, none⟩ (.int .i64 (P2 : Int))).setCell ⟨w1.heap.size, 2, none⟩ (.int .i64 3)).drew from below_drew (Below.refl _ _) 1)
    have HVd := hid (HB3.out.below HBD.out)
    refine wp_region_noPanic ?_
    refine any_begin 8 (by kernel_rfl) (by kernel_rfl) ?_
    refine late_begin (fun U => U.heap[w1.heap.size]? = some (.cells #[.string s, .int .i64 (P2 : Int), .int .i64 3] 49 (0, 0))) (fun _ => false) HVd.out.r (fun hS => ?_)
    clear HBD
    generalize (((w2.setCell ⟨w1.heap.size, 0, none⟩ (.string s)).setCell ⟨w1.heap.size, 1, none⟩ (.int .i64 (P2 : Int))).setCell ⟨w1.heap.size, 2, none⟩ (.int .i64 3)).drew = V at hS HVd ⊢
    obtain ⟨q0, q1, q2, q3, q4, q5, q6, qz⟩ := seven HVd.out.o; have qz0 := qz 0; have qz1 := qz 1; have qz2 := qz 2; have qz3 := qz 3; have qz4 := qz 4; have qz5 := qz 5; have qz6 := qz 6; clear qz
    refine late_take (i := 0) (some 34) rfl rfl (by kernel_rfl) (by kernel_rfl) (by kernel_rfl) (by kernel_rfl) (by kernel_rfl) (fun _ _ _ h => h) (by rfl) (v := ?v0b) ?hy0b hS ?rest0b
    case hy0b => intro w0 hSw; obtain ⟨k0, k1, k2', _⟩ := three hSw; go_simp; try with_reducible rfl
    simp only [Act.put, List.setIfInBounds_toArray, List.set_cons_zero, List.set_cons_succ]
    refine late_take (i := 1) (some 35) rfl rfl (by kernel_rfl) (by kernel_rfl) (by kernel_rfl) (by kernel_rfl) (by kernel_rfl) (fun _ _ _ h => h) (by rfl) (v := ?v1b) ?hy1b hS ?rest1b
    case hy1b => intro w0 hSw; obtain ⟨k0, k1, k2', _⟩ := three hSw; go_simp; try with_reducible rfl
    simp only [Act.put, List.setIfInBounds_toArray, List.set_cons_zero, List.set_cons_succ]
    refine late_take (i := 2) (some 36) rfl rfl (by kernel_rfl) (by kernel_rfl) (by kernel_rfl) (by kernel_rfl) (by kernel_rfl) (fun _ _ _ h => h) (by rfl) (v := ?v2b) ?hy2b hS ?rest2b
    case hy2b => intro w0 hSw; obtain ⟨k0, k1, k2', _⟩ := three hSw; go_simp; try with_reducible rfl
    simp only [Act.put, List.setIfInBounds_toArray, List.set_cons_zero, List.set_cons_succ]
    refine late_take (i := 3) (some 37) rfl rfl (by kernel_rfl) (by kernel_rfl) (by kernel_rfl) (by kernel_rfl) (by kernel_rfl) (fun _ _ _ h => h) (by rfl) (v := ?v3b) ?hy3b hS ?rest3b
    case hy3b => intro w0 hSw; obtain ⟨k0, k1, k2', _⟩ := three hSw; go_simp; try with_reducible rfl
    simp only [Act.put, List.setIfInBounds_toArray, List.set_cons_zero, List.set_cons_succ]
    refine late_take (i := 4) (some 38) rfl rfl (by kernel_rfl) (by kernel_rfl) (by kernel_rfl) (by kernel_rfl) (by kernel_rfl) (fun _ _ _ h => h) (by rfl) (v := ?v4b) ?hy4b hS ?rest4b
    case hy4b => intro w0 hSw; obtain ⟨k0, k1, k2', _⟩ := three hSw; go_simp; try with_reducible rfl
    simp only [Act.put, List.setIfInBounds_toArray, List.set_cons_zero, List.set_cons_succ]
    refine wpAnyD_one (i := 5) (by kernel_rfl) rfl (fun K' hK => ?_)
    go_simp
    refine hK _ _ ⟨fun _ => (seven_other (Nat.ne_of_gt HVd.out.hg) _ _ _ _ _ _ _).trans hS, ?_⟩
    clear hK K'
    refine wpAnyD_one (i := 6) (by kernel_rfl) rfl (fun K' hK => ?_)
    go_simp
    refine hK _ _ ⟨fun _ => (seven_other (Nat.ne_of_gt HVd.out.hg) _ _ _ _ _ _ _).trans hS, ?_⟩
    clear hK K'
    refine wpAnyD_one (i := 7) (by kernel_rfl) rfl (fun K' hK => ?_)
    go_simp
    refine hK _ _ ⟨fun _ => (seven_other (Nat.ne_of_gt HVd.out.hg) _ _ _ _ _ _ _).trans hS, ?_⟩
    clear hK K'
    refine late_done (by kernel_rfl) ?_ _
    refine NoPanic.normal ?_
    clear hS
    go_wp2
    (try simp only [Exit.inBlock, Exit.then])
    refine bodyPost_ret (val_size3 rfl _ _ _ 25 _ (0, 0) rfl (seven_put (has_seven HVd.out.o) _ _ _ _ _ _ _) rfl) rfl ?_
    rw [HN.out]
    exact ⟨_, rfl, zero_val _ _, HVd.out.outB _ _ _ _ _ _ _⟩
  · have HN := hid (show R = (x2, s.size, 0) from by rw [← HR.out]; exact HCc.out)
    (try simp only [Exit.inBlock, Exit.then])
    refine bodyPost_ret (val_size3 rfl _ _ _ 25 _ (0, 0) rfl (seven_put (has_seven HB1.out.o) _ _ _ _ _ _ _) rfl) rfl ?_
    rw [HN.out]
    refine ⟨_, rfl, val_out7 (F := fun j => (w.alloc (.cells #[.int .i64 0, .bool false, .string ⟨#[]⟩, .int .i64 0, .bool false, .slice none 0 0, .slice none 0 0] 25 (0, 0))).heap.size ≤ j ∧ j < w1.heap.size) (ValIs.keep (fun j hj => (two_box w1 _ _).block j hj.2) (fun j hj => hj) _ _ HVal.out.1) (fun j hj => ?_) _ _ _ _ _ _ _, HB1.out.outB _ _ _ _ _ _ _⟩
    have h1 := HVal.out.2.2
    have h2 := (two_box w1 (.cells #[.string s, .int .i64 (P2 : Int), .int .i64 0] 49 (0, 0)) (.cells #[.int .i64 e1, .bool e2, .string (str e3), .int .i64 e4, .bool e5, .slice e6 e7 e8, .slice e9 e10 e11] 25 (0, 0))).size
    exact ⟨by omega, by omega⟩
set_option maxRecDepth 20000 in
set_option maxHeartbeats 8000000 in
theorem reads_any {w : World} (s : ByteArray) (hs : s.size ≤ 9223372036854775807) (hE : Env w) : Calls Tryz.prog 3 #[.string s] w fun e w' => e = .returned (.bool true) ∧ Below w.heap.size w w' := by
  obtain ⟨V, n, K, hP⟩ : ∃ V n K, parse s.data.toList = (V, n, K) := ⟨_, _, _, rfl⟩
  have HP := hid hP
  have HE := hid hE
  have HSz := hid hs
  have HFt := hid (show Fits V from by
    by_cases hK : K = 0
    · subst hK
      obtain ⟨hn, hv, hl⟩ := parse_good hP
      have hm := parse_most hP
      exact fits_print V (valid_fault hv) (Nat.le_trans hl (by unfold maxI; omega))
    · obtain ⟨hz, _⟩ := parse_zero hP hK
      rw [hz]
      exact zero_fits)
  have HSm := hid (sameV_refl V)
  clear hE hs hP
  go_enter Tryz.func3, Tryz.ntmps3
  go_wp2_with (first
    | (go_at_call 5; have hcall := parse_any (w := w) s HSz.out HE.out; rw [HP.out] at hcall; (with_reducible refine hcall.mono ?_); clear hcall; rintro e w1 ⟨cs, rfl, z1, z2⟩; obtain ⟨a1, a2, a3, a4, a5, a6, a7, a8, a9, a10, a11, rfl⟩ := z1.form; have ZV := hid ((ValOn.of z1).below (below_new _ (C7 a1 a2 a3 a4 a5 a6 a7 a8 a9 a10 a11))); have HB1 := hid (z2.trans ((below_new w1 (C7 a1 a2 a3 a4 a5 a6 a7 a8 a9 a10 a11)).mono z2.size)); have HX := hid (heap_alloc_new w1 (C7 a1 a2 a3 a4 a5 a6 a7 a8 a9 a10 a11)); clear z1 z2)
    | (go_at_call 6; have hcall := rparse_any s HSz.out (w1.alloc (C7 a1 a2 a3 a4 a5 a6 a7 a8 a9 a10 a11)); rw [HP.out] at hcall; (with_reducible refine hcall.mono ?_); clear hcall; rintro e w2 ⟨cs, rfl, z1, z2⟩; obtain ⟨b1, b2, b3, b4, b5, b6, b7, b8, b9, b10, b11, rfl⟩ := z1.form; have ZW := hid ((ValOn.of z1).below (below_new _ (C7 b1 b2 b3 b4 b5 b6 b7 b8 b9 b10 b11))); have ZV2 := hid ((ZV.out.below z2).below (below_new _ (C7 b1 b2 b3 b4 b5 b6 b7 b8 b9 b10 b11))); have HB2 := hid (HB1.out.trans ((z2.mono HB1.out.size).trans ((below_new w2 (C7 b1 b2 b3 b4 b5 b6 b7 b8 b9 b10 b11)).mono (Nat.le_trans HB1.out.size z2.size)))); have HX2 := hid (keep7 (keep7 HX.out z2) (below_new w2 (C7 b1 b2 b3 b4 b5 b6 b7 b8 b9 b10 b11))); have HY2 := hid (heap_alloc_new w2 (C7 b1 b2 b3 b4 b5 b6 b7 b8 b9 b10 b11)); obtain ⟨x0, x1, x2, x3, x4, x5, x6, _⟩ := seven HX2.out; obtain ⟨y0, y1, y2, y3, y4, y5, y6, _⟩ := seven HY2.out; clear z1 z2)
    | (go_at_call 7; refine (errnum_any K _).mono ?_; rintro e w3 ⟨rfl, hw3⟩; have hw4 := hw3.symm; subst hw4; clear hw3)
    | (go_at_call 8; have hcall := rsame_any V V _ _ _ HFt.out HFt.out ZV2.out ZW.out; rw [HSm.out] at hcall; (with_reducible refine hcall.mono ?_); clear hcall; rintro e w6 ⟨rfl, hb⟩; have HB6 := hid (below_out HB2.out hb); clear hb)
    | (go_at_call 9; have hcall := works_any _ (HE.out.below HB6.out); (with_reducible refine hcall.mono ?_); clear hcall; rintro e wk ⟨rfl, hb⟩; have HBk := hid (below_out HB6.out hb); clear hb))
  go_ret
  exact ⟨rfl, HBk.out⟩
end Go.Proofs.YtkoeihliaandeaaGreatDoor
