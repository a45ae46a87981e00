/- The document's shortest text of a target's parts. -/
import Derived.Test.YtbdbmlklijmefaaDoorPText2
namespace Go.Proofs.YtbdbmlklijmefaaDoor
open Go.RowKit

/-- The box of the parts. -/
structure RX (w W : World) (cs : Array Value) : Prop where
  box : W.heap[w.heap.size]? = some (.cells cs 28 (0, 0))
  low : Below w.heap.size w W
theorem RX.start (w : World) (cs : Array Value) : RX w (w.alloc (.cells cs 28 (0, 0))) cs := ⟨heap_alloc_new w _, below_new w _⟩
theorem RX.below {w W V : World} {cs : Array Value} (h : RX w W cs) (hb : Below W.heap.size W V) : RX w V cs := ⟨(hb.block _ (lt_of_heap h.box)).trans h.box, below_out h.low hb⟩
theorem of47 {A : ByteArray} (h : A = ⟨#[47]⟩) : A.toList = [47] := by rw [h, Lib.toList_data]
theorem tl47 {A : ByteArray} (h : A.toList = [47]) : A = ⟨#[47]⟩ := tl_inj (by rw [h, of47 rfl])
theorem tell_len (t : TG) : (tellT t).length ≤ t.host.length + t.path.length + t.query.length + 8 := by
  unfold tellT
  have h7 : httpB.length = 7 := rfl
  rw [List.length_append]
  have hq : (if t.has = true then 63 :: t.query else []).length ≤ t.query.length + 1 := by split <;> simp
  have hp : (if t.path ≠ [47] then t.path else []).length ≤ t.path.length := by split <;> simp
  split
  · simp; omega
  split
  · omega
  split
  · rw [List.length_append, List.length_append, h7]; omega
  · simp; omega
set_option maxRecDepth 20000 in
set_option maxHeartbeats 8000000 in
theorem rtext_star_q (tf : Int) (th tp tq : B) (ths : Bool) (hf : tf = 3) (hh : ths = true) (hsz : th.length + tp.length + tq.length ≤ 17592186044416) (w : World) : Calls Tryd.prog 14 #[tgV ⟨tf, th, tp, tq, ths⟩] w fun e w' => e = .returned (.tuple #[.string (str (textT ⟨tf, th, tp, tq, ths⟩).1), .int .i64 ((textT ⟨tf, th, tp, tq, ths⟩).2 : Int)]) ∧ Below w.heap.size w w' := by
  have hl := tell_len ⟨tf, th, tp, tq, ths⟩
  have hT0 : tellT ⟨tf, th, tp, tq, ths⟩ = ([42]) ++ 63 :: tq := by unfold tellT; simp only [hh, if_true]; rw [hf, if_pos rfl]
  have HPa := hid (rparse_any (tellT ⟨tf, th, tp, tq, ths⟩) (by simp only at hl; omega))
  have HTx := hid (show textT ⟨tf, th, tp, tq, ths⟩ = if (parseT (tellT ⟨tf, th, tp, tq, ths⟩)).2 ≠ 0 ∨ (parseT (tellT ⟨tf, th, tp, tq, ths⟩)).1 ≠ ⟨tf, th, tp, tq, ths⟩ then ([], 23) else (tellT ⟨tf, th, tp, tq, ths⟩, 0) from rfl)
  obtain ⟨R1, R2, hR⟩ : ∃ R1 R2, textT ⟨tf, th, tp, tq, ths⟩ = (R1, R2) := ⟨_, _, rfl⟩
  obtain ⟨r, k, hr⟩ : ∃ r k, parseT (tellT ⟨tf, th, tp, tq, ths⟩) = (r, k) := ⟨_, _, rfl⟩
  rw [hr] at HPa HTx
  rw [hR] at HTx ⊢
  dsimp only at HPa HTx ⊢
  obtain ⟨T, hT⟩ : ∃ T, tellT ⟨tf, th, tp, tq, ths⟩ = T := ⟨_, rfl⟩
  rw [hT] at HPa HTx hT0
  obtain ⟨rf, rh, rp, rq, rhs⟩ := r
  have HNe := hid (show ¬ (str rh = str th ∧ str rp = str tp ∧ str rq = str tq ∧ rf = tf ∧ rhs = ths) → k = 0 → (R1, R2) = (([] : B), 23) from fun q _ => by
    rw [HTx.out, if_pos (.inr (fun e => q (by simp only [TG.mk.injEq] at e; obtain ⟨rfl, rfl, rfl, rfl, rfl⟩ := e; exact ⟨rfl, rfl, rfl, rfl, rfl⟩)))])
  have HEq := hid (show (str rh = str th ∧ str rp = str tp ∧ str rq = str tq ∧ rf = tf ∧ rhs = ths) → k = 0 → (R1, R2) = (T, 0) from fun q hk => by
    rw [HTx.out, if_neg (by rintro (z | z); exact z hk; exact z (by rw [str_inj q.1, str_inj q.2.1, str_inj q.2.2.1, q.2.2.2.1, q.2.2.2.2]))])
  have HKn := hid (show k ≠ 0 → (R1, R2) = (([] : B), 23) from fun hk => by rw [HTx.out, if_pos (.inl hk)])
  have HX0 := hid (RX.start w #[.int .i64 tf, .string (str th), .string (str tp), .string (str tq), .bool ths])
  unfold tgV at HPa ⊢
  dsimp only at HPa ⊢
  have hz1 : (str th).size ≤ 17592186044416 := by rw [str_size]; omega
  have hz2 : (str tp).size ≤ 17592186044416 := by rw [str_size]; omega
  have hz3 : (str tq).size ≤ 17592186044416 := by rw [str_size]; omega
  obtain ⟨H3, hH3⟩ : ∃ H3, (⟨#[42]⟩ : ByteArray) ++ ⟨#[63]⟩ = H3 := ⟨_, rfl⟩
  have hH3e : H3 = str (([42]) ++ [63]) := by rw [← hH3]; exact str_app ([42]) [63]
  have hH3s : H3.size ≤ 52776558133260 := by rw [hH3e, str_size]; simp
  obtain ⟨ST, hH4⟩ : ∃ ST, H3 ++ str tq = ST := ⟨_, rfl⟩
  have hST : str T = ST := by rw [← hH4, hH3e, str_app, hT0]; simp
  rw [hST] at HPa
  obtain ⟨c1, hc1⟩ : ∃ c1, str th = c1 := ⟨_, rfl⟩
  obtain ⟨c2, hc2⟩ : ∃ c2, str tp = c2 := ⟨_, rfl⟩
  obtain ⟨c3, hc3⟩ : ∃ c3, str tq = c3 := ⟨_, rfl⟩
  obtain ⟨d1, hd1⟩ : ∃ d1, str rh = d1 := ⟨_, rfl⟩
  obtain ⟨d2, hd2⟩ : ∃ d2, str rp = d2 := ⟨_, rfl⟩
  obtain ⟨d3, hd3⟩ : ∃ d3, str rq = d3 := ⟨_, rfl⟩
  rw [hc1] at hz1
  rw [hc2] at hz2
  rw [hc3] at hz3 hH4
  rw [hc1, hc2, hc3] at HX0 HNe HEq ⊢
  rw [hd1, hd2, hd3] at HPa HNe HEq
  have HST := hid hST
  subst hf
  subst hh
  clear hl hT0 hr hR hT hc1 hc2 hc3 hd1 hd2 hd3 hsz hST HTx hH3e
  by_cases hk : k = 0
  · subst hk
    have HA := hid (show ∀ (a : ByteArray) (b : Int), (R1, R2) = (T, 0) → a = ST → b = 0 → Ending.returned (.tuple #[.string a, .int .i64 b]) = .returned (.tuple #[.string (str R1), .int .i64 (R2 : Int)]) from fun a b h e1 e2 => by
      simp only [Prod.mk.injEq] at h
      obtain ⟨rfl, rfl⟩ := h
      rw [e1, e2, HST.out]
      rfl)
    have HN := hid (show (R1, R2) = (([] : B), 23) → Ending.returned (.tuple #[.string ⟨#[]⟩, .int .i64 23]) = .returned (.tuple #[.string (str R1), .int .i64 (R2 : Int)]) from fun h => by
      simp only [Prod.mk.injEq] at h
      obtain ⟨rfl, rfl⟩ := h
      rfl)
    have HEq0 := hid (fun q => HEq.out q rfl)
    have HNe0 := hid (fun q => HNe.out q rfl)
    clear HEq HNe HKn
    cases rhs with
    | true =>
      go_enter Tryd.func14, Tryd.ntmps14
      go_wp2_with (go_at_call 10; (with_reducible refine (HPa.out _).mono ?_); rintro e w2 ⟨rfl, hb⟩; have HB2 := hid (show ∀ o, Below w.heap.size w (w2.alloc o) from fun o => below_out HX0.out.low (below_out hb (below_new w2 o))); have HXb := hid (HX0.out.below hb); obtain ⟨x0, x1, x2, x3, x4, xz⟩ := five ((below_new w2 (.cells #[.int .i64 rf, .string d1, .string d2, .string d3, .bool true] 28 (0, 0))).block _ (lt_of_heap HXb.out.box) |>.trans HXb.out.box); clear hb xz)
      all_goals go_ret2
      all_goals first
        | exact ⟨HA.out _ _ (HEq0.out ⟨tl_inj (by assumption), (by first | exact tl_inj (by assumption) | exact tl47 (by assumption)), tl_inj (by assumption), by assumption, (by first | rfl | trivial)⟩) rfl rfl, HB2.out _⟩
        | exact ⟨HN.out (HNe0.out (fun q => by first | exact absurd (congrArg ByteArray.toList q.1) (by assumption) | exact absurd (congrArg ByteArray.toList q.2.1) (by assumption) | exact absurd (of47 q.2.1) (by assumption) | exact absurd (congrArg ByteArray.toList q.2.2.1) (by assumption) | exact absurd q.2.2.2.1 (by assumption) | exact absurd q.2.2.2.2 (by decide) | exact q.2.2.2.2.elim)), HB2.out _⟩
    | false =>
      go_enter Tryd.func14, Tryd.ntmps14
      go_wp2_with (go_at_call 10; (with_reducible refine (HPa.out _).mono ?_); rintro e w2 ⟨rfl, hb⟩; have HB2 := hid (show ∀ o, Below w.heap.size w (w2.alloc o) from fun o => below_out HX0.out.low (below_out hb (below_new w2 o))); have HXb := hid (HX0.out.below hb); obtain ⟨x0, x1, x2, x3, x4, xz⟩ := five ((below_new w2 (.cells #[.int .i64 rf, .string d1, .string d2, .string d3, .bool false] 28 (0, 0))).block _ (lt_of_heap HXb.out.box) |>.trans HXb.out.box); clear hb xz)
      all_goals go_ret2
      all_goals first
        | exact ⟨HA.out _ _ (HEq0.out ⟨tl_inj (by assumption), (by first | exact tl_inj (by assumption) | exact tl47 (by assumption)), tl_inj (by assumption), by assumption, (by first | rfl | trivial)⟩) rfl rfl, HB2.out _⟩
        | exact ⟨HN.out (HNe0.out (fun q => by first | exact absurd (congrArg ByteArray.toList q.1) (by assumption) | exact absurd (congrArg ByteArray.toList q.2.1) (by assumption) | exact absurd (of47 q.2.1) (by assumption) | exact absurd (congrArg ByteArray.toList q.2.2.1) (by assumption) | exact absurd q.2.2.2.1 (by assumption) | exact absurd q.2.2.2.2 (by decide) | exact q.2.2.2.2.elim)), HB2.out _⟩
  · have hkz : ((k : Int) != 0) = true := by rw [bne_iff_ne]; omega
    have hkz2 : ((k : Int) == 0) = false := by rw [beq_eq_false_iff_ne]; omega
    have HV := HKn.out hk
    simp only [Prod.mk.injEq] at HV
    obtain ⟨rfl, rfl⟩ := HV
    go_enter Tryd.func14, Tryd.ntmps14
    go_wp2_with (go_at_call 10; (with_reducible refine (HPa.out _).mono ?_); rintro e w2 ⟨rfl, hb⟩; have HB2 := hid (show ∀ o, Below w.heap.size w (w2.alloc o) from fun o => below_out HX0.out.low (below_out hb (below_new w2 o))); have HXb := hid (HX0.out.below hb); obtain ⟨x0, x1, x2, x3, x4, xz⟩ := five ((below_new w2 (.cells #[.int .i64 rf, .string d1, .string d2, .string d3, .bool rhs] 28 (0, 0))).block _ (lt_of_heap HXb.out.box) |>.trans HXb.out.box); clear hb xz)
    go_ret2
    exact ⟨rfl, HB2.out _⟩
set_option maxRecDepth 20000 in
set_option maxHeartbeats 8000000 in
theorem rtext_star_n (tf : Int) (th tp tq : B) (ths : Bool) (hf : tf = 3) (hh : ths = false) (hsz : th.length + tp.length + tq.length ≤ 17592186044416) (w : World) : Calls Tryd.prog 14 #[tgV ⟨tf, th, tp, tq, ths⟩] w fun e w' => e = .returned (.tuple #[.string (str (textT ⟨tf, th, tp, tq, ths⟩).1), .int .i64 ((textT ⟨tf, th, tp, tq, ths⟩).2 : Int)]) ∧ Below w.heap.size w w' := by
  have hl := tell_len ⟨tf, th, tp, tq, ths⟩
  have hT0 : tellT ⟨tf, th, tp, tq, ths⟩ = [42] := by unfold tellT; simp only [hh, Bool.false_eq_true, if_false, List.append_nil]; rw [hf, if_pos rfl]
  have HPa := hid (rparse_any (tellT ⟨tf, th, tp, tq, ths⟩) (by simp only at hl; omega))
  have HTx := hid (show textT ⟨tf, th, tp, tq, ths⟩ = if (parseT (tellT ⟨tf, th, tp, tq, ths⟩)).2 ≠ 0 ∨ (parseT (tellT ⟨tf, th, tp, tq, ths⟩)).1 ≠ ⟨tf, th, tp, tq, ths⟩ then ([], 23) else (tellT ⟨tf, th, tp, tq, ths⟩, 0) from rfl)
  obtain ⟨R1, R2, hR⟩ : ∃ R1 R2, textT ⟨tf, th, tp, tq, ths⟩ = (R1, R2) := ⟨_, _, rfl⟩
  obtain ⟨r, k, hr⟩ : ∃ r k, parseT (tellT ⟨tf, th, tp, tq, ths⟩) = (r, k) := ⟨_, _, rfl⟩
  rw [hr] at HPa HTx
  rw [hR] at HTx ⊢
  dsimp only at HPa HTx ⊢
  obtain ⟨T, hT⟩ : ∃ T, tellT ⟨tf, th, tp, tq, ths⟩ = T := ⟨_, rfl⟩
  rw [hT] at HPa HTx hT0
  obtain ⟨rf, rh, rp, rq, rhs⟩ := r
  have HNe := hid (show ¬ (str rh = str th ∧ str rp = str tp ∧ str rq = str tq ∧ rf = tf ∧ rhs = ths) → k = 0 → (R1, R2) = (([] : B), 23) from fun q _ => by
    rw [HTx.out, if_pos (.inr (fun e => q (by simp only [TG.mk.injEq] at e; obtain ⟨rfl, rfl, rfl, rfl, rfl⟩ := e; exact ⟨rfl, rfl, rfl, rfl, rfl⟩)))])
  have HEq := hid (show (str rh = str th ∧ str rp = str tp ∧ str rq = str tq ∧ rf = tf ∧ rhs = ths) → k = 0 → (R1, R2) = (T, 0) from fun q hk => by
    rw [HTx.out, if_neg (by rintro (z | z); exact z hk; exact z (by rw [str_inj q.1, str_inj q.2.1, str_inj q.2.2.1, q.2.2.2.1, q.2.2.2.2]))])
  have HKn := hid (show k ≠ 0 → (R1, R2) = (([] : B), 23) from fun hk => by rw [HTx.out, if_pos (.inl hk)])
  have HX0 := hid (RX.start w #[.int .i64 tf, .string (str th), .string (str tp), .string (str tq), .bool ths])
  unfold tgV at HPa ⊢
  dsimp only at HPa ⊢
  have hz1 : (str th).size ≤ 17592186044416 := by rw [str_size]; omega
  have hz2 : (str tp).size ≤ 17592186044416 := by rw [str_size]; omega
  have hz3 : (str tq).size ≤ 17592186044416 := by rw [str_size]; omega
  have hST : str T = ⟨#[42]⟩ := by rw [hT0]
  rw [hST] at HPa
  obtain ⟨c1, hc1⟩ : ∃ c1, str th = c1 := ⟨_, rfl⟩
  obtain ⟨c2, hc2⟩ : ∃ c2, str tp = c2 := ⟨_, rfl⟩
  obtain ⟨c3, hc3⟩ : ∃ c3, str tq = c3 := ⟨_, rfl⟩
  obtain ⟨d1, hd1⟩ : ∃ d1, str rh = d1 := ⟨_, rfl⟩
  obtain ⟨d2, hd2⟩ : ∃ d2, str rp = d2 := ⟨_, rfl⟩
  obtain ⟨d3, hd3⟩ : ∃ d3, str rq = d3 := ⟨_, rfl⟩
  rw [hc1] at hz1
  rw [hc2] at hz2
  rw [hc3] at hz3
  rw [hc1, hc2, hc3] at HX0 HNe HEq ⊢
  rw [hd1, hd2, hd3] at HPa HNe HEq
  have HST := hid hST
  subst hf
  subst hh
  clear hl hT0 hr hR hT hc1 hc2 hc3 hd1 hd2 hd3 hsz hST HTx
  by_cases hk : k = 0
  · subst hk
    have HA := hid (show ∀ (a : ByteArray) (b : Int), (R1, R2) = (T, 0) → a = ⟨#[42]⟩ → b = 0 → Ending.returned (.tuple #[.string a, .int .i64 b]) = .returned (.tuple #[.string (str R1), .int .i64 (R2 : Int)]) from fun a b h e1 e2 => by
      simp only [Prod.mk.injEq] at h
      obtain ⟨rfl, rfl⟩ := h
      rw [e1, e2, HST.out]
      rfl)
    have HN := hid (show (R1, R2) = (([] : B), 23) → Ending.returned (.tuple #[.string ⟨#[]⟩, .int .i64 23]) = .returned (.tuple #[.string (str R1), .int .i64 (R2 : Int)]) from fun h => by
      simp only [Prod.mk.injEq] at h
      obtain ⟨rfl, rfl⟩ := h
      rfl)
    have HEq0 := hid (fun q => HEq.out q rfl)
    have HNe0 := hid (fun q => HNe.out q rfl)
    clear HEq HNe HKn
    cases rhs with
    | true =>
      go_enter Tryd.func14, Tryd.ntmps14
      go_wp2_with (go_at_call 10; (with_reducible refine (HPa.out _).mono ?_); rintro e w2 ⟨rfl, hb⟩; have HB2 := hid (show ∀ o, Below w.heap.size w (w2.alloc o) from fun o => below_out HX0.out.low (below_out hb (below_new w2 o))); have HXb := hid (HX0.out.below hb); obtain ⟨x0, x1, x2, x3, x4, xz⟩ := five ((below_new w2 (.cells #[.int .i64 rf, .string d1, .string d2, .string d3, .bool true] 28 (0, 0))).block _ (lt_of_heap HXb.out.box) |>.trans HXb.out.box); clear hb xz)
      all_goals go_ret2
      all_goals first
        | exact ⟨HA.out _ _ (HEq0.out ⟨tl_inj (by assumption), (by first | exact tl_inj (by assumption) | exact tl47 (by assumption)), tl_inj (by assumption), by assumption, (by first | rfl | trivial)⟩) rfl rfl, HB2.out _⟩
        | exact ⟨HN.out (HNe0.out (fun q => by first | exact absurd (congrArg ByteArray.toList q.1) (by assumption) | exact absurd (congrArg ByteArray.toList q.2.1) (by assumption) | exact absurd (of47 q.2.1) (by assumption) | exact absurd (congrArg ByteArray.toList q.2.2.1) (by assumption) | exact absurd q.2.2.2.1 (by assumption) | exact absurd q.2.2.2.2 (by decide) | exact q.2.2.2.2.elim)), HB2.out _⟩
    | false =>
      go_enter Tryd.func14, Tryd.ntmps14
      go_wp2_with (go_at_call 10; (with_reducible refine (HPa.out _).mono ?_); rintro e w2 ⟨rfl, hb⟩; have HB2 := hid (show ∀ o, Below w.heap.size w (w2.alloc o) from fun o => below_out HX0.out.low (below_out hb (below_new w2 o))); have HXb := hid (HX0.out.below hb); obtain ⟨x0, x1, x2, x3, x4, xz⟩ := five ((below_new w2 (.cells #[.int .i64 rf, .string d1, .string d2, .string d3, .bool false] 28 (0, 0))).block _ (lt_of_heap HXb.out.box) |>.trans HXb.out.box); clear hb xz)
      all_goals go_ret2
      all_goals first
        | exact ⟨HA.out _ _ (HEq0.out ⟨tl_inj (by assumption), (by first | exact tl_inj (by assumption) | exact tl47 (by assumption)), tl_inj (by assumption), by assumption, (by first | rfl | trivial)⟩) rfl rfl, HB2.out _⟩
        | exact ⟨HN.out (HNe0.out (fun q => by first | exact absurd (congrArg ByteArray.toList q.1) (by assumption) | exact absurd (congrArg ByteArray.toList q.2.1) (by assumption) | exact absurd (of47 q.2.1) (by assumption) | exact absurd (congrArg ByteArray.toList q.2.2.1) (by assumption) | exact absurd q.2.2.2.1 (by assumption) | exact absurd q.2.2.2.2 (by decide) | exact q.2.2.2.2.elim)), HB2.out _⟩
  · have hkz : ((k : Int) != 0) = true := by rw [bne_iff_ne]; omega
    have hkz2 : ((k : Int) == 0) = false := by rw [beq_eq_false_iff_ne]; omega
    have HV := HKn.out hk
    simp only [Prod.mk.injEq] at HV
    obtain ⟨rfl, rfl⟩ := HV
    go_enter Tryd.func14, Tryd.ntmps14
    go_wp2_with (go_at_call 10; (with_reducible refine (HPa.out _).mono ?_); rintro e w2 ⟨rfl, hb⟩; have HB2 := hid (show ∀ o, Below w.heap.size w (w2.alloc o) from fun o => below_out HX0.out.low (below_out hb (below_new w2 o))); have HXb := hid (HX0.out.below hb); obtain ⟨x0, x1, x2, x3, x4, xz⟩ := five ((below_new w2 (.cells #[.int .i64 rf, .string d1, .string d2, .string d3, .bool rhs] 28 (0, 0))).block _ (lt_of_heap HXb.out.box) |>.trans HXb.out.box); clear hb xz)
    go_ret2
    exact ⟨rfl, HB2.out _⟩
set_option maxRecDepth 20000 in
set_option maxHeartbeats 8000000 in
theorem rtext_path_q (tf : Int) (th tp tq : B) (ths : Bool) (hf : tf = 1) (hh : ths = true) (hsz : th.length + tp.length + tq.length ≤ 17592186044416) (w : World) : Calls Tryd.prog 14 #[tgV ⟨tf, th, tp, tq, ths⟩] w fun e w' => e = .returned (.tuple #[.string (str (textT ⟨tf, th, tp, tq, ths⟩).1), .int .i64 ((textT ⟨tf, th, tp, tq, ths⟩).2 : Int)]) ∧ Below w.heap.size w w' := by
  have hl := tell_len ⟨tf, th, tp, tq, ths⟩
  have hT0 : tellT ⟨tf, th, tp, tq, ths⟩ = (tp) ++ 63 :: tq := by unfold tellT; simp only [hh, if_true]; rw [hf, if_neg (by decide), if_pos rfl]
  have HPa := hid (rparse_any (tellT ⟨tf, th, tp, tq, ths⟩) (by simp only at hl; omega))
  have HTx := hid (show textT ⟨tf, th, tp, tq, ths⟩ = if (parseT (tellT ⟨tf, th, tp, tq, ths⟩)).2 ≠ 0 ∨ (parseT (tellT ⟨tf, th, tp, tq, ths⟩)).1 ≠ ⟨tf, th, tp, tq, ths⟩ then ([], 23) else (tellT ⟨tf, th, tp, tq, ths⟩, 0) from rfl)
  obtain ⟨R1, R2, hR⟩ : ∃ R1 R2, textT ⟨tf, th, tp, tq, ths⟩ = (R1, R2) := ⟨_, _, rfl⟩
  obtain ⟨r, k, hr⟩ : ∃ r k, parseT (tellT ⟨tf, th, tp, tq, ths⟩) = (r, k) := ⟨_, _, rfl⟩
  rw [hr] at HPa HTx
  rw [hR] at HTx ⊢
  dsimp only at HPa HTx ⊢
  obtain ⟨T, hT⟩ : ∃ T, tellT ⟨tf, th, tp, tq, ths⟩ = T := ⟨_, rfl⟩
  rw [hT] at HPa HTx hT0
  obtain ⟨rf, rh, rp, rq, rhs⟩ := r
  have HNe := hid (show ¬ (str rh = str th ∧ str rp = str tp ∧ str rq = str tq ∧ rf = tf ∧ rhs = ths) → k = 0 → (R1, R2) = (([] : B), 23) from fun q _ => by
    rw [HTx.out, if_pos (.inr (fun e => q (by simp only [TG.mk.injEq] at e; obtain ⟨rfl, rfl, rfl, rfl, rfl⟩ := e; exact ⟨rfl, rfl, rfl, rfl, rfl⟩)))])
  have HEq := hid (show (str rh = str th ∧ str rp = str tp ∧ str rq = str tq ∧ rf = tf ∧ rhs = ths) → k = 0 → (R1, R2) = (T, 0) from fun q hk => by
    rw [HTx.out, if_neg (by rintro (z | z); exact z hk; exact z (by rw [str_inj q.1, str_inj q.2.1, str_inj q.2.2.1, q.2.2.2.1, q.2.2.2.2]))])
  have HKn := hid (show k ≠ 0 → (R1, R2) = (([] : B), 23) from fun hk => by rw [HTx.out, if_pos (.inl hk)])
  have HX0 := hid (RX.start w #[.int .i64 tf, .string (str th), .string (str tp), .string (str tq), .bool ths])
  unfold tgV at HPa ⊢
  dsimp only at HPa ⊢
  have hz1 : (str th).size ≤ 17592186044416 := by rw [str_size]; omega
  have hz2 : (str tp).size ≤ 17592186044416 := by rw [str_size]; omega
  have hz3 : (str tq).size ≤ 17592186044416 := by rw [str_size]; omega
  obtain ⟨H3, hH3⟩ : ∃ H3, (str tp : ByteArray) ++ ⟨#[63]⟩ = H3 := ⟨_, rfl⟩
  have hH3e : H3 = str ((tp) ++ [63]) := by rw [← hH3]; exact str_app (tp) [63]
  have hH3s : H3.size ≤ 52776558133260 := by rw [hH3e, str_size]; simp; omega
  obtain ⟨ST, hH4⟩ : ∃ ST, H3 ++ str tq = ST := ⟨_, rfl⟩
  have hST : str T = ST := by rw [← hH4, hH3e, str_app, hT0]; simp
  rw [hST] at HPa
  obtain ⟨c1, hc1⟩ : ∃ c1, str th = c1 := ⟨_, rfl⟩
  obtain ⟨c2, hc2⟩ : ∃ c2, str tp = c2 := ⟨_, rfl⟩
  obtain ⟨c3, hc3⟩ : ∃ c3, str tq = c3 := ⟨_, rfl⟩
  obtain ⟨d1, hd1⟩ : ∃ d1, str rh = d1 := ⟨_, rfl⟩
  obtain ⟨d2, hd2⟩ : ∃ d2, str rp = d2 := ⟨_, rfl⟩
  obtain ⟨d3, hd3⟩ : ∃ d3, str rq = d3 := ⟨_, rfl⟩
  rw [hc1] at hz1
  rw [hc2] at hz2 hH3
  rw [hc3] at hz3 hH4
  rw [hc1, hc2, hc3] at HX0 HNe HEq ⊢
  rw [hd1, hd2, hd3] at HPa HNe HEq
  have HST := hid hST
  subst hf
  subst hh
  clear hl hT0 hr hR hT hc1 hc2 hc3 hd1 hd2 hd3 hsz hST HTx hH3e
  by_cases hk : k = 0
  · subst hk
    have HA := hid (show ∀ (a : ByteArray) (b : Int), (R1, R2) = (T, 0) → a = ST → b = 0 → Ending.returned (.tuple #[.string a, .int .i64 b]) = .returned (.tuple #[.string (str R1), .int .i64 (R2 : Int)]) from fun a b h e1 e2 => by
      simp only [Prod.mk.injEq] at h
      obtain ⟨rfl, rfl⟩ := h
      rw [e1, e2, HST.out]
      rfl)
    have HN := hid (show (R1, R2) = (([] : B), 23) → Ending.returned (.tuple #[.string ⟨#[]⟩, .int .i64 23]) = .returned (.tuple #[.string (str R1), .int .i64 (R2 : Int)]) from fun h => by
      simp only [Prod.mk.injEq] at h
      obtain ⟨rfl, rfl⟩ := h
      rfl)
    have HEq0 := hid (fun q => HEq.out q rfl)
    have HNe0 := hid (fun q => HNe.out q rfl)
    clear HEq HNe HKn
    cases rhs with
    | true =>
      go_enter Tryd.func14, Tryd.ntmps14
      go_wp2_with (go_at_call 10; (with_reducible refine (HPa.out _).mono ?_); rintro e w2 ⟨rfl, hb⟩; have HB2 := hid (show ∀ o, Below w.heap.size w (w2.alloc o) from fun o => below_out HX0.out.low (below_out hb (below_new w2 o))); have HXb := hid (HX0.out.below hb); obtain ⟨x0, x1, x2, x3, x4, xz⟩ := five ((below_new w2 (.cells #[.int .i64 rf, .string d1, .string d2, .string d3, .bool true] 28 (0, 0))).block _ (lt_of_heap HXb.out.box) |>.trans HXb.out.box); clear hb xz)
      all_goals go_ret2
      all_goals first
        | exact ⟨HA.out _ _ (HEq0.out ⟨tl_inj (by assumption), (by first | exact tl_inj (by assumption) | exact tl47 (by assumption)), tl_inj (by assumption), by assumption, (by first | rfl | trivial)⟩) rfl rfl, HB2.out _⟩
        | exact ⟨HN.out (HNe0.out (fun q => by first | exact absurd (congrArg ByteArray.toList q.1) (by assumption) | exact absurd (congrArg ByteArray.toList q.2.1) (by assumption) | exact absurd (of47 q.2.1) (by assumption) | exact absurd (congrArg ByteArray.toList q.2.2.1) (by assumption) | exact absurd q.2.2.2.1 (by assumption) | exact absurd q.2.2.2.2 (by decide) | exact q.2.2.2.2.elim)), HB2.out _⟩
    | false =>
      go_enter Tryd.func14, Tryd.ntmps14
      go_wp2_with (go_at_call 10; (with_reducible refine (HPa.out _).mono ?_); rintro e w2 ⟨rfl, hb⟩; have HB2 := hid (show ∀ o, Below w.heap.size w (w2.alloc o) from fun o => below_out HX0.out.low (below_out hb (below_new w2 o))); have HXb := hid (HX0.out.below hb); obtain ⟨x0, x1, x2, x3, x4, xz⟩ := five ((below_new w2 (.cells #[.int .i64 rf, .string d1, .string d2, .string d3, .bool false] 28 (0, 0))).block _ (lt_of_heap HXb.out.box) |>.trans HXb.out.box); clear hb xz)
      all_goals go_ret2
      all_goals first
        | exact ⟨HA.out _ _ (HEq0.out ⟨tl_inj (by assumption), (by first | exact tl_inj (by assumption) | exact tl47 (by assumption)), tl_inj (by assumption), by assumption, (by first | rfl | trivial)⟩) rfl rfl, HB2.out _⟩
        | exact ⟨HN.out (HNe0.out (fun q => by first | exact absurd (congrArg ByteArray.toList q.1) (by assumption) | exact absurd (congrArg ByteArray.toList q.2.1) (by assumption) | exact absurd (of47 q.2.1) (by assumption) | exact absurd (congrArg ByteArray.toList q.2.2.1) (by assumption) | exact absurd q.2.2.2.1 (by assumption) | exact absurd q.2.2.2.2 (by decide) | exact q.2.2.2.2.elim)), HB2.out _⟩
  · have hkz : ((k : Int) != 0) = true := by rw [bne_iff_ne]; omega
    have hkz2 : ((k : Int) == 0) = false := by rw [beq_eq_false_iff_ne]; omega
    have HV := HKn.out hk
    simp only [Prod.mk.injEq] at HV
    obtain ⟨rfl, rfl⟩ := HV
    go_enter Tryd.func14, Tryd.ntmps14
    go_wp2_with (go_at_call 10; (with_reducible refine (HPa.out _).mono ?_); rintro e w2 ⟨rfl, hb⟩; have HB2 := hid (show ∀ o, Below w.heap.size w (w2.alloc o) from fun o => below_out HX0.out.low (below_out hb (below_new w2 o))); have HXb := hid (HX0.out.below hb); obtain ⟨x0, x1, x2, x3, x4, xz⟩ := five ((below_new w2 (.cells #[.int .i64 rf, .string d1, .string d2, .string d3, .bool rhs] 28 (0, 0))).block _ (lt_of_heap HXb.out.box) |>.trans HXb.out.box); clear hb xz)
    go_ret2
    exact ⟨rfl, HB2.out _⟩
set_option maxRecDepth 20000 in
set_option maxHeartbeats 8000000 in
theorem rtext_path_n (tf : Int) (th tp tq : B) (ths : Bool) (hf : tf = 1) (hh : ths = false) (hsz : th.length + tp.length + tq.length ≤ 17592186044416) (w : World) : Calls Tryd.prog 14 #[tgV ⟨tf, th, tp, tq, ths⟩] w fun e w' => e = .returned (.tuple #[.string (str (textT ⟨tf, th, tp, tq, ths⟩).1), .int .i64 ((textT ⟨tf, th, tp, tq, ths⟩).2 : Int)]) ∧ Below w.heap.size w w' := by
  have hl := tell_len ⟨tf, th, tp, tq, ths⟩
  have hT0 : tellT ⟨tf, th, tp, tq, ths⟩ = tp := by unfold tellT; simp only [hh, Bool.false_eq_true, if_false, List.append_nil]; rw [hf, if_neg (by decide), if_pos rfl]
  have HPa := hid (rparse_any (tellT ⟨tf, th, tp, tq, ths⟩) (by simp only at hl; omega))
  have HTx := hid (show textT ⟨tf, th, tp, tq, ths⟩ = if (parseT (tellT ⟨tf, th, tp, tq, ths⟩)).2 ≠ 0 ∨ (parseT (tellT ⟨tf, th, tp, tq, ths⟩)).1 ≠ ⟨tf, th, tp, tq, ths⟩ then ([], 23) else (tellT ⟨tf, th, tp, tq, ths⟩, 0) from rfl)
  obtain ⟨R1, R2, hR⟩ : ∃ R1 R2, textT ⟨tf, th, tp, tq, ths⟩ = (R1, R2) := ⟨_, _, rfl⟩
  obtain ⟨r, k, hr⟩ : ∃ r k, parseT (tellT ⟨tf, th, tp, tq, ths⟩) = (r, k) := ⟨_, _, rfl⟩
  rw [hr] at HPa HTx
  rw [hR] at HTx ⊢
  dsimp only at HPa HTx ⊢
  obtain ⟨T, hT⟩ : ∃ T, tellT ⟨tf, th, tp, tq, ths⟩ = T := ⟨_, rfl⟩
  rw [hT] at HPa HTx hT0
  obtain ⟨rf, rh, rp, rq, rhs⟩ := r
  have HNe := hid (show ¬ (str rh = str th ∧ str rp = str tp ∧ str rq = str tq ∧ rf = tf ∧ rhs = ths) → k = 0 → (R1, R2) = (([] : B), 23) from fun q _ => by
    rw [HTx.out, if_pos (.inr (fun e => q (by simp only [TG.mk.injEq] at e; obtain ⟨rfl, rfl, rfl, rfl, rfl⟩ := e; exact ⟨rfl, rfl, rfl, rfl, rfl⟩)))])
  have HEq := hid (show (str rh = str th ∧ str rp = str tp ∧ str rq = str tq ∧ rf = tf ∧ rhs = ths) → k = 0 → (R1, R2) = (T, 0) from fun q hk => by
    rw [HTx.out, if_neg (by rintro (z | z); exact z hk; exact z (by rw [str_inj q.1, str_inj q.2.1, str_inj q.2.2.1, q.2.2.2.1, q.2.2.2.2]))])
  have HKn := hid (show k ≠ 0 → (R1, R2) = (([] : B), 23) from fun hk => by rw [HTx.out, if_pos (.inl hk)])
  have HX0 := hid (RX.start w #[.int .i64 tf, .string (str th), .string (str tp), .string (str tq), .bool ths])
  unfold tgV at HPa ⊢
  dsimp only at HPa ⊢
  have hz1 : (str th).size ≤ 17592186044416 := by rw [str_size]; omega
  have hz2 : (str tp).size ≤ 17592186044416 := by rw [str_size]; omega
  have hz3 : (str tq).size ≤ 17592186044416 := by rw [str_size]; omega
  have hST : str T = str tp := by rw [hT0]
  rw [hST] at HPa
  obtain ⟨c1, hc1⟩ : ∃ c1, str th = c1 := ⟨_, rfl⟩
  obtain ⟨c2, hc2⟩ : ∃ c2, str tp = c2 := ⟨_, rfl⟩
  obtain ⟨c3, hc3⟩ : ∃ c3, str tq = c3 := ⟨_, rfl⟩
  obtain ⟨d1, hd1⟩ : ∃ d1, str rh = d1 := ⟨_, rfl⟩
  obtain ⟨d2, hd2⟩ : ∃ d2, str rp = d2 := ⟨_, rfl⟩
  obtain ⟨d3, hd3⟩ : ∃ d3, str rq = d3 := ⟨_, rfl⟩
  rw [hc1] at hz1
  rw [hc2] at hz2 HPa hST
  rw [hc3] at hz3
  rw [hc1, hc2, hc3] at HX0 HNe HEq ⊢
  rw [hd1, hd2, hd3] at HPa HNe HEq
  have HST := hid hST
  subst hf
  subst hh
  clear hl hT0 hr hR hT hc1 hc2 hc3 hd1 hd2 hd3 hsz hST HTx
  by_cases hk : k = 0
  · subst hk
    have HA := hid (show ∀ (a : ByteArray) (b : Int), (R1, R2) = (T, 0) → a = c2 → b = 0 → Ending.returned (.tuple #[.string a, .int .i64 b]) = .returned (.tuple #[.string (str R1), .int .i64 (R2 : Int)]) from fun a b h e1 e2 => by
      simp only [Prod.mk.injEq] at h
      obtain ⟨rfl, rfl⟩ := h
      rw [e1, e2, HST.out]
      rfl)
    have HN := hid (show (R1, R2) = (([] : B), 23) → Ending.returned (.tuple #[.string ⟨#[]⟩, .int .i64 23]) = .returned (.tuple #[.string (str R1), .int .i64 (R2 : Int)]) from fun h => by
      simp only [Prod.mk.injEq] at h
      obtain ⟨rfl, rfl⟩ := h
      rfl)
    have HEq0 := hid (fun q => HEq.out q rfl)
    have HNe0 := hid (fun q => HNe.out q rfl)
    clear HEq HNe HKn
    cases rhs with
    | true =>
      go_enter Tryd.func14, Tryd.ntmps14
      go_wp2_with (go_at_call 10; (with_reducible refine (HPa.out _).mono ?_); rintro e w2 ⟨rfl, hb⟩; have HB2 := hid (show ∀ o, Below w.heap.size w (w2.alloc o) from fun o => below_out HX0.out.low (below_out hb (below_new w2 o))); have HXb := hid (HX0.out.below hb); obtain ⟨x0, x1, x2, x3, x4, xz⟩ := five ((below_new w2 (.cells #[.int .i64 rf, .string d1, .string d2, .string d3, .bool true] 28 (0, 0))).block _ (lt_of_heap HXb.out.box) |>.trans HXb.out.box); clear hb xz)
      all_goals go_ret2
      all_goals first
        | exact ⟨HA.out _ _ (HEq0.out ⟨tl_inj (by assumption), (by first | exact tl_inj (by assumption) | exact tl47 (by assumption)), tl_inj (by assumption), by assumption, (by first | rfl | trivial)⟩) rfl rfl, HB2.out _⟩
        | exact ⟨HN.out (HNe0.out (fun q => by first | exact absurd (congrArg ByteArray.toList q.1) (by assumption) | exact absurd (congrArg ByteArray.toList q.2.1) (by assumption) | exact absurd (of47 q.2.1) (by assumption) | exact absurd (congrArg ByteArray.toList q.2.2.1) (by assumption) | exact absurd q.2.2.2.1 (by assumption) | exact absurd q.2.2.2.2 (by decide) | exact q.2.2.2.2.elim)), HB2.out _⟩
    | false =>
      go_enter Tryd.func14, Tryd.ntmps14
      go_wp2_with (go_at_call 10; (with_reducible refine (HPa.out _).mono ?_); rintro e w2 ⟨rfl, hb⟩; have HB2 := hid (show ∀ o, Below w.heap.size w (w2.alloc o) from fun o => below_out HX0.out.low (below_out hb (below_new w2 o))); have HXb := hid (HX0.out.below hb); obtain ⟨x0, x1, x2, x3, x4, xz⟩ := five ((below_new w2 (.cells #[.int .i64 rf, .string d1, .string d2, .string d3, .bool false] 28 (0, 0))).block _ (lt_of_heap HXb.out.box) |>.trans HXb.out.box); clear hb xz)
      all_goals go_ret2
      all_goals first
        | exact ⟨HA.out _ _ (HEq0.out ⟨tl_inj (by assumption), (by first | exact tl_inj (by assumption) | exact tl47 (by assumption)), tl_inj (by assumption), by assumption, (by first | rfl | trivial)⟩) rfl rfl, HB2.out _⟩
        | exact ⟨HN.out (HNe0.out (fun q => by first | exact absurd (congrArg ByteArray.toList q.1) (by assumption) | exact absurd (congrArg ByteArray.toList q.2.1) (by assumption) | exact absurd (of47 q.2.1) (by assumption) | exact absurd (congrArg ByteArray.toList q.2.2.1) (by assumption) | exact absurd q.2.2.2.1 (by assumption) | exact absurd q.2.2.2.2 (by decide) | exact q.2.2.2.2.elim)), HB2.out _⟩
  · have hkz : ((k : Int) != 0) = true := by rw [bne_iff_ne]; omega
    have hkz2 : ((k : Int) == 0) = false := by rw [beq_eq_false_iff_ne]; omega
    have HV := HKn.out hk
    simp only [Prod.mk.injEq] at HV
    obtain ⟨rfl, rfl⟩ := HV
    go_enter Tryd.func14, Tryd.ntmps14
    go_wp2_with (go_at_call 10; (with_reducible refine (HPa.out _).mono ?_); rintro e w2 ⟨rfl, hb⟩; have HB2 := hid (show ∀ o, Below w.heap.size w (w2.alloc o) from fun o => below_out HX0.out.low (below_out hb (below_new w2 o))); have HXb := hid (HX0.out.below hb); obtain ⟨x0, x1, x2, x3, x4, xz⟩ := five ((below_new w2 (.cells #[.int .i64 rf, .string d1, .string d2, .string d3, .bool rhs] 28 (0, 0))).block _ (lt_of_heap HXb.out.box) |>.trans HXb.out.box); clear hb xz)
    go_ret2
    exact ⟨rfl, HB2.out _⟩
set_option maxRecDepth 20000 in
set_option maxHeartbeats 8000000 in
theorem rtext_root_q (tf : Int) (th tp tq : B) (ths : Bool) (hf : tf = 2) (hp : tp = [47]) (hh : ths = true) (hsz : th.length + tp.length + tq.length ≤ 17592186044416) (w : World) : Calls Tryd.prog 14 #[tgV ⟨tf, th, tp, tq, ths⟩] w fun e w' => e = .returned (.tuple #[.string (str (textT ⟨tf, th, tp, tq, ths⟩).1), .int .i64 ((textT ⟨tf, th, tp, tq, ths⟩).2 : Int)]) ∧ Below w.heap.size w w' := by
  have hl := tell_len ⟨tf, th, tp, tq, ths⟩
  have hT0 : tellT ⟨tf, th, tp, tq, ths⟩ = (httpB ++ th) ++ 63 :: tq := by unfold tellT; simp only [hh, if_true]; rw [hf, if_neg (by decide), if_neg (by decide), if_pos rfl, if_neg (c := tp ≠ [47]) (fun q => q hp)]; simp
  have HPa := hid (rparse_any (tellT ⟨tf, th, tp, tq, ths⟩) (by simp only at hl; omega))
  have HTx := hid (show textT ⟨tf, th, tp, tq, ths⟩ = if (parseT (tellT ⟨tf, th, tp, tq, ths⟩)).2 ≠ 0 ∨ (parseT (tellT ⟨tf, th, tp, tq, ths⟩)).1 ≠ ⟨tf, th, tp, tq, ths⟩ then ([], 23) else (tellT ⟨tf, th, tp, tq, ths⟩, 0) from rfl)
  obtain ⟨R1, R2, hR⟩ : ∃ R1 R2, textT ⟨tf, th, tp, tq, ths⟩ = (R1, R2) := ⟨_, _, rfl⟩
  obtain ⟨r, k, hr⟩ : ∃ r k, parseT (tellT ⟨tf, th, tp, tq, ths⟩) = (r, k) := ⟨_, _, rfl⟩
  rw [hr] at HPa HTx
  rw [hR] at HTx ⊢
  dsimp only at HPa HTx ⊢
  obtain ⟨T, hT⟩ : ∃ T, tellT ⟨tf, th, tp, tq, ths⟩ = T := ⟨_, rfl⟩
  rw [hT] at HPa HTx hT0
  obtain ⟨rf, rh, rp, rq, rhs⟩ := r
  have HNe := hid (show ¬ (str rh = str th ∧ str rp = str tp ∧ str rq = str tq ∧ rf = tf ∧ rhs = ths) → k = 0 → (R1, R2) = (([] : B), 23) from fun q _ => by
    rw [HTx.out, if_pos (.inr (fun e => q (by simp only [TG.mk.injEq] at e; obtain ⟨rfl, rfl, rfl, rfl, rfl⟩ := e; exact ⟨rfl, rfl, rfl, rfl, rfl⟩)))])
  have HEq := hid (show (str rh = str th ∧ str rp = str tp ∧ str rq = str tq ∧ rf = tf ∧ rhs = ths) → k = 0 → (R1, R2) = (T, 0) from fun q hk => by
    rw [HTx.out, if_neg (by rintro (z | z); exact z hk; exact z (by rw [str_inj q.1, str_inj q.2.1, str_inj q.2.2.1, q.2.2.2.1, q.2.2.2.2]))])
  have HKn := hid (show k ≠ 0 → (R1, R2) = (([] : B), 23) from fun hk => by rw [HTx.out, if_pos (.inl hk)])
  have HX0 := hid (RX.start w #[.int .i64 tf, .string (str th), .string (str tp), .string (str tq), .bool ths])
  unfold tgV at HPa ⊢
  dsimp only at HPa ⊢
  have hz1 : (str th).size ≤ 17592186044416 := by rw [str_size]; omega
  have hz2 : (str tp).size ≤ 17592186044416 := by rw [str_size]; omega
  have hz3 : (str tq).size ≤ 17592186044416 := by rw [str_size]; omega
  obtain ⟨H1, hH1⟩ : ∃ H1, (⟨#[104, 116, 116, 112, 58, 47, 47]⟩ : ByteArray) ++ str th = H1 := ⟨_, rfl⟩
  have hH1e : H1 = str (httpB ++ th) := by rw [← hH1]; exact str_app httpB th
  have hH1s : H1.size ≤ 17592186044424 := by rw [hH1e, str_size, List.length_append]; have : httpB.length = 7 := rfl; omega
  obtain ⟨H3, hH3⟩ : ∃ H3, (H1 : ByteArray) ++ ⟨#[63]⟩ = H3 := ⟨_, rfl⟩
  have hH3e : H3 = str ((httpB ++ th) ++ [63]) := by rw [← hH3, hH1e]; exact str_app (httpB ++ th) [63]
  have hH3s : H3.size ≤ 52776558133260 := by rw [hH3e, str_size]; simp [httpB]; omega
  obtain ⟨ST, hH4⟩ : ∃ ST, H3 ++ str tq = ST := ⟨_, rfl⟩
  have hST : str T = ST := by rw [← hH4, hH3e, str_app, hT0]; simp
  rw [hST] at HPa
  obtain ⟨c1, hc1⟩ : ∃ c1, str th = c1 := ⟨_, rfl⟩
  obtain ⟨c2, hc2⟩ : ∃ c2, str tp = c2 := ⟨_, rfl⟩
  obtain ⟨c3, hc3⟩ : ∃ c3, str tq = c3 := ⟨_, rfl⟩
  obtain ⟨d1, hd1⟩ : ∃ d1, str rh = d1 := ⟨_, rfl⟩
  obtain ⟨d2, hd2⟩ : ∃ d2, str rp = d2 := ⟨_, rfl⟩
  obtain ⟨d3, hd3⟩ : ∃ d3, str rq = d3 := ⟨_, rfl⟩
  rw [hc1] at hz1 hH1
  rw [hc2] at hz2
  rw [hc3] at hz3 hH4
  rw [hc1, hc2, hc3] at HX0 HNe HEq ⊢
  rw [hd1, hd2, hd3] at HPa HNe HEq
  have HST := hid hST
  subst hf
  subst hh
  obtain rfl : c2 = ⟨#[47]⟩ := by rw [← hc2, hp]
  clear hl hT0 hr hR hT hc1 hc2 hc3 hd1 hd2 hd3 hsz hST HTx hH1e hp hH3e
  by_cases hk : k = 0
  · subst hk
    have HA := hid (show ∀ (a : ByteArray) (b : Int), (R1, R2) = (T, 0) → a = ST → b = 0 → Ending.returned (.tuple #[.string a, .int .i64 b]) = .returned (.tuple #[.string (str R1), .int .i64 (R2 : Int)]) from fun a b h e1 e2 => by
      simp only [Prod.mk.injEq] at h
      obtain ⟨rfl, rfl⟩ := h
      rw [e1, e2, HST.out]
      rfl)
    have HN := hid (show (R1, R2) = (([] : B), 23) → Ending.returned (.tuple #[.string ⟨#[]⟩, .int .i64 23]) = .returned (.tuple #[.string (str R1), .int .i64 (R2 : Int)]) from fun h => by
      simp only [Prod.mk.injEq] at h
      obtain ⟨rfl, rfl⟩ := h
      rfl)
    have HEq0 := hid (fun q => HEq.out q rfl)
    have HNe0 := hid (fun q => HNe.out q rfl)
    clear HEq HNe HKn
    cases rhs with
    | true =>
      go_enter Tryd.func14, Tryd.ntmps14
      go_wp2_with (go_at_call 10; (with_reducible refine (HPa.out _).mono ?_); rintro e w2 ⟨rfl, hb⟩; have HB2 := hid (show ∀ o, Below w.heap.size w (w2.alloc o) from fun o => below_out HX0.out.low (below_out hb (below_new w2 o))); have HXb := hid (HX0.out.below hb); obtain ⟨x0, x1, x2, x3, x4, xz⟩ := five ((below_new w2 (.cells #[.int .i64 rf, .string d1, .string d2, .string d3, .bool true] 28 (0, 0))).block _ (lt_of_heap HXb.out.box) |>.trans HXb.out.box); clear hb xz)
      all_goals go_ret2
      all_goals first
        | exact ⟨HA.out _ _ (HEq0.out ⟨tl_inj (by assumption), (by first | exact tl_inj (by assumption) | exact tl47 (by assumption)), tl_inj (by assumption), by assumption, (by first | rfl | trivial)⟩) rfl rfl, HB2.out _⟩
        | exact ⟨HN.out (HNe0.out (fun q => by first | exact absurd (congrArg ByteArray.toList q.1) (by assumption) | exact absurd (congrArg ByteArray.toList q.2.1) (by assumption) | exact absurd (of47 q.2.1) (by assumption) | exact absurd (congrArg ByteArray.toList q.2.2.1) (by assumption) | exact absurd q.2.2.2.1 (by assumption) | exact absurd q.2.2.2.2 (by decide) | exact q.2.2.2.2.elim)), HB2.out _⟩
    | false =>
      go_enter Tryd.func14, Tryd.ntmps14
      go_wp2_with (go_at_call 10; (with_reducible refine (HPa.out _).mono ?_); rintro e w2 ⟨rfl, hb⟩; have HB2 := hid (show ∀ o, Below w.heap.size w (w2.alloc o) from fun o => below_out HX0.out.low (below_out hb (below_new w2 o))); have HXb := hid (HX0.out.below hb); obtain ⟨x0, x1, x2, x3, x4, xz⟩ := five ((below_new w2 (.cells #[.int .i64 rf, .string d1, .string d2, .string d3, .bool false] 28 (0, 0))).block _ (lt_of_heap HXb.out.box) |>.trans HXb.out.box); clear hb xz)
      all_goals go_ret2
      all_goals first
        | exact ⟨HA.out _ _ (HEq0.out ⟨tl_inj (by assumption), (by first | exact tl_inj (by assumption) | exact tl47 (by assumption)), tl_inj (by assumption), by assumption, (by first | rfl | trivial)⟩) rfl rfl, HB2.out _⟩
        | exact ⟨HN.out (HNe0.out (fun q => by first | exact absurd (congrArg ByteArray.toList q.1) (by assumption) | exact absurd (congrArg ByteArray.toList q.2.1) (by assumption) | exact absurd (of47 q.2.1) (by assumption) | exact absurd (congrArg ByteArray.toList q.2.2.1) (by assumption) | exact absurd q.2.2.2.1 (by assumption) | exact absurd q.2.2.2.2 (by decide) | exact q.2.2.2.2.elim)), HB2.out _⟩
  · have hkz : ((k : Int) != 0) = true := by rw [bne_iff_ne]; omega
    have hkz2 : ((k : Int) == 0) = false := by rw [beq_eq_false_iff_ne]; omega
    have HV := HKn.out hk
    simp only [Prod.mk.injEq] at HV
    obtain ⟨rfl, rfl⟩ := HV
    go_enter Tryd.func14, Tryd.ntmps14
    go_wp2_with (go_at_call 10; (with_reducible refine (HPa.out _).mono ?_); rintro e w2 ⟨rfl, hb⟩; have HB2 := hid (show ∀ o, Below w.heap.size w (w2.alloc o) from fun o => below_out HX0.out.low (below_out hb (below_new w2 o))); have HXb := hid (HX0.out.below hb); obtain ⟨x0, x1, x2, x3, x4, xz⟩ := five ((below_new w2 (.cells #[.int .i64 rf, .string d1, .string d2, .string d3, .bool rhs] 28 (0, 0))).block _ (lt_of_heap HXb.out.box) |>.trans HXb.out.box); clear hb xz)
    go_ret2
    exact ⟨rfl, HB2.out _⟩
set_option maxRecDepth 20000 in
set_option maxHeartbeats 8000000 in
theorem rtext_root_n (tf : Int) (th tp tq : B) (ths : Bool) (hf : tf = 2) (hp : tp = [47]) (hh : ths = false) (hsz : th.length + tp.length + tq.length ≤ 17592186044416) (w : World) : Calls Tryd.prog 14 #[tgV ⟨tf, th, tp, tq, ths⟩] w fun e w' => e = .returned (.tuple #[.string (str (textT ⟨tf, th, tp, tq, ths⟩).1), .int .i64 ((textT ⟨tf, th, tp, tq, ths⟩).2 : Int)]) ∧ Below w.heap.size w w' := by
  have hl := tell_len ⟨tf, th, tp, tq, ths⟩
  have hT0 : tellT ⟨tf, th, tp, tq, ths⟩ = httpB ++ th := by unfold tellT; simp only [hh, Bool.false_eq_true, if_false, List.append_nil]; rw [hf, if_neg (by decide), if_neg (by decide), if_pos rfl, if_neg (c := tp ≠ [47]) (fun q => q hp)]; simp
  have HPa := hid (rparse_any (tellT ⟨tf, th, tp, tq, ths⟩) (by simp only at hl; omega))
  have HTx := hid (show textT ⟨tf, th, tp, tq, ths⟩ = if (parseT (tellT ⟨tf, th, tp, tq, ths⟩)).2 ≠ 0 ∨ (parseT (tellT ⟨tf, th, tp, tq, ths⟩)).1 ≠ ⟨tf, th, tp, tq, ths⟩ then ([], 23) else (tellT ⟨tf, th, tp, tq, ths⟩, 0) from rfl)
  obtain ⟨R1, R2, hR⟩ : ∃ R1 R2, textT ⟨tf, th, tp, tq, ths⟩ = (R1, R2) := ⟨_, _, rfl⟩
  obtain ⟨r, k, hr⟩ : ∃ r k, parseT (tellT ⟨tf, th, tp, tq, ths⟩) = (r, k) := ⟨_, _, rfl⟩
  rw [hr] at HPa HTx
  rw [hR] at HTx ⊢
  dsimp only at HPa HTx ⊢
  obtain ⟨T, hT⟩ : ∃ T, tellT ⟨tf, th, tp, tq, ths⟩ = T := ⟨_, rfl⟩
  rw [hT] at HPa HTx hT0
  obtain ⟨rf, rh, rp, rq, rhs⟩ := r
  have HNe := hid (show ¬ (str rh = str th ∧ str rp = str tp ∧ str rq = str tq ∧ rf = tf ∧ rhs = ths) → k = 0 → (R1, R2) = (([] : B), 23) from fun q _ => by
    rw [HTx.out, if_pos (.inr (fun e => q (by simp only [TG.mk.injEq] at e; obtain ⟨rfl, rfl, rfl, rfl, rfl⟩ := e; exact ⟨rfl, rfl, rfl, rfl, rfl⟩)))])
  have HEq := hid (show (str rh = str th ∧ str rp = str tp ∧ str rq = str tq ∧ rf = tf ∧ rhs = ths) → k = 0 → (R1, R2) = (T, 0) from fun q hk => by
    rw [HTx.out, if_neg (by rintro (z | z); exact z hk; exact z (by rw [str_inj q.1, str_inj q.2.1, str_inj q.2.2.1, q.2.2.2.1, q.2.2.2.2]))])
  have HKn := hid (show k ≠ 0 → (R1, R2) = (([] : B), 23) from fun hk => by rw [HTx.out, if_pos (.inl hk)])
  have HX0 := hid (RX.start w #[.int .i64 tf, .string (str th), .string (str tp), .string (str tq), .bool ths])
  unfold tgV at HPa ⊢
  dsimp only at HPa ⊢
  have hz1 : (str th).size ≤ 17592186044416 := by rw [str_size]; omega
  have hz2 : (str tp).size ≤ 17592186044416 := by rw [str_size]; omega
  have hz3 : (str tq).size ≤ 17592186044416 := by rw [str_size]; omega
  obtain ⟨H1, hH1⟩ : ∃ H1, (⟨#[104, 116, 116, 112, 58, 47, 47]⟩ : ByteArray) ++ str th = H1 := ⟨_, rfl⟩
  have hH1e : H1 = str (httpB ++ th) := by rw [← hH1]; exact str_app httpB th
  have hH1s : H1.size ≤ 17592186044424 := by rw [hH1e, str_size, List.length_append]; have : httpB.length = 7 := rfl; omega
  have hST : str T = H1 := by rw [hT0]; exact hH1e.symm
  rw [hST] at HPa
  obtain ⟨c1, hc1⟩ : ∃ c1, str th = c1 := ⟨_, rfl⟩
  obtain ⟨c2, hc2⟩ : ∃ c2, str tp = c2 := ⟨_, rfl⟩
  obtain ⟨c3, hc3⟩ : ∃ c3, str tq = c3 := ⟨_, rfl⟩
  obtain ⟨d1, hd1⟩ : ∃ d1, str rh = d1 := ⟨_, rfl⟩
  obtain ⟨d2, hd2⟩ : ∃ d2, str rp = d2 := ⟨_, rfl⟩
  obtain ⟨d3, hd3⟩ : ∃ d3, str rq = d3 := ⟨_, rfl⟩
  rw [hc1] at hz1 hH1
  rw [hc2] at hz2
  rw [hc3] at hz3
  rw [hc1, hc2, hc3] at HX0 HNe HEq ⊢
  rw [hd1, hd2, hd3] at HPa HNe HEq
  have HST := hid hST
  subst hf
  subst hh
  obtain rfl : c2 = ⟨#[47]⟩ := by rw [← hc2, hp]
  clear hl hT0 hr hR hT hc1 hc2 hc3 hd1 hd2 hd3 hsz hST HTx hH1e hp
  by_cases hk : k = 0
  · subst hk
    have HA := hid (show ∀ (a : ByteArray) (b : Int), (R1, R2) = (T, 0) → a = H1 → b = 0 → Ending.returned (.tuple #[.string a, .int .i64 b]) = .returned (.tuple #[.string (str R1), .int .i64 (R2 : Int)]) from fun a b h e1 e2 => by
      simp only [Prod.mk.injEq] at h
      obtain ⟨rfl, rfl⟩ := h
      rw [e1, e2, HST.out]
      rfl)
    have HN := hid (show (R1, R2) = (([] : B), 23) → Ending.returned (.tuple #[.string ⟨#[]⟩, .int .i64 23]) = .returned (.tuple #[.string (str R1), .int .i64 (R2 : Int)]) from fun h => by
      simp only [Prod.mk.injEq] at h
      obtain ⟨rfl, rfl⟩ := h
      rfl)
    have HEq0 := hid (fun q => HEq.out q rfl)
    have HNe0 := hid (fun q => HNe.out q rfl)
    clear HEq HNe HKn
    cases rhs with
    | true =>
      go_enter Tryd.func14, Tryd.ntmps14
      go_wp2_with (go_at_call 10; (with_reducible refine (HPa.out _).mono ?_); rintro e w2 ⟨rfl, hb⟩; have HB2 := hid (show ∀ o, Below w.heap.size w (w2.alloc o) from fun o => below_out HX0.out.low (below_out hb (below_new w2 o))); have HXb := hid (HX0.out.below hb); obtain ⟨x0, x1, x2, x3, x4, xz⟩ := five ((below_new w2 (.cells #[.int .i64 rf, .string d1, .string d2, .string d3, .bool true] 28 (0, 0))).block _ (lt_of_heap HXb.out.box) |>.trans HXb.out.box); clear hb xz)
      all_goals go_ret2
      all_goals first
        | exact ⟨HA.out _ _ (HEq0.out ⟨tl_inj (by assumption), (by first | exact tl_inj (by assumption) | exact tl47 (by assumption)), tl_inj (by assumption), by assumption, (by first | rfl | trivial)⟩) rfl rfl, HB2.out _⟩
        | exact ⟨HN.out (HNe0.out (fun q => by first | exact absurd (congrArg ByteArray.toList q.1) (by assumption) | exact absurd (congrArg ByteArray.toList q.2.1) (by assumption) | exact absurd (of47 q.2.1) (by assumption) | exact absurd (congrArg ByteArray.toList q.2.2.1) (by assumption) | exact absurd q.2.2.2.1 (by assumption) | exact absurd q.2.2.2.2 (by decide) | exact q.2.2.2.2.elim)), HB2.out _⟩
    | false =>
      go_enter Tryd.func14, Tryd.ntmps14
      go_wp2_with (go_at_call 10; (with_reducible refine (HPa.out _).mono ?_); rintro e w2 ⟨rfl, hb⟩; have HB2 := hid (show ∀ o, Below w.heap.size w (w2.alloc o) from fun o => below_out HX0.out.low (below_out hb (below_new w2 o))); have HXb := hid (HX0.out.below hb); obtain ⟨x0, x1, x2, x3, x4, xz⟩ := five ((below_new w2 (.cells #[.int .i64 rf, .string d1, .string d2, .string d3, .bool false] 28 (0, 0))).block _ (lt_of_heap HXb.out.box) |>.trans HXb.out.box); clear hb xz)
      all_goals go_ret2
      all_goals first
        | exact ⟨HA.out _ _ (HEq0.out ⟨tl_inj (by assumption), (by first | exact tl_inj (by assumption) | exact tl47 (by assumption)), tl_inj (by assumption), by assumption, (by first | rfl | trivial)⟩) rfl rfl, HB2.out _⟩
        | exact ⟨HN.out (HNe0.out (fun q => by first | exact absurd (congrArg ByteArray.toList q.1) (by assumption) | exact absurd (congrArg ByteArray.toList q.2.1) (by assumption) | exact absurd (of47 q.2.1) (by assumption) | exact absurd (congrArg ByteArray.toList q.2.2.1) (by assumption) | exact absurd q.2.2.2.1 (by assumption) | exact absurd q.2.2.2.2 (by decide) | exact q.2.2.2.2.elim)), HB2.out _⟩
  · have hkz : ((k : Int) != 0) = true := by rw [bne_iff_ne]; omega
    have hkz2 : ((k : Int) == 0) = false := by rw [beq_eq_false_iff_ne]; omega
    have HV := HKn.out hk
    simp only [Prod.mk.injEq] at HV
    obtain ⟨rfl, rfl⟩ := HV
    go_enter Tryd.func14, Tryd.ntmps14
    go_wp2_with (go_at_call 10; (with_reducible refine (HPa.out _).mono ?_); rintro e w2 ⟨rfl, hb⟩; have HB2 := hid (show ∀ o, Below w.heap.size w (w2.alloc o) from fun o => below_out HX0.out.low (below_out hb (below_new w2 o))); have HXb := hid (HX0.out.below hb); obtain ⟨x0, x1, x2, x3, x4, xz⟩ := five ((below_new w2 (.cells #[.int .i64 rf, .string d1, .string d2, .string d3, .bool rhs] 28 (0, 0))).block _ (lt_of_heap HXb.out.box) |>.trans HXb.out.box); clear hb xz)
    go_ret2
    exact ⟨rfl, HB2.out _⟩
set_option maxRecDepth 20000 in
set_option maxHeartbeats 8000000 in
theorem rtext_full_q (tf : Int) (th tp tq : B) (ths : Bool) (hf : tf = 2) (hp : tp ≠ [47]) (hh : ths = true) (hsz : th.length + tp.length + tq.length ≤ 17592186044416) (w : World) : Calls Tryd.prog 14 #[tgV ⟨tf, th, tp, tq, ths⟩] w fun e w' => e = .returned (.tuple #[.string (str (textT ⟨tf, th, tp, tq, ths⟩).1), .int .i64 ((textT ⟨tf, th, tp, tq, ths⟩).2 : Int)]) ∧ Below w.heap.size w w' := by
  have hl := tell_len ⟨tf, th, tp, tq, ths⟩
  have hT0 : tellT ⟨tf, th, tp, tq, ths⟩ = (httpB ++ th ++ tp) ++ 63 :: tq := by unfold tellT; simp only [hh, if_true]; rw [hf, if_neg (by decide), if_neg (by decide), if_pos rfl, if_pos hp]
  have HPa := hid (rparse_any (tellT ⟨tf, th, tp, tq, ths⟩) (by simp only at hl; omega))
  have HTx := hid (show textT ⟨tf, th, tp, tq, ths⟩ = if (parseT (tellT ⟨tf, th, tp, tq, ths⟩)).2 ≠ 0 ∨ (parseT (tellT ⟨tf, th, tp, tq, ths⟩)).1 ≠ ⟨tf, th, tp, tq, ths⟩ then ([], 23) else (tellT ⟨tf, th, tp, tq, ths⟩, 0) from rfl)
  obtain ⟨R1, R2, hR⟩ : ∃ R1 R2, textT ⟨tf, th, tp, tq, ths⟩ = (R1, R2) := ⟨_, _, rfl⟩
  obtain ⟨r, k, hr⟩ : ∃ r k, parseT (tellT ⟨tf, th, tp, tq, ths⟩) = (r, k) := ⟨_, _, rfl⟩
  rw [hr] at HPa HTx
  rw [hR] at HTx ⊢
  dsimp only at HPa HTx ⊢
  obtain ⟨T, hT⟩ : ∃ T, tellT ⟨tf, th, tp, tq, ths⟩ = T := ⟨_, rfl⟩
  rw [hT] at HPa HTx hT0
  obtain ⟨rf, rh, rp, rq, rhs⟩ := r
  have HNe := hid (show ¬ (str rh = str th ∧ str rp = str tp ∧ str rq = str tq ∧ rf = tf ∧ rhs = ths) → k = 0 → (R1, R2) = (([] : B), 23) from fun q _ => by
    rw [HTx.out, if_pos (.inr (fun e => q (by simp only [TG.mk.injEq] at e; obtain ⟨rfl, rfl, rfl, rfl, rfl⟩ := e; exact ⟨rfl, rfl, rfl, rfl, rfl⟩)))])
  have HEq := hid (show (str rh = str th ∧ str rp = str tp ∧ str rq = str tq ∧ rf = tf ∧ rhs = ths) → k = 0 → (R1, R2) = (T, 0) from fun q hk => by
    rw [HTx.out, if_neg (by rintro (z | z); exact z hk; exact z (by rw [str_inj q.1, str_inj q.2.1, str_inj q.2.2.1, q.2.2.2.1, q.2.2.2.2]))])
  have HKn := hid (show k ≠ 0 → (R1, R2) = (([] : B), 23) from fun hk => by rw [HTx.out, if_pos (.inl hk)])
  have HX0 := hid (RX.start w #[.int .i64 tf, .string (str th), .string (str tp), .string (str tq), .bool ths])
  unfold tgV at HPa ⊢
  dsimp only at HPa ⊢
  have hz1 : (str th).size ≤ 17592186044416 := by rw [str_size]; omega
  have hz2 : (str tp).size ≤ 17592186044416 := by rw [str_size]; omega
  have hz3 : (str tq).size ≤ 17592186044416 := by rw [str_size]; omega
  obtain ⟨H1, hH1⟩ : ∃ H1, (⟨#[104, 116, 116, 112, 58, 47, 47]⟩ : ByteArray) ++ str th = H1 := ⟨_, rfl⟩
  have hH1e : H1 = str (httpB ++ th) := by rw [← hH1]; exact str_app httpB th
  have hH1s : H1.size ≤ 17592186044424 := by rw [hH1e, str_size, List.length_append]; have : httpB.length = 7 := rfl; omega
  obtain ⟨H2, hH2⟩ : ∃ H2, H1 ++ str tp = H2 := ⟨_, rfl⟩
  have hH2e : H2 = str (httpB ++ th ++ tp) := by rw [← hH2, hH1e]; exact str_app (httpB ++ th) tp
  have hH2s : H2.size ≤ 35184372088840 := by rw [hH2e, str_size, List.length_append, List.length_append]; have : httpB.length = 7 := rfl; omega
  obtain ⟨H3, hH3⟩ : ∃ H3, (H2 : ByteArray) ++ ⟨#[63]⟩ = H3 := ⟨_, rfl⟩
  have hH3e : H3 = str ((httpB ++ th ++ tp) ++ [63]) := by rw [← hH3, hH2e]; exact str_app (httpB ++ th ++ tp) [63]
  have hH3s : H3.size ≤ 52776558133260 := by rw [hH3e, str_size]; simp [httpB]; omega
  obtain ⟨ST, hH4⟩ : ∃ ST, H3 ++ str tq = ST := ⟨_, rfl⟩
  have hST : str T = ST := by rw [← hH4, hH3e, str_app, hT0]; simp
  rw [hST] at HPa
  obtain ⟨c1, hc1⟩ : ∃ c1, str th = c1 := ⟨_, rfl⟩
  obtain ⟨c2, hc2⟩ : ∃ c2, str tp = c2 := ⟨_, rfl⟩
  obtain ⟨c3, hc3⟩ : ∃ c3, str tq = c3 := ⟨_, rfl⟩
  obtain ⟨d1, hd1⟩ : ∃ d1, str rh = d1 := ⟨_, rfl⟩
  obtain ⟨d2, hd2⟩ : ∃ d2, str rp = d2 := ⟨_, rfl⟩
  obtain ⟨d3, hd3⟩ : ∃ d3, str rq = d3 := ⟨_, rfl⟩
  rw [hc1] at hz1 hH1
  rw [hc2] at hz2 hH2
  rw [hc3] at hz3 hH4
  rw [hc1, hc2, hc3] at HX0 HNe HEq ⊢
  rw [hd1, hd2, hd3] at HPa HNe HEq
  have HST := hid hST
  subst hf
  subst hh
  have q1 : (c2.toList == (⟨#[47]⟩ : ByteArray).toList) = false := by rw [← hc2]; exact ne_list (str_ne (b := [47]) hp)
  have q2 : (c2.toList == [47]) = false := by
    rw [Lib.toList_data (⟨#[47]⟩ : ByteArray)] at q1
    exact q1
  clear hl hT0 hr hR hT hc1 hc2 hc3 hd1 hd2 hd3 hsz hST HTx hH1e hp hH2e hH3e
  by_cases hk : k = 0
  · subst hk
    have HA := hid (show ∀ (a : ByteArray) (b : Int), (R1, R2) = (T, 0) → a = ST → b = 0 → Ending.returned (.tuple #[.string a, .int .i64 b]) = .returned (.tuple #[.string (str R1), .int .i64 (R2 : Int)]) from fun a b h e1 e2 => by
      simp only [Prod.mk.injEq] at h
      obtain ⟨rfl, rfl⟩ := h
      rw [e1, e2, HST.out]
      rfl)
    have HN := hid (show (R1, R2) = (([] : B), 23) → Ending.returned (.tuple #[.string ⟨#[]⟩, .int .i64 23]) = .returned (.tuple #[.string (str R1), .int .i64 (R2 : Int)]) from fun h => by
      simp only [Prod.mk.injEq] at h
      obtain ⟨rfl, rfl⟩ := h
      rfl)
    have HEq0 := hid (fun q => HEq.out q rfl)
    have HNe0 := hid (fun q => HNe.out q rfl)
    clear HEq HNe HKn
    cases rhs with
    | true =>
      go_enter Tryd.func14, Tryd.ntmps14
      go_wp2_with (go_at_call 10; (with_reducible refine (HPa.out _).mono ?_); rintro e w2 ⟨rfl, hb⟩; have HB2 := hid (show ∀ o, Below w.heap.size w (w2.alloc o) from fun o => below_out HX0.out.low (below_out hb (below_new w2 o))); have HXb := hid (HX0.out.below hb); obtain ⟨x0, x1, x2, x3, x4, xz⟩ := five ((below_new w2 (.cells #[.int .i64 rf, .string d1, .string d2, .string d3, .bool true] 28 (0, 0))).block _ (lt_of_heap HXb.out.box) |>.trans HXb.out.box); clear hb xz)
      all_goals go_ret2
      all_goals first
        | exact ⟨HA.out _ _ (HEq0.out ⟨tl_inj (by assumption), (by first | exact tl_inj (by assumption) | exact tl47 (by assumption)), tl_inj (by assumption), by assumption, (by first | rfl | trivial)⟩) rfl rfl, HB2.out _⟩
        | exact ⟨HN.out (HNe0.out (fun q => by first | exact absurd (congrArg ByteArray.toList q.1) (by assumption) | exact absurd (congrArg ByteArray.toList q.2.1) (by assumption) | exact absurd (of47 q.2.1) (by assumption) | exact absurd (congrArg ByteArray.toList q.2.2.1) (by assumption) | exact absurd q.2.2.2.1 (by assumption) | exact absurd q.2.2.2.2 (by decide) | exact q.2.2.2.2.elim)), HB2.out _⟩
    | false =>
      go_enter Tryd.func14, Tryd.ntmps14
      go_wp2_with (go_at_call 10; (with_reducible refine (HPa.out _).mono ?_); rintro e w2 ⟨rfl, hb⟩; have HB2 := hid (show ∀ o, Below w.heap.size w (w2.alloc o) from fun o => below_out HX0.out.low (below_out hb (below_new w2 o))); have HXb := hid (HX0.out.below hb); obtain ⟨x0, x1, x2, x3, x4, xz⟩ := five ((below_new w2 (.cells #[.int .i64 rf, .string d1, .string d2, .string d3, .bool false] 28 (0, 0))).block _ (lt_of_heap HXb.out.box) |>.trans HXb.out.box); clear hb xz)
      all_goals go_ret2
      all_goals first
        | exact ⟨HA.out _ _ (HEq0.out ⟨tl_inj (by assumption), (by first | exact tl_inj (by assumption) | exact tl47 (by assumption)), tl_inj (by assumption), by assumption, (by first | rfl | trivial)⟩) rfl rfl, HB2.out _⟩
        | exact ⟨HN.out (HNe0.out (fun q => by first | exact absurd (congrArg ByteArray.toList q.1) (by assumption) | exact absurd (congrArg ByteArray.toList q.2.1) (by assumption) | exact absurd (of47 q.2.1) (by assumption) | exact absurd (congrArg ByteArray.toList q.2.2.1) (by assumption) | exact absurd q.2.2.2.1 (by assumption) | exact absurd q.2.2.2.2 (by decide) | exact q.2.2.2.2.elim)), HB2.out _⟩
  · have hkz : ((k : Int) != 0) = true := by rw [bne_iff_ne]; omega
    have hkz2 : ((k : Int) == 0) = false := by rw [beq_eq_false_iff_ne]; omega
    have HV := HKn.out hk
    simp only [Prod.mk.injEq] at HV
    obtain ⟨rfl, rfl⟩ := HV
    go_enter Tryd.func14, Tryd.ntmps14
    go_wp2_with (go_at_call 10; (with_reducible refine (HPa.out _).mono ?_); rintro e w2 ⟨rfl, hb⟩; have HB2 := hid (show ∀ o, Below w.heap.size w (w2.alloc o) from fun o => below_out HX0.out.low (below_out hb (below_new w2 o))); have HXb := hid (HX0.out.below hb); obtain ⟨x0, x1, x2, x3, x4, xz⟩ := five ((below_new w2 (.cells #[.int .i64 rf, .string d1, .string d2, .string d3, .bool rhs] 28 (0, 0))).block _ (lt_of_heap HXb.out.box) |>.trans HXb.out.box); clear hb xz)
    go_ret2
    exact ⟨rfl, HB2.out _⟩
set_option maxRecDepth 20000 in
set_option maxHeartbeats 8000000 in
theorem rtext_full_n (tf : Int) (th tp tq : B) (ths : Bool) (hf : tf = 2) (hp : tp ≠ [47]) (hh : ths = false) (hsz : th.length + tp.length + tq.length ≤ 17592186044416) (w : World) : Calls Tryd.prog 14 #[tgV ⟨tf, th, tp, tq, ths⟩] w fun e w' => e = .returned (.tuple #[.string (str (textT ⟨tf, th, tp, tq, ths⟩).1), .int .i64 ((textT ⟨tf, th, tp, tq, ths⟩).2 : Int)]) ∧ Below w.heap.size w w' := by
  have hl := tell_len ⟨tf, th, tp, tq, ths⟩
  have hT0 : tellT ⟨tf, th, tp, tq, ths⟩ = httpB ++ th ++ tp := by unfold tellT; simp only [hh, Bool.false_eq_true, if_false, List.append_nil]; rw [hf, if_neg (by decide), if_neg (by decide), if_pos rfl, if_pos hp]
  have HPa := hid (rparse_any (tellT ⟨tf, th, tp, tq, ths⟩) (by simp only at hl; omega))
  have HTx := hid (show textT ⟨tf, th, tp, tq, ths⟩ = if (parseT (tellT ⟨tf, th, tp, tq, ths⟩)).2 ≠ 0 ∨ (parseT (tellT ⟨tf, th, tp, tq, ths⟩)).1 ≠ ⟨tf, th, tp, tq, ths⟩ then ([], 23) else (tellT ⟨tf, th, tp, tq, ths⟩, 0) from rfl)
  obtain ⟨R1, R2, hR⟩ : ∃ R1 R2, textT ⟨tf, th, tp, tq, ths⟩ = (R1, R2) := ⟨_, _, rfl⟩
  obtain ⟨r, k, hr⟩ : ∃ r k, parseT (tellT ⟨tf, th, tp, tq, ths⟩) = (r, k) := ⟨_, _, rfl⟩
  rw [hr] at HPa HTx
  rw [hR] at HTx ⊢
  dsimp only at HPa HTx ⊢
  obtain ⟨T, hT⟩ : ∃ T, tellT ⟨tf, th, tp, tq, ths⟩ = T := ⟨_, rfl⟩
  rw [hT] at HPa HTx hT0
  obtain ⟨rf, rh, rp, rq, rhs⟩ := r
  have HNe := hid (show ¬ (str rh = str th ∧ str rp = str tp ∧ str rq = str tq ∧ rf = tf ∧ rhs = ths) → k = 0 → (R1, R2) = (([] : B), 23) from fun q _ => by
    rw [HTx.out, if_pos (.inr (fun e => q (by simp only [TG.mk.injEq] at e; obtain ⟨rfl, rfl, rfl, rfl, rfl⟩ := e; exact ⟨rfl, rfl, rfl, rfl, rfl⟩)))])
  have HEq := hid (show (str rh = str th ∧ str rp = str tp ∧ str rq = str tq ∧ rf = tf ∧ rhs = ths) → k = 0 → (R1, R2) = (T, 0) from fun q hk => by
    rw [HTx.out, if_neg (by rintro (z | z); exact z hk; exact z (by rw [str_inj q.1, str_inj q.2.1, str_inj q.2.2.1, q.2.2.2.1, q.2.2.2.2]))])
  have HKn := hid (show k ≠ 0 → (R1, R2) = (([] : B), 23) from fun hk => by rw [HTx.out, if_pos (.inl hk)])
  have HX0 := hid (RX.start w #[.int .i64 tf, .string (str th), .string (str tp), .string (str tq), .bool ths])
  unfold tgV at HPa ⊢
  dsimp only at HPa ⊢
  have hz1 : (str th).size ≤ 17592186044416 := by rw [str_size]; omega
  have hz2 : (str tp).size ≤ 17592186044416 := by rw [str_size]; omega
  have hz3 : (str tq).size ≤ 17592186044416 := by rw [str_size]; omega
  obtain ⟨H1, hH1⟩ : ∃ H1, (⟨#[104, 116, 116, 112, 58, 47, 47]⟩ : ByteArray) ++ str th = H1 := ⟨_, rfl⟩
  have hH1e : H1 = str (httpB ++ th) := by rw [← hH1]; exact str_app httpB th
  have hH1s : H1.size ≤ 17592186044424 := by rw [hH1e, str_size, List.length_append]; have : httpB.length = 7 := rfl; omega
  obtain ⟨H2, hH2⟩ : ∃ H2, H1 ++ str tp = H2 := ⟨_, rfl⟩
  have hH2e : H2 = str (httpB ++ th ++ tp) := by rw [← hH2, hH1e]; exact str_app (httpB ++ th) tp
  have hH2s : H2.size ≤ 35184372088840 := by rw [hH2e, str_size, List.length_append, List.length_append]; have : httpB.length = 7 := rfl; omega
  have hST : str T = H2 := by rw [hT0]; exact hH2e.symm
  rw [hST] at HPa
  obtain ⟨c1, hc1⟩ : ∃ c1, str th = c1 := ⟨_, rfl⟩
  obtain ⟨c2, hc2⟩ : ∃ c2, str tp = c2 := ⟨_, rfl⟩
  obtain ⟨c3, hc3⟩ : ∃ c3, str tq = c3 := ⟨_, rfl⟩
  obtain ⟨d1, hd1⟩ : ∃ d1, str rh = d1 := ⟨_, rfl⟩
  obtain ⟨d2, hd2⟩ : ∃ d2, str rp = d2 := ⟨_, rfl⟩
  obtain ⟨d3, hd3⟩ : ∃ d3, str rq = d3 := ⟨_, rfl⟩
  rw [hc1] at hz1 hH1
  rw [hc2] at hz2 hH2
  rw [hc3] at hz3
  rw [hc1, hc2, hc3] at HX0 HNe HEq ⊢
  rw [hd1, hd2, hd3] at HPa HNe HEq
  have HST := hid hST
  subst hf
  subst hh
  have q1 : (c2.toList == (⟨#[47]⟩ : ByteArray).toList) = false := by rw [← hc2]; exact ne_list (str_ne (b := [47]) hp)
  have q2 : (c2.toList == [47]) = false := by
    rw [Lib.toList_data (⟨#[47]⟩ : ByteArray)] at q1
    exact q1
  clear hl hT0 hr hR hT hc1 hc2 hc3 hd1 hd2 hd3 hsz hST HTx hH1e hp hH2e
  by_cases hk : k = 0
  · subst hk
    have HA := hid (show ∀ (a : ByteArray) (b : Int), (R1, R2) = (T, 0) → a = H2 → b = 0 → Ending.returned (.tuple #[.string a, .int .i64 b]) = .returned (.tuple #[.string (str R1), .int .i64 (R2 : Int)]) from fun a b h e1 e2 => by
      simp only [Prod.mk.injEq] at h
      obtain ⟨rfl, rfl⟩ := h
      rw [e1, e2, HST.out]
      rfl)
    have HN := hid (show (R1, R2) = (([] : B), 23) → Ending.returned (.tuple #[.string ⟨#[]⟩, .int .i64 23]) = .returned (.tuple #[.string (str R1), .int .i64 (R2 : Int)]) from fun h => by
      simp only [Prod.mk.injEq] at h
      obtain ⟨rfl, rfl⟩ := h
      rfl)
    have HEq0 := hid (fun q => HEq.out q rfl)
    have HNe0 := hid (fun q => HNe.out q rfl)
    clear HEq HNe HKn
    cases rhs with
    | true =>
      go_enter Tryd.func14, Tryd.ntmps14
      go_wp2_with (go_at_call 10; (with_reducible refine (HPa.out _).mono ?_); rintro e w2 ⟨rfl, hb⟩; have HB2 := hid (show ∀ o, Below w.heap.size w (w2.alloc o) from fun o => below_out HX0.out.low (below_out hb (below_new w2 o))); have HXb := hid (HX0.out.below hb); obtain ⟨x0, x1, x2, x3, x4, xz⟩ := five ((below_new w2 (.cells #[.int .i64 rf, .string d1, .string d2, .string d3, .bool true] 28 (0, 0))).block _ (lt_of_heap HXb.out.box) |>.trans HXb.out.box); clear hb xz)
      all_goals go_ret2
      all_goals first
        | exact ⟨HA.out _ _ (HEq0.out ⟨tl_inj (by assumption), (by first | exact tl_inj (by assumption) | exact tl47 (by assumption)), tl_inj (by assumption), by assumption, (by first | rfl | trivial)⟩) rfl rfl, HB2.out _⟩
        | exact ⟨HN.out (HNe0.out (fun q => by first | exact absurd (congrArg ByteArray.toList q.1) (by assumption) | exact absurd (congrArg ByteArray.toList q.2.1) (by assumption) | exact absurd (of47 q.2.1) (by assumption) | exact absurd (congrArg ByteArray.toList q.2.2.1) (by assumption) | exact absurd q.2.2.2.1 (by assumption) | exact absurd q.2.2.2.2 (by decide) | exact q.2.2.2.2.elim)), HB2.out _⟩
    | false =>
      go_enter Tryd.func14, Tryd.ntmps14
      go_wp2_with (go_at_call 10; (with_reducible refine (HPa.out _).mono ?_); rintro e w2 ⟨rfl, hb⟩; have HB2 := hid (show ∀ o, Below w.heap.size w (w2.alloc o) from fun o => below_out HX0.out.low (below_out hb (below_new w2 o))); have HXb := hid (HX0.out.below hb); obtain ⟨x0, x1, x2, x3, x4, xz⟩ := five ((below_new w2 (.cells #[.int .i64 rf, .string d1, .string d2, .string d3, .bool false] 28 (0, 0))).block _ (lt_of_heap HXb.out.box) |>.trans HXb.out.box); clear hb xz)
      all_goals go_ret2
      all_goals first
        | exact ⟨HA.out _ _ (HEq0.out ⟨tl_inj (by assumption), (by first | exact tl_inj (by assumption) | exact tl47 (by assumption)), tl_inj (by assumption), by assumption, (by first | rfl | trivial)⟩) rfl rfl, HB2.out _⟩
        | exact ⟨HN.out (HNe0.out (fun q => by first | exact absurd (congrArg ByteArray.toList q.1) (by assumption) | exact absurd (congrArg ByteArray.toList q.2.1) (by assumption) | exact absurd (of47 q.2.1) (by assumption) | exact absurd (congrArg ByteArray.toList q.2.2.1) (by assumption) | exact absurd q.2.2.2.1 (by assumption) | exact absurd q.2.2.2.2 (by decide) | exact q.2.2.2.2.elim)), HB2.out _⟩
  · have hkz : ((k : Int) != 0) = true := by rw [bne_iff_ne]; omega
    have hkz2 : ((k : Int) == 0) = false := by rw [beq_eq_false_iff_ne]; omega
    have HV := HKn.out hk
    simp only [Prod.mk.injEq] at HV
    obtain ⟨rfl, rfl⟩ := HV
    go_enter Tryd.func14, Tryd.ntmps14
    go_wp2_with (go_at_call 10; (with_reducible refine (HPa.out _).mono ?_); rintro e w2 ⟨rfl, hb⟩; have HB2 := hid (show ∀ o, Below w.heap.size w (w2.alloc o) from fun o => below_out HX0.out.low (below_out hb (below_new w2 o))); have HXb := hid (HX0.out.below hb); obtain ⟨x0, x1, x2, x3, x4, xz⟩ := five ((below_new w2 (.cells #[.int .i64 rf, .string d1, .string d2, .string d3, .bool rhs] 28 (0, 0))).block _ (lt_of_heap HXb.out.box) |>.trans HXb.out.box); clear hb xz)
    go_ret2
    exact ⟨rfl, HB2.out _⟩
set_option maxRecDepth 20000 in
set_option maxHeartbeats 8000000 in
theorem rtext_none_q (tf : Int) (th tp tq : B) (ths : Bool) (hf1 : ¬ tf = 1) (hf2 : ¬ tf = 2) (hf3 : ¬ tf = 3) (hh : ths = true) (hsz : th.length + tp.length + tq.length ≤ 17592186044416) (w : World) : Calls Tryd.prog 14 #[tgV ⟨tf, th, tp, tq, ths⟩] w fun e w' => e = .returned (.tuple #[.string (str (textT ⟨tf, th, tp, tq, ths⟩).1), .int .i64 ((textT ⟨tf, th, tp, tq, ths⟩).2 : Int)]) ∧ Below w.heap.size w w' := by
  have hl := tell_len ⟨tf, th, tp, tq, ths⟩
  have hT0 : tellT ⟨tf, th, tp, tq, ths⟩ = ([]) ++ 63 :: tq := by unfold tellT; simp only [hh, if_true]; rw [if_neg hf3, if_neg hf1, if_neg hf2]
  have HPa := hid (rparse_any (tellT ⟨tf, th, tp, tq, ths⟩) (by simp only at hl; omega))
  have HTx := hid (show textT ⟨tf, th, tp, tq, ths⟩ = if (parseT (tellT ⟨tf, th, tp, tq, ths⟩)).2 ≠ 0 ∨ (parseT (tellT ⟨tf, th, tp, tq, ths⟩)).1 ≠ ⟨tf, th, tp, tq, ths⟩ then ([], 23) else (tellT ⟨tf, th, tp, tq, ths⟩, 0) from rfl)
  obtain ⟨R1, R2, hR⟩ : ∃ R1 R2, textT ⟨tf, th, tp, tq, ths⟩ = (R1, R2) := ⟨_, _, rfl⟩
  obtain ⟨r, k, hr⟩ : ∃ r k, parseT (tellT ⟨tf, th, tp, tq, ths⟩) = (r, k) := ⟨_, _, rfl⟩
  rw [hr] at HPa HTx
  rw [hR] at HTx ⊢
  dsimp only at HPa HTx ⊢
  obtain ⟨T, hT⟩ : ∃ T, tellT ⟨tf, th, tp, tq, ths⟩ = T := ⟨_, rfl⟩
  rw [hT] at HPa HTx hT0
  obtain ⟨rf, rh, rp, rq, rhs⟩ := r
  have HNe := hid (show ¬ (str rh = str th ∧ str rp = str tp ∧ str rq = str tq ∧ rf = tf ∧ rhs = ths) → k = 0 → (R1, R2) = (([] : B), 23) from fun q _ => by
    rw [HTx.out, if_pos (.inr (fun e => q (by simp only [TG.mk.injEq] at e; obtain ⟨rfl, rfl, rfl, rfl, rfl⟩ := e; exact ⟨rfl, rfl, rfl, rfl, rfl⟩)))])
  have HEq := hid (show (str rh = str th ∧ str rp = str tp ∧ str rq = str tq ∧ rf = tf ∧ rhs = ths) → k = 0 → (R1, R2) = (T, 0) from fun q hk => by
    rw [HTx.out, if_neg (by rintro (z | z); exact z hk; exact z (by rw [str_inj q.1, str_inj q.2.1, str_inj q.2.2.1, q.2.2.2.1, q.2.2.2.2]))])
  have HKn := hid (show k ≠ 0 → (R1, R2) = (([] : B), 23) from fun hk => by rw [HTx.out, if_pos (.inl hk)])
  have HX0 := hid (RX.start w #[.int .i64 tf, .string (str th), .string (str tp), .string (str tq), .bool ths])
  unfold tgV at HPa ⊢
  dsimp only at HPa ⊢
  have hz1 : (str th).size ≤ 17592186044416 := by rw [str_size]; omega
  have hz2 : (str tp).size ≤ 17592186044416 := by rw [str_size]; omega
  have hz3 : (str tq).size ≤ 17592186044416 := by rw [str_size]; omega
  obtain ⟨H3, hH3⟩ : ∃ H3, (⟨#[]⟩ : ByteArray) ++ ⟨#[63]⟩ = H3 := ⟨_, rfl⟩
  have hH3e : H3 = str (([]) ++ [63]) := by rw [← hH3]; exact str_app ([]) [63]
  have hH3s : H3.size ≤ 52776558133260 := by rw [hH3e, str_size]; simp
  obtain ⟨ST, hH4⟩ : ∃ ST, H3 ++ str tq = ST := ⟨_, rfl⟩
  have hST : str T = ST := by rw [← hH4, hH3e, str_app, hT0]; simp
  rw [hST] at HPa
  obtain ⟨c1, hc1⟩ : ∃ c1, str th = c1 := ⟨_, rfl⟩
  obtain ⟨c2, hc2⟩ : ∃ c2, str tp = c2 := ⟨_, rfl⟩
  obtain ⟨c3, hc3⟩ : ∃ c3, str tq = c3 := ⟨_, rfl⟩
  obtain ⟨d1, hd1⟩ : ∃ d1, str rh = d1 := ⟨_, rfl⟩
  obtain ⟨d2, hd2⟩ : ∃ d2, str rp = d2 := ⟨_, rfl⟩
  obtain ⟨d3, hd3⟩ : ∃ d3, str rq = d3 := ⟨_, rfl⟩
  rw [hc1] at hz1
  rw [hc2] at hz2
  rw [hc3] at hz3 hH4
  rw [hc1, hc2, hc3] at HX0 HNe HEq ⊢
  rw [hd1, hd2, hd3] at HPa HNe HEq
  have HST := hid hST
  have e1 : (tf == 1) = false := by simpa using hf1
  have e2 : (tf == 2) = false := by simpa using hf2
  have e3 : (tf == 3) = false := by simpa using hf3
  subst hh
  clear hl hT0 hr hR hT hc1 hc2 hc3 hd1 hd2 hd3 hsz hST HTx hf1 hf2 hf3 hH3e
  by_cases hk : k = 0
  · subst hk
    have HA := hid (show ∀ (a : ByteArray) (b : Int), (R1, R2) = (T, 0) → a = ST → b = 0 → Ending.returned (.tuple #[.string a, .int .i64 b]) = .returned (.tuple #[.string (str R1), .int .i64 (R2 : Int)]) from fun a b h e1 e2 => by
      simp only [Prod.mk.injEq] at h
      obtain ⟨rfl, rfl⟩ := h
      rw [e1, e2, HST.out]
      rfl)
    have HN := hid (show (R1, R2) = (([] : B), 23) → Ending.returned (.tuple #[.string ⟨#[]⟩, .int .i64 23]) = .returned (.tuple #[.string (str R1), .int .i64 (R2 : Int)]) from fun h => by
      simp only [Prod.mk.injEq] at h
      obtain ⟨rfl, rfl⟩ := h
      rfl)
    have HEq0 := hid (fun q => HEq.out q rfl)
    have HNe0 := hid (fun q => HNe.out q rfl)
    clear HEq HNe HKn
    cases rhs with
    | true =>
      go_enter Tryd.func14, Tryd.ntmps14
      go_wp2_with (go_at_call 10; (with_reducible refine (HPa.out _).mono ?_); rintro e w2 ⟨rfl, hb⟩; have HB2 := hid (show ∀ o, Below w.heap.size w (w2.alloc o) from fun o => below_out HX0.out.low (below_out hb (below_new w2 o))); have HXb := hid (HX0.out.below hb); obtain ⟨x0, x1, x2, x3, x4, xz⟩ := five ((below_new w2 (.cells #[.int .i64 rf, .string d1, .string d2, .string d3, .bool true] 28 (0, 0))).block _ (lt_of_heap HXb.out.box) |>.trans HXb.out.box); clear hb xz)
      all_goals go_ret2
      all_goals first
        | exact ⟨HA.out _ _ (HEq0.out ⟨tl_inj (by assumption), (by first | exact tl_inj (by assumption) | exact tl47 (by assumption)), tl_inj (by assumption), by assumption, (by first | rfl | trivial)⟩) rfl rfl, HB2.out _⟩
        | exact ⟨HN.out (HNe0.out (fun q => by first | exact absurd (congrArg ByteArray.toList q.1) (by assumption) | exact absurd (congrArg ByteArray.toList q.2.1) (by assumption) | exact absurd (of47 q.2.1) (by assumption) | exact absurd (congrArg ByteArray.toList q.2.2.1) (by assumption) | exact absurd q.2.2.2.1 (by assumption) | exact absurd q.2.2.2.2 (by decide) | exact q.2.2.2.2.elim)), HB2.out _⟩
    | false =>
      go_enter Tryd.func14, Tryd.ntmps14
      go_wp2_with (go_at_call 10; (with_reducible refine (HPa.out _).mono ?_); rintro e w2 ⟨rfl, hb⟩; have HB2 := hid (show ∀ o, Below w.heap.size w (w2.alloc o) from fun o => below_out HX0.out.low (below_out hb (below_new w2 o))); have HXb := hid (HX0.out.below hb); obtain ⟨x0, x1, x2, x3, x4, xz⟩ := five ((below_new w2 (.cells #[.int .i64 rf, .string d1, .string d2, .string d3, .bool false] 28 (0, 0))).block _ (lt_of_heap HXb.out.box) |>.trans HXb.out.box); clear hb xz)
      all_goals go_ret2
      all_goals first
        | exact ⟨HA.out _ _ (HEq0.out ⟨tl_inj (by assumption), (by first | exact tl_inj (by assumption) | exact tl47 (by assumption)), tl_inj (by assumption), by assumption, (by first | rfl | trivial)⟩) rfl rfl, HB2.out _⟩
        | exact ⟨HN.out (HNe0.out (fun q => by first | exact absurd (congrArg ByteArray.toList q.1) (by assumption) | exact absurd (congrArg ByteArray.toList q.2.1) (by assumption) | exact absurd (of47 q.2.1) (by assumption) | exact absurd (congrArg ByteArray.toList q.2.2.1) (by assumption) | exact absurd q.2.2.2.1 (by assumption) | exact absurd q.2.2.2.2 (by decide) | exact q.2.2.2.2.elim)), HB2.out _⟩
  · have hkz : ((k : Int) != 0) = true := by rw [bne_iff_ne]; omega
    have hkz2 : ((k : Int) == 0) = false := by rw [beq_eq_false_iff_ne]; omega
    have HV := HKn.out hk
    simp only [Prod.mk.injEq] at HV
    obtain ⟨rfl, rfl⟩ := HV
    go_enter Tryd.func14, Tryd.ntmps14
    go_wp2_with (go_at_call 10; (with_reducible refine (HPa.out _).mono ?_); rintro e w2 ⟨rfl, hb⟩; have HB2 := hid (show ∀ o, Below w.heap.size w (w2.alloc o) from fun o => below_out HX0.out.low (below_out hb (below_new w2 o))); have HXb := hid (HX0.out.below hb); obtain ⟨x0, x1, x2, x3, x4, xz⟩ := five ((below_new w2 (.cells #[.int .i64 rf, .string d1, .string d2, .string d3, .bool rhs] 28 (0, 0))).block _ (lt_of_heap HXb.out.box) |>.trans HXb.out.box); clear hb xz)
    go_ret2
    exact ⟨rfl, HB2.out _⟩
set_option maxRecDepth 20000 in
set_option maxHeartbeats 8000000 in
theorem rtext_none_n (tf : Int) (th tp tq : B) (ths : Bool) (hf1 : ¬ tf = 1) (hf2 : ¬ tf = 2) (hf3 : ¬ tf = 3) (hh : ths = false) (hsz : th.length + tp.length + tq.length ≤ 17592186044416) (w : World) : Calls Tryd.prog 14 #[tgV ⟨tf, th, tp, tq, ths⟩] w fun e w' => e = .returned (.tuple #[.string (str (textT ⟨tf, th, tp, tq, ths⟩).1), .int .i64 ((textT ⟨tf, th, tp, tq, ths⟩).2 : Int)]) ∧ Below w.heap.size w w' := by
  have hl := tell_len ⟨tf, th, tp, tq, ths⟩
  have hT0 : tellT ⟨tf, th, tp, tq, ths⟩ = [] := by unfold tellT; simp only [hh, Bool.false_eq_true, if_false, List.append_nil]; rw [if_neg hf3, if_neg hf1, if_neg hf2]
  have HPa := hid (rparse_any (tellT ⟨tf, th, tp, tq, ths⟩) (by simp only at hl; omega))
  have HTx := hid (show textT ⟨tf, th, tp, tq, ths⟩ = if (parseT (tellT ⟨tf, th, tp, tq, ths⟩)).2 ≠ 0 ∨ (parseT (tellT ⟨tf, th, tp, tq, ths⟩)).1 ≠ ⟨tf, th, tp, tq, ths⟩ then ([], 23) else (tellT ⟨tf, th, tp, tq, ths⟩, 0) from rfl)
  obtain ⟨R1, R2, hR⟩ : ∃ R1 R2, textT ⟨tf, th, tp, tq, ths⟩ = (R1, R2) := ⟨_, _, rfl⟩
  obtain ⟨r, k, hr⟩ : ∃ r k, parseT (tellT ⟨tf, th, tp, tq, ths⟩) = (r, k) := ⟨_, _, rfl⟩
  rw [hr] at HPa HTx
  rw [hR] at HTx ⊢
  dsimp only at HPa HTx ⊢
  obtain ⟨T, hT⟩ : ∃ T, tellT ⟨tf, th, tp, tq, ths⟩ = T := ⟨_, rfl⟩
  rw [hT] at HPa HTx hT0
  obtain ⟨rf, rh, rp, rq, rhs⟩ := r
  have HNe := hid (show ¬ (str rh = str th ∧ str rp = str tp ∧ str rq = str tq ∧ rf = tf ∧ rhs = ths) → k = 0 → (R1, R2) = (([] : B), 23) from fun q _ => by
    rw [HTx.out, if_pos (.inr (fun e => q (by simp only [TG.mk.injEq] at e; obtain ⟨rfl, rfl, rfl, rfl, rfl⟩ := e; exact ⟨rfl, rfl, rfl, rfl, rfl⟩)))])
  have HEq := hid (show (str rh = str th ∧ str rp = str tp ∧ str rq = str tq ∧ rf = tf ∧ rhs = ths) → k = 0 → (R1, R2) = (T, 0) from fun q hk => by
    rw [HTx.out, if_neg (by rintro (z | z); exact z hk; exact z (by rw [str_inj q.1, str_inj q.2.1, str_inj q.2.2.1, q.2.2.2.1, q.2.2.2.2]))])
  have HKn := hid (show k ≠ 0 → (R1, R2) = (([] : B), 23) from fun hk => by rw [HTx.out, if_pos (.inl hk)])
  have HX0 := hid (RX.start w #[.int .i64 tf, .string (str th), .string (str tp), .string (str tq), .bool ths])
  unfold tgV at HPa ⊢
  dsimp only at HPa ⊢
  have hz1 : (str th).size ≤ 17592186044416 := by rw [str_size]; omega
  have hz2 : (str tp).size ≤ 17592186044416 := by rw [str_size]; omega
  have hz3 : (str tq).size ≤ 17592186044416 := by rw [str_size]; omega
  have hST : str T = ⟨#[]⟩ := by rw [hT0]
  rw [hST] at HPa
  obtain ⟨c1, hc1⟩ : ∃ c1, str th = c1 := ⟨_, rfl⟩
  obtain ⟨c2, hc2⟩ : ∃ c2, str tp = c2 := ⟨_, rfl⟩
  obtain ⟨c3, hc3⟩ : ∃ c3, str tq = c3 := ⟨_, rfl⟩
  obtain ⟨d1, hd1⟩ : ∃ d1, str rh = d1 := ⟨_, rfl⟩
  obtain ⟨d2, hd2⟩ : ∃ d2, str rp = d2 := ⟨_, rfl⟩
  obtain ⟨d3, hd3⟩ : ∃ d3, str rq = d3 := ⟨_, rfl⟩
  rw [hc1] at hz1
  rw [hc2] at hz2
  rw [hc3] at hz3
  rw [hc1, hc2, hc3] at HX0 HNe HEq ⊢
  rw [hd1, hd2, hd3] at HPa HNe HEq
  have HST := hid hST
  have e1 : (tf == 1) = false := by simpa using hf1
  have e2 : (tf == 2) = false := by simpa using hf2
  have e3 : (tf == 3) = false := by simpa using hf3
  subst hh
  clear hl hT0 hr hR hT hc1 hc2 hc3 hd1 hd2 hd3 hsz hST HTx hf1 hf2 hf3
  by_cases hk : k = 0
  · subst hk
    have HA := hid (show ∀ (a : ByteArray) (b : Int), (R1, R2) = (T, 0) → a = ⟨#[]⟩ → b = 0 → Ending.returned (.tuple #[.string a, .int .i64 b]) = .returned (.tuple #[.string (str R1), .int .i64 (R2 : Int)]) from fun a b h e1 e2 => by
      simp only [Prod.mk.injEq] at h
      obtain ⟨rfl, rfl⟩ := h
      rw [e1, e2, HST.out]
      rfl)
    have HN := hid (show (R1, R2) = (([] : B), 23) → Ending.returned (.tuple #[.string ⟨#[]⟩, .int .i64 23]) = .returned (.tuple #[.string (str R1), .int .i64 (R2 : Int)]) from fun h => by
      simp only [Prod.mk.injEq] at h
      obtain ⟨rfl, rfl⟩ := h
      rfl)
    have HEq0 := hid (fun q => HEq.out q rfl)
    have HNe0 := hid (fun q => HNe.out q rfl)
    clear HEq HNe HKn
    cases rhs with
    | true =>
      go_enter Tryd.func14, Tryd.ntmps14
      go_wp2_with (go_at_call 10; (with_reducible refine (HPa.out _).mono ?_); rintro e w2 ⟨rfl, hb⟩; have HB2 := hid (show ∀ o, Below w.heap.size w (w2.alloc o) from fun o => below_out HX0.out.low (below_out hb (below_new w2 o))); have HXb := hid (HX0.out.below hb); obtain ⟨x0, x1, x2, x3, x4, xz⟩ := five ((below_new w2 (.cells #[.int .i64 rf, .string d1, .string d2, .string d3, .bool true] 28 (0, 0))).block _ (lt_of_heap HXb.out.box) |>.trans HXb.out.box); clear hb xz)
      all_goals go_ret2
      all_goals first
        | exact ⟨HA.out _ _ (HEq0.out ⟨tl_inj (by assumption), (by first | exact tl_inj (by assumption) | exact tl47 (by assumption)), tl_inj (by assumption), by assumption, (by first | rfl | trivial)⟩) rfl rfl, HB2.out _⟩
        | exact ⟨HN.out (HNe0.out (fun q => by first | exact absurd (congrArg ByteArray.toList q.1) (by assumption) | exact absurd (congrArg ByteArray.toList q.2.1) (by assumption) | exact absurd (of47 q.2.1) (by assumption) | exact absurd (congrArg ByteArray.toList q.2.2.1) (by assumption) | exact absurd q.2.2.2.1 (by assumption) | exact absurd q.2.2.2.2 (by decide) | exact q.2.2.2.2.elim)), HB2.out _⟩
    | false =>
      go_enter Tryd.func14, Tryd.ntmps14
      go_wp2_with (go_at_call 10; (with_reducible refine (HPa.out _).mono ?_); rintro e w2 ⟨rfl, hb⟩; have HB2 := hid (show ∀ o, Below w.heap.size w (w2.alloc o) from fun o => below_out HX0.out.low (below_out hb (below_new w2 o))); have HXb := hid (HX0.out.below hb); obtain ⟨x0, x1, x2, x3, x4, xz⟩ := five ((below_new w2 (.cells #[.int .i64 rf, .string d1, .string d2, .string d3, .bool false] 28 (0, 0))).block _ (lt_of_heap HXb.out.box) |>.trans HXb.out.box); clear hb xz)
      all_goals go_ret2
      all_goals first
        | exact ⟨HA.out _ _ (HEq0.out ⟨tl_inj (by assumption), (by first | exact tl_inj (by assumption) | exact tl47 (by assumption)), tl_inj (by assumption), by assumption, (by first | rfl | trivial)⟩) rfl rfl, HB2.out _⟩
        | exact ⟨HN.out (HNe0.out (fun q => by first | exact absurd (congrArg ByteArray.toList q.1) (by assumption) | exact absurd (congrArg ByteArray.toList q.2.1) (by assumption) | exact absurd (of47 q.2.1) (by assumption) | exact absurd (congrArg ByteArray.toList q.2.2.1) (by assumption) | exact absurd q.2.2.2.1 (by assumption) | exact absurd q.2.2.2.2 (by decide) | exact q.2.2.2.2.elim)), HB2.out _⟩
  · have hkz : ((k : Int) != 0) = true := by rw [bne_iff_ne]; omega
    have hkz2 : ((k : Int) == 0) = false := by rw [beq_eq_false_iff_ne]; omega
    have HV := HKn.out hk
    simp only [Prod.mk.injEq] at HV
    obtain ⟨rfl, rfl⟩ := HV
    go_enter Tryd.func14, Tryd.ntmps14
    go_wp2_with (go_at_call 10; (with_reducible refine (HPa.out _).mono ?_); rintro e w2 ⟨rfl, hb⟩; have HB2 := hid (show ∀ o, Below w.heap.size w (w2.alloc o) from fun o => below_out HX0.out.low (below_out hb (below_new w2 o))); have HXb := hid (HX0.out.below hb); obtain ⟨x0, x1, x2, x3, x4, xz⟩ := five ((below_new w2 (.cells #[.int .i64 rf, .string d1, .string d2, .string d3, .bool rhs] 28 (0, 0))).block _ (lt_of_heap HXb.out.box) |>.trans HXb.out.box); clear hb xz)
    go_ret2
    exact ⟨rfl, HB2.out _⟩
theorem rtext_any (t : TG) (hsz : t.host.length + t.path.length + t.query.length ≤ 17592186044416) (w : World) : Calls Tryd.prog 14 #[tgV t] w fun e w' => e = .returned (.tuple #[.string (str (textT t).1), .int .i64 ((textT t).2 : Int)]) ∧ Below w.heap.size w w' := by
  obtain ⟨tf, th, tp, tq, ths⟩ := t
  by_cases h3 : tf = 3
  · cases hh : ths with
    | true => exact rtext_star_q tf th tp tq true h3 rfl hsz w
    | false => exact rtext_star_n tf th tp tq false h3 rfl hsz w
  · by_cases h1 : tf = 1
    · cases hh : ths with
      | true => exact rtext_path_q tf th tp tq true h1 rfl hsz w
      | false => exact rtext_path_n tf th tp tq false h1 rfl hsz w
    · by_cases h2 : tf = 2
      · by_cases hp : tp = [47]
        · cases hh : ths with
          | true => exact rtext_root_q tf th tp tq true h2 hp rfl hsz w
          | false => exact rtext_root_n tf th tp tq false h2 hp rfl hsz w
        · cases hh : ths with
          | true => exact rtext_full_q tf th tp tq true h2 hp rfl hsz w
          | false => exact rtext_full_n tf th tp tq false h2 hp rfl hsz w
      · cases hh : ths with
        | true => exact rtext_none_q tf th tp tq true h1 h2 h3 rfl hsz w
        | false => exact rtext_none_n tf th tp tq false h1 h2 h3 rfl hsz w
end Go.Proofs.YtbdbmlklijmefaaDoor
