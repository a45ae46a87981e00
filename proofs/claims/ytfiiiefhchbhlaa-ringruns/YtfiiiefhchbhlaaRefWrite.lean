/- The document's Write of a ring. -/
import Derived.Test.YtfiiiefhchbhlaaRefRead
namespace Go.Proofs.Ytfiiiefhchbhlaa
open Go.RowKit

theorem Mine.owns {w w' : World} {pa : Option Addr} {cap : Nat} {bs : List Int} (h : Mine w w' pa cap bs) : w'.ownsRow w.heap.size 5 1 (.slice pa bs.length cap) bs.length (bs.map (Value.int .u8)) := by
  refine ⟨by simp, ?_⟩
  cases pa with
  | none => obtain ⟨rfl, rfl⟩ := h.nothing rfl; exact .inl ⟨rfl, rfl⟩
  | some a =>
    obtain ⟨b, cur, rfl, h1, h2, h3, h4⟩ := h.row a rfl
    exact .inr ⟨b, cap, cur, rfl, h1, h2, h.fits, h.most, by simpa using h3, by simpa using h4⟩
/-- append to a slice of one's own, as a step of a region that draws its order. -/
theorem step_append_mine {ops : Array Oper} {o : Oper} {a : Act} {w0 w : World} {K : Act → World → Prop} {Q : Exit → Act → World → Prop} {E : Prop} (hgd : o.guard = none) (s x : Operand)
    (ho : o.op = .call { callee := .builtin .append, args := #[s, x], argTypes := #[28, 28] })
    (pa : Option Addr) (N cap : Nat) (hs : a.eval s = .slice pa N cap) (q : List Int) (hN : q.length = N) (hm : Mine w0 w pa cap q) (v : Value) (hx : a.eval x = v) (ys : List Int) (hv : ArgAt w v ys) (M : Nat) (hM : (q ++ ys).length = M) (hlen : M ≤ 140737488355328)
    (h : ∀ pa' cap' w', Mine w0 w' pa' cap' (q ++ ys) → K (a.put o.dst (.slice pa' M cap')) w') :
    if Region.wanted o (yielded ops a.tmps) = true then Oper.wp Try.prog o a w K Q else E := by
  have hw : Region.wanted o (yielded ops a.tmps) = true := by simp [Region.wanted, hgd]
  rw [if_pos hw]
  subst hM
  subst hN
  obtain ⟨i, h2, h3, h4, h5⟩ := info_parts info5
  have hu : Try.prog.underlying 28 = some (.slice 5) := by kernel_rfl
  have hown := hm.owns
  have hsz := hm.below.size
  rcases hv with ⟨rfl, rfl⟩ | ⟨b, p, c, h6, rfl, h7, h8, h9⟩
  · have hrun := run_append_owned_none (P := Try.prog) (w := w) w0.heap.size 28 o.type 5 i 1 hu h2 _ _ _ hown
    unfold Oper.wp
    simp [execOp, ho, resolve, invoke, builtin, hs, hx, hrun, Result.andThen]
    have h10 : K (a.put o.dst (.slice pa q.length cap)) w := by
      have := h pa cap w (by simpa using hm)
      simpa using this
    exact h10
  · refine wp_append_own w s x 28 ho w0.heap.size 5 i (.int .u8 0) 1 1 hu h2 h3 h4 h5 rfl (by decide) _ _ _ hs hown ⟨b, p, none⟩ ys.length c (ys.map (Value.int .u8)) hx (by simp)
      (by
        intro j u hj
        simp only [List.getElem?_map, Option.map_eq_some_iff] at hj
        obtain ⟨y, hy, rfl⟩ := hj
        have hplain : (⟨b, p, none⟩ : Addr).add j = ⟨b, p + j, none⟩ := by unfold Addr.add; split <;> simp_all
        rw [hplain]
        exact h9 j y hy) (oneCell_bytes ys) (by have := hm.most; simp at hlen; unfold maxLen; omega) (by simp at hlen; omega) hsz ?_
    intro v' w' hown' hgrow _
    have hb : Below w0.heap.size w0 w' := hm.below.grown hgrow hsz (fun k hk => (hown.lt k hk).1)
    rw [← List.map_append, ← List.length_append] at hown'
    obtain ⟨pa', cap', rfl, hm'⟩ := mine_of hown' hb
    exact h pa' cap' w' hm'
/-- What the document's Write leaves. -/
structure WriteP (r g : Nat) (w w' : World) (v' : Value) (q : List Int) : Prop where
  below : Below w.heap.size w w'
  ring : QAt r g w' v' q
theorem Mine.drew {w w' : World} {pa : Option Addr} {cap : Nat} {bs : List Int} (h : Mine w w' pa cap bs) : Mine w w'.drew pa cap bs := ⟨h.below.drew, h.fits, h.most, h.nothing, h.row⟩
theorem writeP_mk {r g : Nat} {w w2 : World} {x y : Obj} {cap : Nat} {q : List Int} {pa : Option Addr} (hr : r < w.heap.size) (hg : g < w.heap.size)
    (hm : Mine ((w.alloc x).alloc y) w2 pa cap q) (A B : Value) :
    WriteP r g w ((w2.setCell ⟨w.heap.size + 1, 0, none⟩ A).setCell ⟨w.heap.size + 1, 1, none⟩ B) (.slice pa q.length cap) q := by
  have hbel : Below w.heap.size w ((w2.setCell ⟨w.heap.size + 1, 0, none⟩ A).setCell ⟨w.heap.size + 1, 1, none⟩ B) :=
    (((two_below w x y).trans (hm.below.mono (by simp; omega))).setCell (by show _ ≤ w.heap.size + 1; omega) _).setCell (by show _ ≤ w.heap.size + 1; omega) _
  refine ⟨hbel, ?_⟩
  cases pa with
  | none => obtain ⟨rfl, rfl⟩ := hm.nothing rfl; exact .inl ⟨rfl, rfl⟩
  | some ad =>
    obtain ⟨b2, cur, rfl, h3, h4, h5, h6⟩ := hm.row ad rfl
    have hb2 : w.heap.size + 2 ≤ b2 := by have := h3; simp at this; omega
    rcases hm.arg with ⟨hv, _⟩ | ⟨b3, o3, c3, h7, h8, h9, h10, h11⟩
    · simp at hv
    · simp only [Value.slice.injEq, Option.some.injEq] at h8
      obtain ⟨e1, e2, e3⟩ := h8
      cases e1
      refine .inr ⟨b2, 0, cap, ⟨Nat.lt_of_lt_of_le h7 (by simp [World.setCell]), by omega, by omega⟩, rfl, hm.fits, hm.most, h11.of_heap ?_⟩
      rw [Below.heap_setCell _ _ _ _ (by show b2 ≠ w.heap.size + 1; omega), Below.heap_setCell _ _ _ _ (by show b2 ≠ w.heap.size + 1; omega)]
set_option maxHeartbeats 2000000 in
theorem refWrite_some (r g S N c R nb cb m b o : Nat) (pv : Option Addr) (q bs : List Int) (w : World) (hr : r < w.heap.size) (hg : g < w.heap.size) (hN : q.length = N) (hNS : N ≤ S) (hS : S ≤ 1048576) (HR : Hid ((S : Int) - N = R)) (hv : ArgAt w (.slice pv N c) q) (hvb : ArgAt w (.slice (some ⟨b, o, none⟩) nb cb) bs) (hnb : bs.length = nb) (hnc : nb ≤ cb) (hcm : cb ≤ maxLen) (hm : (m = nb ∧ nb ≤ R) ∨ (m = R ∧ R < nb)) :
    Calls Try.prog 22 #[.agg #[.int .i64 S, .slice pv N c], .slice (some ⟨b, o, none⟩) nb cb] w fun e w' => ∃ v', e = .returned (.tuple #[.agg #[.int .i64 S, v'], .int .i64 m]) ∧ WriteP r g w w' v' (q ++ bs.take m) := by
  unfold maxLen at hcm
  have hRS : R ≤ S := by have := HR.out; omega
  have hmn : m ≤ nb := by omega
  have hmR : m ≤ R := by omega
  have HN := hid hN
  have HV := hid hv
  have HT := hid (hvb.take hnb m hmn)
  have HL : Hid ((q ++ bs.take m).length = N + m) := by show _ = _; simp; omega
  have HG : Hid (r < w.heap.size ∧ g < w.heap.size) := ⟨hr, hg⟩
  have hi1 : (0 : Int) ≤ m := by omega
  have hi2 : (m : Int) ≤ cb := by omega
  have hi3 : (nb : Int) ≤ cb := by omega
  have hi4 : (N : Int) ≤ S := by omega
  have hsub : (S : Int) - N = R := HR.out
  clear hv hvb hN hr hg
  have hmin : (m = nb ∧ ((nb : Int) ≤ R)) ∨ (m = R ∧ (R : Int) < nb) := by omega
  clear hm
  rcases hmin with ⟨rfl, hm⟩ | ⟨rfl, hm⟩
  all_goals
    go_enter Try.func22, Try.ntmps22
    go_wp2_with (at_builtin; refine wpList_append_bytes rfl _ _ rfl rfl _ rfl q (HV.out.below (two_below _ _ _)) (by rw [HN.out]; omega) ?_; intro pa cap w2 hm2; have HM := hid hm2; obtain ⟨c0, c1, d0, d1, fz⟩ := box_cells _ _ (by have := hm2.below; simpa using this); have f0 := fz 0; have f1 := fz 1; clear hm2 fz d0 d1 f0 f1; rw [HN.out])
    have HAT := hid (HT.out.below (two_below w (.cells #[.int .i64 S, .slice pv N c] 30) (.cells #[.int .i64 0, .slice none 0 0] 30)))
    have HA2 := hid (HAT.out.below HM.out.drew.below)
    go_region_held3 (fun w3 => w3.cell? ⟨w.heap.size, 0, none⟩ = some (.int .i64 S)) (first | assumption | go_keep)
      ((refine step_append_mine rfl _ _ rfl pa N cap rfl q HN.out HM.out.drew _ rfl (bs.take m) HA2.out (N + m) HL.out (by omega) ?_; intro pa3 cap3 w3 hm3; have HM3 := hid hm3; obtain ⟨e0, e1, d0, d1, fz⟩ := box_cells _ _ (by have := hm3.below; simpa using this); have f0 := fz 0; have f1 := fz 1; clear hm3 fz))
    go_wp2
    all_goals
      refine bodyPost_ret (v := .tuple #[.agg #[.int .i64 S, _], .int .i64 m]) (by simp [results, go_sem, d0, d1]; rfl) rfl ⟨_, rfl, ?_⟩
      have h9 := writeP_mk (r := r) (g := g) HG.out.1 HG.out.2 HM3.out (.int .i64 S) (.slice pa3 (N + m) cap3)
      rw [HL.out] at h9
      exact h9
set_option maxHeartbeats 2000000 in
theorem refWrite_nil (r g S N c R : Nat) (pv : Option Addr) (q : List Int) (w : World) (hr : r < w.heap.size) (hg : g < w.heap.size) (hN : q.length = N) (hNS : N ≤ S) (hS : S ≤ 1048576) (HR : Hid ((S : Int) - N = R)) (hv : ArgAt w (.slice pv N c) q) :
    Calls Try.prog 22 #[.agg #[.int .i64 S, .slice pv N c], .slice none 0 0] w fun e w' => ∃ v', e = .returned (.tuple #[.agg #[.int .i64 S, v'], .int .i64 0]) ∧ WriteP r g w w' v' q := by
  have hRS : R ≤ S := by have := HR.out; omega
  have HN := hid hN
  have HV := hid hv
  have HL : Hid ((q ++ ([] : List Int)).length = N) := by show _ = _; simpa using hN
  have HG : Hid (r < w.heap.size ∧ g < w.heap.size) := ⟨hr, hg⟩
  have hi4 : (N : Int) ≤ S := by omega
  have hi5 : (0 : Int) ≤ R := by omega
  have hsub : (S : Int) - N = R := HR.out
  clear hv hN hr hg
  go_enter Try.func22, Try.ntmps22
  go_wp2_with (at_builtin; refine wpList_append_bytes rfl _ _ rfl rfl _ rfl q (HV.out.below (two_below _ _ _)) (by rw [HN.out]; omega) ?_; intro pa cap w2 hm2; have HM := hid hm2; obtain ⟨c0, c1, d0, d1, fz⟩ := box_cells _ _ (by have := hm2.below; simpa using this); have f0 := fz 0; have f1 := fz 1; clear hm2 fz d0 d1 f0 f1; rw [HN.out])
  go_region_held3 (fun w3 => w3.cell? ⟨w.heap.size, 0, none⟩ = some (.int .i64 S)) (first | assumption | go_keep)
    ((refine step_append_mine rfl _ _ rfl pa N cap rfl q HN.out HM.out.drew _ rfl [] (.inl ⟨rfl, rfl⟩) N HL.out (by omega) ?_; intro pa3 cap3 w3 hm3; have HM3 := hid hm3; obtain ⟨e0, e1, d0, d1, fz⟩ := box_cells _ _ (by have := hm3.below; simpa using this); have f0 := fz 0; have f1 := fz 1; clear hm3 fz))
  go_wp2
  refine bodyPost_ret (v := .tuple #[.agg #[.int .i64 S, _], .int .i64 0]) (by simp [results, go_sem, d0, d1]; rfl) rfl ⟨_, rfl, ?_⟩
  have h9 := writeP_mk (r := r) (g := g) HG.out.1 HG.out.2 HM3.out (.int .i64 S) (.slice pa3 N cap3)
  rw [HL.out] at h9
  simpa using h9
theorem ArgAt.slice {w : World} {v : Value} {q : List Int} (h : ArgAt w v q) : ∃ pv c, v = .slice pv q.length c := by
  rcases h with ⟨rfl, rfl⟩ | ⟨b, o, cap, h1, rfl, h3, h4, h5⟩
  · exact ⟨none, 0, rfl⟩
  · exact ⟨_, _, rfl⟩
theorem refWrite_any (r g S : Nat) {v vb : Value} {q bs : List Int} (w : World) (hr : r < w.heap.size) (hg : g < w.heap.size) (hNS : q.length ≤ S) (hS : S ≤ 1048576) (hv : ArgAt w v q) (hvb : ArgAt w vb bs) (m : Nat) (hm : m = min bs.length (S - q.length)) :
    Calls Try.prog 22 #[.agg #[.int .i64 S, v], vb] w fun e w' => ∃ v', e = .returned (.tuple #[.agg #[.int .i64 S, v'], .int .i64 m]) ∧ WriteP r g w w' v' (q ++ bs.take m) := by
  obtain ⟨pv, c, rfl⟩ := hv.slice
  have HR : Hid ((S : Int) - q.length = ((S - q.length : Nat) : Int)) := by show _ = _; omega
  rcases hvb with ⟨rfl, rfl⟩ | ⟨b, o, cb, h1, rfl, h3, h4, h5⟩
  · obtain rfl : m = 0 := by simpa using hm
    refine (refWrite_nil r g S q.length c _ pv q w hr hg rfl hNS hS HR hv).mono ?_
    rintro e w' ⟨v', rfl, h⟩
    exact ⟨v', rfl, by simpa using h⟩
  · exact refWrite_some r g S q.length c _ bs.length cb m b o pv q bs w hr hg rfl hNS hS HR hv (.inr ⟨b, o, cb, h1, rfl, h3, h4, h5⟩) rfl h3 h4 (by rw [hm]; simp only [Nat.min_def]; split <;> omega)
end Go.Proofs.Ytfiiiefhchbhlaa
