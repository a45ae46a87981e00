/- Bytes of an act: a slice in memory, or an empty one with no room that lies anywhere. -/
import Derived.Test.YtfiiiefhchbhlaaRefWrite
namespace Go.Proofs.Ytfiiiefhchbhlaa
open Go.RowKit

/-- The bytes of an act. -/
def VbAt (r g : Nat) (w : World) (v : Value) (bs : List Int) : Prop := QAt r g w v bs ∨ ∃ a, v = .slice (some a) 0 0 ∧ bs = []
theorem VbAt.turn {r g : Nat} {w w' : World} {v : Value} {bs : List Int} (h : VbAt r g w v bs) (ht : Turn r g w w') : VbAt r g w' v bs := by
  rcases h with h | h
  · exact .inl (h.turn ht)
  · exact .inr h
theorem VbAt.below {r g : Nat} {w w' : World} {v : Value} {bs : List Int} (h : VbAt r g w v bs) (hb : Below w.heap.size w w') : VbAt r g w' v bs := h.turn (Turn.of_below hb)
theorem VbAt.conv {r g : Nat} {w : World} {v : Value} {bs : List Int} (h : VbAt r g w v bs) : (convert 28 9 v).run Try.prog w = .ok (.string (strOfNums bs)) w := by
  rcases h with h | ⟨a, rfl, rfl⟩
  · exact h.arg.conv
  · rw [run_convert_bytes_string w 28 9 5 _ 0 0 (by kernel_rfl) (by kernel_rfl) (by kernel_rfl)]
    simp [Conv.bytesToString, loadCells, loadCellsFrom, strOfNums]
    rfl
theorem wpList_append_vb {r g : Nat} {w : World} {ops : Array Oper} {rest : List Oper} {o : Oper} {a : Act} {Q : Exit → Act → World → Prop} (hgd : o.guard = none) (s x : Operand)
    (ho : o.op = .call { callee := .builtin .append, args := #[s, x], argTypes := #[28, 28] })
    (hs : a.eval s = .slice none 0 0) (v : Value) (hx : a.eval x = v) (bs : List Int) (hv : VbAt r g w v bs) (hlen : bs.length ≤ 140737488355328)
    (h : ∀ pa cap w', Mine w w' pa cap bs → wpList Try.prog ops Q rest (a.put o.dst (.slice pa bs.length cap)) w') : wpList Try.prog ops Q (o :: rest) a w := by
  rcases hv with hv | ⟨ad, rfl, rfl⟩
  · exact wpList_append_bytes hgd s x ho hs v hx bs hv.arg hlen h
  · obtain ⟨i, h2, h3, h4, h5⟩ := info_parts info5
    have hu : Try.prog.underlying 28 = some (.slice 5) := by kernel_rfl
    have hnil := World.ownsRow_nil w w.heap.size 5 1
    refine wpList_append_own w hgd s x 28 ho w.heap.size 5 i (.int .u8 0) 1 1 hu h2 h3 h4 h5 rfl (by decide) _ _ _ hs hnil ad 0 0 [] hx rfl (fun j u hj => by simp at hj) (fun u hu => by simp at hu) (by unfold maxLen; omega) (by omega) (Nat.le_refl _) ?_
    intro v' w' hown hgrow _
    have hb : Below w.heap.size w w' := (Below.refl _ _).grown hgrow (Nat.le_refl _) (fun k hk => by simp [Value.ownBlock] at hk)
    obtain ⟨pa, cap', rfl, hm⟩ := mine_of (bs := []) hown hb
    exact h pa cap' w' hm
theorem step_append_e {ops : Array Oper} {o : Oper} {a : Act} {w0 w : World} {K : Act → World → Prop} {Q : Exit → Act → World → Prop} {E : Prop} (hgd : o.guard = none) (s x : Operand)
    (ho : o.op = .call { callee := .builtin .append, args := #[s, x], argTypes := #[28, 28] })
    (pa : Option Addr) (N cap : Nat) (hs : a.eval s = .slice pa N cap) (q : List Int) (hN : q.length = N) (hm : Mine w0 w pa cap q) (ad : Addr) (hx : a.eval x = .slice (some ad) 0 0) (hlen : N ≤ 140737488355328)
    (h : ∀ pa' cap' w', Mine w0 w' pa' cap' q → K (a.put o.dst (.slice pa' N cap')) w') :
    if Region.wanted o (yielded ops a.tmps) = true then Oper.wp Try.prog o a w K Q else E := by
  have hw : Region.wanted o (yielded ops a.tmps) = true := by simp [Region.wanted, hgd]
  rw [if_pos hw]
  subst hN
  obtain ⟨i, h2, h3, h4, h5⟩ := info_parts info5
  have hu : Try.prog.underlying 28 = some (.slice 5) := by kernel_rfl
  have hown := hm.owns
  have hsz := hm.below.size
  refine wp_append_own w s x 28 ho w0.heap.size 5 i (.int .u8 0) 1 1 hu h2 h3 h4 h5 rfl (by decide) _ _ _ hs hown ad 0 0 [] hx rfl (fun j u hj => by simp at hj) (fun u hu => by simp at hu) (by have := hm.most; unfold maxLen; omega) (by omega) hsz ?_
  intro v' w' hown' hgrow _
  have hb : Below w0.heap.size w0 w' := hm.below.grown hgrow hsz (fun k hk => (hown.lt k hk).1)
  rw [List.append_nil, Nat.add_zero] at hown'
  obtain ⟨pa', cap', rfl, hm'⟩ := mine_of hown' hb
  exact h pa' cap' w' hm'
set_option maxHeartbeats 2000000 in
theorem refWrite_e (r g S N c R : Nat) (ad : Addr) (pv : Option Addr) (q : List Int) (w : World) (hr : r < w.heap.size) (hg : g < w.heap.size) (hN : q.length = N) (hNS : N ≤ S) (hS : S ≤ 1048576) (HR : Hid ((S : Int) - N = R)) (hv : ArgAt w (.slice pv N c) q) :
    Calls Try.prog 22 #[.agg #[.int .i64 S, .slice pv N c], .slice (some ad) 0 0] w fun e w' => ∃ v', e = .returned (.tuple #[.agg #[.int .i64 S, v'], .int .i64 0]) ∧ WriteP r g w w' v' q := by
  have hRS : R ≤ S := by have := HR.out; omega
  have HN := hid hN
  have HV := hid hv
  have HG : Hid (r < w.heap.size ∧ g < w.heap.size) := ⟨hr, hg⟩
  have HL := hid hN
  have hi4 : (N : Int) ≤ S := by omega
  have hi5 : (0 : Int) ≤ R := by omega
  have hsub : (S : Int) - N = R := HR.out
  clear hv hN hr hg
  go_enter Try.func22, Try.ntmps22
  go_wp2_with (at_builtin; refine wpList_append_bytes rfl _ _ rfl rfl _ rfl q (HV.out.below (two_below _ _ _)) (by rw [HN.out]; omega) ?_; intro pa cap w2 hm2; have HM := hid hm2; obtain ⟨c0, c1, d0, d1, fz⟩ := box_cells _ _ (by have := hm2.below; simpa using this); have f0 := fz 0; have f1 := fz 1; clear hm2 fz d0 d1 f0 f1; rw [HN.out])
  go_region_held3 (fun w3 => w3.cell? ⟨w.heap.size, 0, none⟩ = some (.int .i64 S)) (first | assumption | go_keep)
    ((refine step_append_e rfl _ _ rfl pa N cap rfl q HN.out HM.out.drew _ rfl (by omega) ?_; intro pa3 cap3 w3 hm3; have HM3 := hid hm3; obtain ⟨e0, e1, d0, d1, fz⟩ := box_cells _ _ (by have := hm3.below; simpa using this); have f0 := fz 0; have f1 := fz 1; clear hm3 fz))
  go_wp2
  refine bodyPost_ret (v := .tuple #[.agg #[.int .i64 S, _], .int .i64 0]) (by simp [results, go_sem, d0, d1]; rfl) rfl ⟨_, rfl, ?_⟩
  have h9 := writeP_mk (r := r) (g := g) HG.out.1 HG.out.2 HM3.out (.int .i64 S) (.slice pa3 N cap3)
  rw [HL.out] at h9
  exact h9
theorem refWrite_vb (r g S : Nat) {v vb : Value} {q bs : List Int} (w : World) (hr : r < w.heap.size) (hg : g < w.heap.size) (hNS : q.length ≤ S) (hS : S ≤ 1048576) (hv : ArgAt w v q) (hvb : VbAt r g w vb bs) (m : Nat) (hm : m = min bs.length (S - q.length)) :
    Calls Try.prog 22 #[.agg #[.int .i64 S, v], vb] w fun e w' => ∃ v', e = .returned (.tuple #[.agg #[.int .i64 S, v'], .int .i64 m]) ∧ WriteP r g w w' v' (q ++ bs.take m) := by
  rcases hvb with hvb | ⟨a, rfl, rfl⟩
  · exact refWrite_any r g S w hr hg hNS hS hv hvb.arg m hm
  · obtain ⟨pv, c, rfl⟩ := hv.slice
    have HR : Hid ((S : Int) - q.length = ((S - q.length : Nat) : Int)) := by show _ = _; omega
    obtain rfl : m = 0 := by simpa using hm
    refine (refWrite_e r g S q.length c _ a pv q w hr hg rfl hNS hS HR hv).mono ?_
    rintro e w' ⟨v', rfl, h⟩
    exact ⟨v', rfl, by simpa using h⟩
end Go.Proofs.Ytfiiiefhchbhlaa
