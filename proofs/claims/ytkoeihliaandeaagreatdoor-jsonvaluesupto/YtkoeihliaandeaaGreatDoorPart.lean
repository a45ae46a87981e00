/- A part is read and put behind the others. -/
import Derived.Test.YtkoeihliaandeaaGreatDoorVObj
namespace Go.Proofs.YtkoeihliaandeaaGreatDoor
open Go.RowKit

/-- A value or an error is answered, and where the reader stands. -/
def ToldV (r : Res JV) (b : Nat) (s : ByteArray) (d : Nat) (w : World) (e : Ending) (w' : World) : Prop :=
  match r with
  | .ok t u => ∃ cs, e = .returned (.tuple #[.agg cs.toArray, .nilIface]) ∧ ValIs w' (fun k => w.heap.size ≤ k ∧ k < w'.heap.size) t cs ∧ Rd w' b s u d ∧ Turn b w w'
  | .err k u => ∃ t cs d', e = .returned (.tuple #[.agg cs.toArray, errV k]) ∧ ValIs w' (fun k => w.heap.size ≤ k ∧ k < w'.heap.size) t cs ∧ Rd w' b s u d' ∧ Turn b w w'
/-- The reader's value is inner. -/
def ValOk (inner : B → Res JV) (b : Nat) (s : ByteArray) (d : Nat) : Prop :=
  ∀ (w : World) (l : B), Rd w b s l d → Env w → Calls Tryz.prog 31 #[.pointer (some ⟨b, 0, none⟩)] w fun e w' => ToldV (inner l) b s d w e w'
theorem any_two {P : Program} {ops : Array Oper} {Q : Exit → Act → World → Prop} {md : Region.Mode} {i j : Nat} {oi oj : Oper} {fuel : Nat} {listed : Array Bool} {a : Act} {w : World} (hr : Region.ready md ops listed = [i, j]) (hoi : ops[i]? = some oi) (hoj : ops[j]? = some oj)
    (h1 : ∀ K' : Act → World → Prop, (∀ a w, wpAny P md ops Q fuel (listed.setIfInBounds i true) a w → K' a w) → if Region.wanted oi (yielded ops a.tmps) = true then Oper.wp P oi a w K' Q else K' (a.put oi.dst undef) w)
    (h2 : ∀ K' : Act → World → Prop, (∀ a w, wpAny P md ops Q fuel (listed.setIfInBounds j true) a w → K' a w) → if Region.wanted oj (yielded ops a.tmps) = true then Oper.wp P oj a w K' Q else K' (a.put oj.dst undef) w) :
    wpAny P md ops Q (fuel + 1) listed a w := by
  refine ⟨fun h0 => (by rw [hr] at h0; cases h0), fun k hk => ?_⟩
  rw [hr] at hk
  simp only [List.mem_cons, List.not_mem_nil, or_false] at hk
  rcases hk with rfl | rfl
  · exact wpOp_step hoi h1
  · exact wpOp_step hoj h2
/-- What is read while a part is put. -/
def RdP (w : World) (v g : Nat) (lv : Value) (c0 c1 c2 c3 c4 c5 c6 : Value) : Prop := w.cell? ⟨v, 5, none⟩ = some lv ∧ Seven w g c0 c1 c2 c3 c4 c5 c6
/-- Of the blocks below base, nothing but b and v has turned. -/
structure Fr (base b v : Nat) (w w' : World) : Prop where
  os : w'.os = w.os
  tape : w'.tape = w.tape
  output : w'.output = w.output
  size : w.heap.size ≤ w'.heap.size
  block : ∀ k, k < base → k ≠ b → k ≠ v → w'.heap[k]? = w.heap[k]?
theorem Fr.refl (base b v : Nat) (w : World) : Fr base b v w w := ⟨rfl, rfl, rfl, Nat.le_refl _, fun _ _ _ _ => rfl⟩
theorem Fr.trans {base b v : Nat} {x y z : World} (h : Fr base b v x y) (k : Fr base b v y z) : Fr base b v x z :=
  ⟨k.os.trans h.os, k.tape.trans h.tape, k.output.trans h.output, Nat.le_trans h.size k.size, fun i hi h1 h2 => (k.block i hi h1 h2).trans (h.block i hi h1 h2)⟩
theorem Turn.fr {base b v : Nat} {w w' : World} (h : Turn b w w') (hb : base ≤ w.heap.size) : Fr base b v w w' := ⟨h.os, h.tape, h.output, h.size, fun k hk h1 _ => h.block k (Nat.lt_of_lt_of_le hk hb) h1⟩
/-- A part is there, or an error is answered. -/
def ToldP (r : Res JV) (b : Nat) (s : ByteArray) (d : Nat) (v base : Nat) (kd : Int) (ls : List JV) (ns : List B) (w : World) (e : Ending) (w' : World) : Prop :=
  match r with
  | .ok t u => e = .returned .nilIface ∧ Rd w' b s u d ∧ Fr base b v w w' ∧ ∃ lv nv xs F, VObj w' v base kd (ls ++ [t]) ns lv nv xs F
  | .err k u => e = .returned (errV k) ∧ (∃ d', Rd w' b s u d') ∧ Fr base b v w w' ∧ ∃ lv nv xs F, VObj w' v base kd ls ns lv nv xs F
theorem own_lt {w : World} {base n m : Nat} {e : TypeId} {u : Value} {ys : List Value} (h : w.ownsRow base e m u n ys) {k : Nat} (hk : u.ownBlock = some k) : k < w.heap.size := by
  rcases h.2 with ⟨rfl, _⟩ | ⟨g, cap, cur, rfl, _, h2, _⟩
  · simp [Value.ownBlock] at hk
  · simp [Value.ownBlock] at hk
    subst hk
    exact lt_of_heap h2
theorem own_ge {w : World} {base n m : Nat} {e : TypeId} {u : Value} {ys : List Value} (h : w.ownsRow base e m u n ys) {k : Nat} (hk : u.ownBlock = some k) : base ≤ k := by
  rcases h.2 with ⟨rfl, _⟩ | ⟨g, cap, cur, rfl, h1, _⟩
  · simp [Value.ownBlock] at hk
  · simp [Value.ownBlock] at hk
    subst hk
    exact h1
theorem own_ne {w : World} {base n m v : Nat} {e : TypeId} {u : Value} {ys : List Value} (h : w.ownsRow base e m u n ys) (hv : v < base) (hk : u.ownBlock = some v) : False := by
  have := own_ge h hk
  omega
theorem fr_end {w V U Wf : World} {b v base g : Nat} {kd : Int} {ls : List JV} {ns : List B} {lv lv' nv : Value} {xs : List Value} {F : Nat → Prop} {cur' : Array Value} (hT : Turn b w V) (hb : base ≤ w.heap.size) (hO : VObj V v base kd ls ns lv nv xs F) (hg : V.grownBy U lv.ownBlock) (hP : Put U Wf g v cur' kd lv' nv) (hbg : base ≤ g) :
    Fr base b v w Wf ∧ ∀ k, k < base → k ≠ v → Wf.heap[k]? = V.heap[k]? := by
  have key : ∀ k, k < base → k ≠ v → Wf.heap[k]? = V.heap[k]? := fun k hk hv =>
    (hP.other k hv (by omega)).trans (hg.block k (Nat.lt_of_lt_of_le hk hO.le) (fun e => own_ne hO.list hk e.symm))
  refine ⟨⟨?_, ?_, ?_, ?_, fun k hk h1 h2 => (key k hk h2).trans (hT.block k (by omega) h1)⟩, key⟩
  · rw [hP.os, hg.os, hT.os]
  · rw [hP.tape, hg.tape, hT.tape]
  · rw [hP.output, hg.output, hT.output]
  · rw [hP.size]; exact Nat.le_trans hT.size hg.size
theorem RdP.below {w w' : World} {v g : Nat} {lv c0 c1 c2 c3 c4 c5 c6 : Value} (h : RdP w v g lv c0 c1 c2 c3 c4 c5 c6) (hb : Below w.heap.size w w') : RdP w' v g lv c0 c1 c2 c3 c4 c5 c6 := by
  have k1 := lt_of_cell h.1
  have k2 := lt_of_cell h.2.a0
  refine ⟨by rw [hb.cell (by exact k1)]; exact h.1, ?_⟩
  exact ⟨by rw [hb.cell (by exact k2)]; exact h.2.a0, by rw [hb.cell (by exact k2)]; exact h.2.a1, by rw [hb.cell (by exact k2)]; exact h.2.a2, by rw [hb.cell (by exact k2)]; exact h.2.a3, by rw [hb.cell (by exact k2)]; exact h.2.a4, by rw [hb.cell (by exact k2)]; exact h.2.a5, by rw [hb.cell (by exact k2)]; exact h.2.a6, fun j => by rw [hb.frozen (by exact k2)]; exact h.2.fz j⟩
theorem zero7_one : ∀ u ∈ zero7, u.oneCell' = true := by
  intro u hu
  simp only [zero7, List.mem_cons, List.not_mem_nil, or_false] at hu
  rcases hu with rfl | rfl | rfl | rfl | rfl | rfl | rfl <;> rfl
theorem zero7_cells {w : World} {g : Nat} {T : TypeId} (h : w.heap[g]? = some (.cells #[.int .i64 0, .bool false, .string ⟨#[]⟩, .int .i64 0, .bool false, .slice none 0 0, .slice none 0 0] T (0, 0))) : ∀ j u, zero7[j]? = some u → w.cell? ((⟨g, 0, none⟩ : Addr).add j) = some u := by
  intro j u hj
  have hadd : (⟨g, 0, none⟩ : Addr).add j = ⟨g, j, none⟩ := by unfold Addr.add; split <;> simp_all
  rw [hadd]
  simp only [World.cell?, h]
  simpa [zero7] using hj
theorem infoV : (Tryz.prog.info? 25).map (fun i => (i.zero, i.size, i.bytes)) = some (some (.agg #[.int .i64 0, .bool false, .string ⟨#[]⟩, .int .i64 0, .bool false, .slice none 0 0, .slice none 0 0]), 7, 96) := by kernel_rfl
/-- The cells behind the last value of a row, as append lays them. -/
theorem row_cells {U : World} {base g n cap : Nat} {cur : Array Value} {ls : List JV} {xs : List Value} (hn : ls.length = n) (hx : xs.length = ls.length * 7) (h : base ≤ g ∧ U.heap[g]? = some (.cells cur 25 (0, 0)) ∧ cur.size = cap * 7 ∧ cur.toList.take ((n + 1) * 7) = xs ++ zero7) :
    U.cell? ⟨g, n * 7, none⟩ = some (.int .i64 0) ∧ U.cell? ⟨g, n * 7 + 1, none⟩ = some (.bool false) ∧ U.cell? ⟨g, n * 7 + 2, none⟩ = some (.string ⟨#[]⟩) ∧ U.cell? ⟨g, n * 7 + 3, none⟩ = some (.int .i64 0) ∧ U.cell? ⟨g, n * 7 + 4, none⟩ = some (.bool false) ∧ U.cell? ⟨g, n * 7 + 5, none⟩ = some (.slice none 0 0) ∧ U.cell? ⟨g, n * 7 + 6, none⟩ = some (.slice none 0 0) ∧ ∀ j, U.frozen? ⟨g, j, none⟩ = false := by
  obtain ⟨_, h2, _, h4⟩ := h
  have key : ∀ j u, j < 7 → zero7[j]? = some u → U.cell? ⟨g, n * 7 + j, none⟩ = some u := by
    intro j u hj hu
    have e : (cur.toList.take ((n + 1) * 7))[n * 7 + j]? = some u := by
      rw [h4, List.getElem?_append_right (by omega), show n * 7 + j - xs.length = j by omega]
      exact hu
    rw [List.getElem?_take, if_pos (by omega)] at e
    simp only [World.cell?, h2]
    simpa using e
  exact ⟨key 0 _ (by omega) rfl, key 1 _ (by omega) rfl, key 2 _ (by omega) rfl, key 3 _ (by omega) rfl, key 4 _ (by omega) rfl, key 5 _ (by omega) rfl, key 6 _ (by omega) rfl, fun j => by simp [World.frozen?, h2]⟩
set_option maxRecDepth 20000 in
set_option maxHeartbeats 4000000 in
theorem part_any {inner : B → Res JV} {w : World} {b v base : Nat} {s : ByteArray} {l : B} {d : Nat} {kd : Int} {ls : List JV} {ns : List B} {lv nv : Value} {xs : List Value} {F : Nat → Prop} (hv : ValOk inner b s d) (h : Rd w b s l d) (hE : Env w) (hbase : b < base) (hne : b ≠ v) (hO : VObj w v base kd ls ns lv nv xs F) (hlen : ls.length ≤ 2000000) :
    Calls Tryz.prog 72 #[.pointer (some ⟨b, 0, none⟩), .pointer (some ⟨v, 0, none⟩)] w fun e w' => ToldP (inner l) b s d v base kd ls ns w e w' := by
  have HV := hid (hv w l h hE)
  have HO := hid hO
  have HNE := hid (And.intro hbase hne)
  have HLE := hid hO.le
  clear h hE hO hv
  cases hi : inner l with
  | err k u =>
    have HI := hid hi
    clear hi
    go_enter Tryz.func72, Tryz.ntmps72
    go_wp2_with (go_at_call 31; (with_reducible refine HV.out.mono ?_); intro e w1 hq; rw [HI.out] at hq; obtain ⟨t, cs, d', rfl, z1, z2, z3⟩ := hq; have R1 := hid (And.intro z2 z3); obtain ⟨q1, q2, q3, q4, q5, q6, q7, q8, q9, q10, q11, rfl⟩ := z1.form; clear z1 z2 z3)
    go_ret
    refine ⟨rfl, ⟨d', R1.out.1.below (below_new _ _)⟩, (R1.out.2.alloc _).fr HLE.out, lv, nv, xs, F, HO.out.turn (R1.out.2.alloc _) HNE.out.1 HNE.out.2⟩
  | ok t u =>
    have HI := hid hi
    clear hi
    obtain ⟨n5, hn5⟩ : ∃ n, ls.length = n := ⟨_, rfl⟩
    obtain ⟨p5, c5, hlv⟩ : ∃ p5 c5, lv = .slice p5 n5 c5 := by
      rcases HO.out.list.2 with ⟨rfl, h0⟩ | ⟨g, cap, cur, rfl, _⟩
      · exact ⟨none, 0, by rw [← hn5, h0]⟩
      · exact ⟨_, _, by rw [hn5]⟩
    subst hlv
    have HN5 := hid hn5
    rw [hn5] at hlen
    clear hn5
    go_enter Tryz.func72, Tryz.ntmps72
    go_wp2_with (first | (go_at_call 31; (with_reducible refine HV.out.mono ?_); intro e w1 hq; rw [HI.out] at hq; obtain ⟨cs, rfl, z1, z2, z3⟩ := hq; have R1 := hid (And.intro z2 z3); have Z1 := hid z1; obtain ⟨q1, q2, q3, q4, q5, q6, q7, q8, q9, q10, q11, rfl⟩ := z1.form; clear z1 z2 z3) | fail)
    obtain ⟨W, hW⟩ : ∃ W, W = w1.alloc (.cells #[.int .i64 q1, .bool q2, .string (str q3), .int .i64 q4, .bool q5, .slice q6 q7 q8, .slice q9 q10 q11] 25) := ⟨_, rfl⟩
    have HW := hid (show W.heap[w1.heap.size]? = some (.cells #[.int .i64 q1, .bool q2, .string (str q3), .int .i64 q4, .bool q5, .slice q6 q7 q8, .slice q9 q10 q11] 25 (0, 0)) ∧ Below w1.heap.size w1 W ∧ w1.heap.size < W.heap.size from by rw [hW]; exact ⟨heap_alloc_new w1 _, below_new _ _, by simp⟩)
    rw [← hW]
    have HO1 := hid (HO.out.turn (R1.out.2.trans (Turn.of_below HW.out.2.1)) HNE.out.1 HNE.out.2)
    clear hW
    refine wp_region_noPanic ?_
    refine any_begin 13 (by kernel_rfl) (by kernel_rfl) ?_
    have hSP : RdP W.drew v w1.heap.size (.slice p5 n5 c5) (.int .i64 q1) (.bool q2) (.string (str q3)) (.int .i64 q4) (.bool q5) (.slice q6 q7 q8) (.slice q9 q10 q11) := ⟨(seven HO1.out.row).a5, seven HW.out.1⟩
    refine late_begin (fun U => RdP U v w1.heap.size (.slice p5 n5 c5) (.int .i64 q1) (.bool q2) (.string (str q3)) (.int .i64 q4) (.bool q5) (.slice q6 q7 q8) (.slice q9 q10 q11)) (fun j => decide (7 ≤ j)) hSP (fun hS => ?_)
    refine late_take (i := 0) (some 14) rfl rfl (by kernel_rfl) (by kernel_rfl) (by kernel_rfl) (by kernel_rfl) (by kernel_rfl) (fun _ _ _ h => h) (by rfl) (v := ?v0p) ?hy0p hS ?rest0p
    case hy0p => intro w0 hSw; obtain ⟨k0, k1⟩ := hSw; obtain ⟨a0, a1, a2, a3, a4, a5, a6, az⟩ := k1; go_simp; try with_reducible rfl
    simp only [Act.put, List.setIfInBounds_toArray, List.set_cons_zero, List.set_cons_succ]
    refine late_take (i := 1) (some 15) rfl rfl (by kernel_rfl) (by kernel_rfl) (by kernel_rfl) (by kernel_rfl) (by kernel_rfl) (fun _ _ _ h => h) (by rfl) (v := ?v1p) ?hy1p hS ?rest1p
    case hy1p => intro w0 hSw; obtain ⟨k0, k1⟩ := hSw; obtain ⟨a0, a1, a2, a3, a4, a5, a6, az⟩ := k1; go_simp; try with_reducible rfl
    simp only [Act.put, List.setIfInBounds_toArray, List.set_cons_zero, List.set_cons_succ]
    refine late_take (i := 2) (some 16) rfl rfl (by kernel_rfl) (by kernel_rfl) (by kernel_rfl) (by kernel_rfl) (by kernel_rfl) (fun _ _ _ h => h) (by rfl) (v := ?v2p) ?hy2p hS ?rest2p
    case hy2p => intro w0 hSw; obtain ⟨k0, k1⟩ := hSw; obtain ⟨a0, a1, a2, a3, a4, a5, a6, az⟩ := k1; go_simp; try with_reducible rfl
    simp only [Act.put, List.setIfInBounds_toArray, List.set_cons_zero, List.set_cons_succ]
    refine late_take (i := 3) (some 17) rfl rfl (by kernel_rfl) (by kernel_rfl) (by kernel_rfl) (by kernel_rfl) (by kernel_rfl) (fun _ _ _ h => h) (by rfl) (v := ?v3p) ?hy3p hS ?rest3p
    case hy3p => intro w0 hSw; obtain ⟨k0, k1⟩ := hSw; obtain ⟨a0, a1, a2, a3, a4, a5, a6, az⟩ := k1; go_simp; try with_reducible rfl
    simp only [Act.put, List.setIfInBounds_toArray, List.set_cons_zero, List.set_cons_succ]
    refine late_take (i := 4) (some 18) rfl rfl (by kernel_rfl) (by kernel_rfl) (by kernel_rfl) (by kernel_rfl) (by kernel_rfl) (fun _ _ _ h => h) (by rfl) (v := ?v4p) ?hy4p hS ?rest4p
    case hy4p => intro w0 hSw; obtain ⟨k0, k1⟩ := hSw; obtain ⟨a0, a1, a2, a3, a4, a5, a6, az⟩ := k1; go_simp; try with_reducible rfl
    simp only [Act.put, List.setIfInBounds_toArray, List.set_cons_zero, List.set_cons_succ]
    refine late_take (i := 5) (some 19) rfl rfl (by kernel_rfl) (by kernel_rfl) (by kernel_rfl) (by kernel_rfl) (by kernel_rfl) (fun _ _ _ h => h) (by rfl) (v := ?v5p) ?hy5p hS ?rest5p
    case hy5p => intro w0 hSw; obtain ⟨k0, k1⟩ := hSw; obtain ⟨a0, a1, a2, a3, a4, a5, a6, az⟩ := k1; go_simp; try with_reducible rfl
    simp only [Act.put, List.setIfInBounds_toArray, List.set_cons_zero, List.set_cons_succ]
    refine wpAnyD_one (i := 6) (by kernel_rfl) rfl (fun K hK => ?_)
    go_simp
    have HQ : ∀ ob, RdP (W.alloc ob).drew v w1.heap.size (.slice p5 n5 c5) (.int .i64 q1) (.bool q2) (.string (str q3)) (.int .i64 q4) (.bool q5) (.slice q6 q7 q8) (.slice q9 q10 q11) := fun ob => hS.below (below_new _ ob)
    refine hK _ _ ⟨fun _ => HQ _, ?_⟩
    clear hK K
    replace hS := HQ (.cells #[.int .i64 0, .bool false, .string ⟨#[]⟩, .int .i64 0, .bool false, .slice none 0 0, .slice none 0 0] 25)
    clear HQ
    obtain ⟨V, hV⟩ : ∃ V, V = (W.alloc (.cells #[.int .i64 0, .bool false, .string ⟨#[]⟩, .int .i64 0, .bool false, .slice none 0 0, .slice none 0 0] 25)).drew := ⟨_, rfl⟩
    rw [← hV] at hS ⊢
    have HV1 := hid (show V.heap[W.heap.size]? = some (.cells #[.int .i64 0, .bool false, .string ⟨#[]⟩, .int .i64 0, .bool false, .slice none 0 0, .slice none 0 0] 25 (0, 0)) ∧ Below W.heap.size W V ∧ W.heap.size < V.heap.size from by rw [hV]; exact ⟨heap_alloc_new W _, ((Below.refl _ _).alloc (Nat.le_refl _) _).drew, by simp⟩)
    clear hV
    refine wpAnyD_one (i := 7) (by kernel_rfl) rfl (fun K hK => ?_)
    rw [if_pos (by rfl)]
    obtain ⟨i0, hi0, hz0, hz1, hz2⟩ := info_parts infoV
    have HO2 := hid (HO1.out.turn (Turn.of_below HV1.out.2.1) HNE.out.1 HNE.out.2)
    refine wp_append_own_at (.tmp 17) (.tmp 20) 22 rfl base 25 i0 _ 7 96 Tryz.underlying22 hi0 hz0 hz1 hz2 rfl (by decide) (.slice p5 n5 c5) n5 xs (by go_simp) (by have := HO2.out.list; rw [HN5.out] at this; exact this) ⟨W.heap.size, 0, none⟩ 1 1 zero7 (by go_simp) rfl (zero7_cells HV1.out.1) zero7_one (by unfold maxLen; omega) (by omega) HO2.out.le ?_
    intro v' U hown hgrow hloc
    have HU := hid (And.intro hloc hgrow)
    rcases hown.2 with ⟨_, h0⟩ | ⟨g, cap, cur, rfl, g1, g2, g3, g4, g5, g6⟩
    · omega
    have HU2 := hid (And.intro g1 (And.intro g2 (And.intro g5 g6)))
    have HU3 := hid (And.intro g3 g4)
    clear hown hgrow hloc g1 g2 g3 g4 g5 g6
    refine hK _ _ ⟨fun hd => absurd hd (by decide), ?_⟩
    clear hK K hS hSP
    refine late_over (by kernel_rfl) ?_
    refine any_take (i := 8) (some 22) rfl rfl (by kernel_rfl) (by kernel_rfl) (by kernel_rfl) (fun _ _ _ h => h) (by rfl) (v := .pointer (some ⟨g, n5 * 7, none⟩)) ?hy8p ?rest8p
    case hy8p => intro w0; go_simp; intro hh; exact absurd hh (by omega)
    simp only [Act.put]
    refine any_take (i := 10) (some 23) rfl rfl (by kernel_rfl) (by kernel_rfl) (by kernel_rfl) (fun _ _ _ h => h) (by rfl) (v := ?v10p) ?hy10p ?rest10p
    case hy10p => intro w0; go_simp; try with_reducible rfl
    simp only [Act.put]
    refine any_take (i := 11) (some 24) rfl rfl (by kernel_rfl) (by kernel_rfl) (by kernel_rfl) (fun _ _ _ h => h) (by rfl) (v := ?v11p) ?hy11p ?rest11p
    case hy11p => intro w0; go_simp; try with_reducible rfl
    simp only [Act.put, List.setIfInBounds_toArray]
    have HX := hid (row_cells HN5.out HO.out.list.1 HU2.out)
    have HVV := hid (show U.heap[v]? = some (.cells #[.int .i64 kd, .bool false, .string ⟨#[]⟩, .int .i64 0, .bool false, .slice p5 n5 c5, nv] 25 (0, 0)) from by
      rw [HU.out.2.block v (Nat.lt_of_lt_of_le HO2.out.lt HO2.out.le) (fun e => own_ne HO2.out.list HO2.out.lt e.symm)]
      exact HO2.out.row)
    have y5 := (seven HVV.out).a5
    have yz := (seven HVV.out).fz 5
    obtain ⟨x0, x1, x2, x3, x4, x5, x6, xz⟩ := HX.out
    have z0 := xz (n5 * 7); have z1 := xz (n5 * 7 + 1); have z2 := xz (n5 * 7 + 2); have z3 := xz (n5 * 7 + 3); have z4 := xz (n5 * 7 + 4); have z5 := xz (n5 * 7 + 5); have z6 := xz (n5 * 7 + 6)
    have hvg : ¬ v = g := by have := HU2.out.1; have := HO.out.lt; omega
    have hgv : ¬ g = v := fun e => hvg e.symm
    clear xz
    have HVG := hid (show v ≠ g from hvg)
    refine any_two (i := 9) (j := 12) (by kernel_rfl) rfl rfl (fun K hK => ?_) (fun K hK => ?_)
    · go_simp
      refine hK _ _ ?_
      clear hK K
      refine any_one (i := 12) (by kernel_rfl) rfl (fun K hK => ?_)
      go_simp
      refine hK _ _ ?_
      clear hK K
      refine any_done (by kernel_rfl) ?_ _
      refine NoPanic.normal ?_
      clear x0 x1 x2 x3 x4 x5 x6 z0 z1 z2 z3 z4 z5 z6 y5 yz hvg hgv
      have HPut := hid (put_A (o := n5 * 7) (lv' := (.slice (some ⟨g, 0, none⟩) (n5 + 1) cap)) HU2.out.2.1 HVV.out HVG.out (.int .i64 q1) (.bool q2) (.string (str q3)) (.int .i64 q4) (.bool q5) (.slice q6 q7 q8) (.slice q9 q10 q11))
      go_wp2
      go_ret
      have hT := R1.out.2.trans ((Turn.of_below (h := b) HW.out.2.1).trans (Turn.of_below HV1.out.2.1))
      obtain ⟨e1, e2⟩ := fr_end hT HLE.out HO2.out HU.out.2 HPut.out HU2.out.1
      refine ⟨rfl, (R1.out.1.below HW.out.2.1).below HV1.out.2.1 |>.of_heap (e2 b HNE.out.1 HNE.out.2), e1, _, _, _, _, VObj.push (t := t) (F1 := fun k => w.heap.size ≤ k ∧ k < w1.heap.size) HO2.out HN5.out HU.out.2 (HU.out.1.imp id (fun h => by simpa [Value.ownBlock] using h)) HU2.out.1 HU3.out.1 HU3.out.2 HU2.out.2.2.1 (put7_size _ _ _ _ _ _ _ _ _) (put7_take (by rw [HO2.out.list.1, HN5.out]) HU2.out.2.2.2 _ _ _ _ _ _ _) rfl ?_ ?_ HPut.out⟩
      · exact ValIs.keep (fun k hk => (HV1.out.2.1.block k (Nat.lt_trans hk.2 HW.out.2.2)).trans (HW.out.2.1.block k hk.2)) (fun _ h => h) _ _ Z1.out
      · intro k hk
        refine ⟨Nat.le_trans HLE.out hk.1, Nat.lt_trans hk.2 (Nat.lt_trans HW.out.2.2 HV1.out.2.2), fun e => ?_, fun e => ?_⟩
        · have := own_lt HO.out.list e; omega
        · have := own_lt HO.out.names e; omega
    · go_simp
      refine hK _ _ ?_
      clear hK K
      refine any_one (i := 9) (by kernel_rfl) rfl (fun K hK => ?_)
      go_simp
      refine hK _ _ ?_
      clear hK K
      refine any_done (by kernel_rfl) ?_ _
      refine NoPanic.normal ?_
      clear x0 x1 x2 x3 x4 x5 x6 z0 z1 z2 z3 z4 z5 z6 y5 yz hvg hgv
      have HPut := hid (put_B (o := n5 * 7) (lv' := (.slice (some ⟨g, 0, none⟩) (n5 + 1) cap)) HU2.out.2.1 HVV.out HVG.out (.int .i64 q1) (.bool q2) (.string (str q3)) (.int .i64 q4) (.bool q5) (.slice q6 q7 q8) (.slice q9 q10 q11))
      go_wp2
      go_ret
      have hT := R1.out.2.trans ((Turn.of_below (h := b) HW.out.2.1).trans (Turn.of_below HV1.out.2.1))
      obtain ⟨e1, e2⟩ := fr_end hT HLE.out HO2.out HU.out.2 HPut.out HU2.out.1
      refine ⟨rfl, (R1.out.1.below HW.out.2.1).below HV1.out.2.1 |>.of_heap (e2 b HNE.out.1 HNE.out.2), e1, _, _, _, _, VObj.push (t := t) (F1 := fun k => w.heap.size ≤ k ∧ k < w1.heap.size) HO2.out HN5.out HU.out.2 (HU.out.1.imp id (fun h => by simpa [Value.ownBlock] using h)) HU2.out.1 HU3.out.1 HU3.out.2 HU2.out.2.2.1 (put7_size _ _ _ _ _ _ _ _ _) (put7_take (by rw [HO2.out.list.1, HN5.out]) HU2.out.2.2.2 _ _ _ _ _ _ _) rfl ?_ ?_ HPut.out⟩
      · exact ValIs.keep (fun k hk => (HV1.out.2.1.block k (Nat.lt_trans hk.2 HW.out.2.2)).trans (HW.out.2.1.block k hk.2)) (fun _ h => h) _ _ Z1.out
      · intro k hk
        refine ⟨Nat.le_trans HLE.out hk.1, Nat.lt_trans hk.2 (Nat.lt_trans HW.out.2.2 HV1.out.2.2), fun e => ?_, fun e => ?_⟩
        · have := own_lt HO.out.list e; omega
        · have := own_lt HO.out.names e; omega
end Go.Proofs.YtkoeihliaandeaaGreatDoor
