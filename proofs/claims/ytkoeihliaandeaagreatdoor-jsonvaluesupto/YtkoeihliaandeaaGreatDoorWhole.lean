/- A whole text: Parse. -/
import Derived.Test.YtkoeihliaandeaaGreatDoorValue
import Derived.Test.YtkoeihliaandeaaGreatDoorShort
namespace Go.Proofs.YtkoeihliaandeaaGreatDoor
open Go.RowKit

abbrev C7 (q1 : Int) (q2 : Bool) (q3 : B) (q4 : Int) (q5 : Bool) (q6 : Option Addr) (q7 q8 : Nat) (q9 : Option Addr) (q10 q11 : Nat) : Obj := .cells #[.int .i64 q1, .bool q2, .string (str q3), .int .i64 q4, .bool q5, .slice q6 q7 q8, .slice q9 q10 q11] 25 (0, 0)
theorem whole_val {w w1 w2 w4 Wf : World} {b : Nat} {x : JV} {cs : List Value} (hlt : w.heap.size < w1.heap.size) (hb : b < w.heap.size) (hv : ValIs w2 (fun k => w1.heap.size ≤ k ∧ k < w2.heap.size) x cs) (hz : ∀ k, k < w2.heap.size → k ≠ b → w4.heap[k]? = w2.heap[k]?) (hs : w2.heap.size ≤ w4.heap.size) (ho : Out7 w4 Wf w.heap.size) : ValIs Wf (fun k => w.heap.size ≤ k ∧ k < Wf.heap.size) x cs :=
  ValIs.keep (fun j hj => (ho.other j (by omega)).trans (hz j hj.2 (by omega))) (fun j hj => ⟨by omega, by rw [ho.size]; omega⟩) _ _ hv
theorem dec_nat (a b : Nat) : decide ((a : Int) < (b : Int)) = decide (a < b) := by
  by_cases h : a < b
  · rw [decide_eq_true h, decide_eq_true (by omega)]
  · rw [decide_eq_false h, decide_eq_false (by omega)]
set_option maxRecDepth 20000 in
set_option maxHeartbeats 4000000 in
theorem whole_any {w : World} {b : Nat} {s : ByteArray} {l : B} (hnb : 5 ≤ b) (hsz : s.size ≤ 1048576) (h : Rd w b s l 0) (hE : Env w) :
    Calls Tryz.prog 18 #[.pointer (some ⟨b, 0, none⟩)] w fun e w' => ToldV (whole l) b s 0 w e w' := by
  have HB := hid h.lt
  have HNB := hid hnb
  have HSZ := hid hsz
  have R0 := hid (Vl.start h hE)
  clear hnb hsz h hE
  cases hv : val 32 (blanks l) with
  | err k u =>
    have HV := hid hv
    have HVal : Hid (whole l = .err k u) := by unfold Hid whole; rw [hv]
    clear hv
    go_enter Tryz.func18, Tryz.ntmps18
    go_wp2_with (first | (go_at_call 30; (with_reducible refine (blanks_any R0.out.rd).mono ?_); rintro e w1 ⟨rfl, z1, z2⟩; have R1 := hid (R0.out.next HB.out HNB.out z2 z1); clear z1 z2 R0) | (go_at_call 31; have hcall := val_any HNB.out HSZ.out 32 0 rfl w1 (blanks l) R1.out.rd R1.out.env; (with_reducible refine hcall.mono ?_); clear hcall; intro e w2 hq; have hq2 := ToldV.as hq HV.out; clear hq; obtain ⟨t, cs, d', rfl, z1, z2, z3⟩ := hq2; obtain ⟨q1, q2, q3, q4, q5, q6, q7, q8, q9, q10, q11, rfl⟩ := z1.form; have R2 := hid (R1.out.next HB.out HNB.out z3 z2); clear z1 z2 z3 R1; have R3 := hid (R2.out.next HB.out HNB.out ((Turn.refl _ _).alloc (C7 q1 q2 q3 q4 q5 q6 q7 q8 q9 q10 q11)) (R2.out.rd.below (below_new _ _))); have s2 := seven R3.out.res; obtain ⟨b0, b1, b2, b3, b4, b5, b6, bz⟩ := s2; have bz0 := bz 0; have bz1 := bz 1; have bz2 := bz 2; have bz3 := bz 3; have bz4 := bz 4; have bz5 := bz 5; have bz6 := bz 6; clear bz))
    (try simp only [Exit.inBlock, Exit.then])
    refine bodyPost_ret (results_val2 rfl _ _ _ 25 _ (0, 0) rfl (seven_put (has_seven R3.out.res) _ _ _ _ _ _ _) rfl) rfl ?_
    rw [HVal.out]
    obtain ⟨e2, e3⟩ := R3.out.out HB.out (out7 _ _ _ _ _ _ _ _ _)
    exact ⟨_, _, _, rfl, flat_val _ _ _ _ [] _ _, e2, e3⟩
  | ok t u =>
    have HV := hid hv
    by_cases hb : blanks u = []
    · have HVal : Hid (whole l = .ok t []) := by unfold Hid whole; rw [hv]; exact if_pos hb
      have HBl := hid hb
      clear hv hb
      go_enter Tryz.func18, Tryz.ntmps18
      go_wp2_with (first | (go_at_call 30; (with_reducible refine (blanks_any R0.out.rd).mono ?_); rintro e w1 ⟨rfl, z1, z2⟩; have R1 := hid (R0.out.next HB.out HNB.out z2 z1); clear z1 z2 R0) | (go_at_call 31; have hcall := val_any HNB.out HSZ.out 32 0 rfl w1 (blanks l) R1.out.rd R1.out.env; (with_reducible refine hcall.mono ?_); clear hcall; intro e w2 hq; have hq2 := ToldV.as hq HV.out; clear hq; obtain ⟨cs, rfl, z1, z2, z3⟩ := hq2; obtain ⟨q1, q2, q3, q4, q5, q6, q7, q8, q9, q10, q11, rfl⟩ := z1.form; have R2 := hid (R1.out.next HB.out HNB.out z3 z2); have Z1 := hid z1; have HLt := hid (lt_of_heap R1.out.res); clear z1 z2 z3 R1; have R3 := hid (R2.out.next HB.out HNB.out ((Turn.refl _ _).alloc (C7 q1 q2 q3 q4 q5 q6 q7 q8 q9 q10 q11)) (R2.out.rd.below (below_new _ _)))) | (go_at_call 30; (with_reducible refine (blanks_any R3.out.rd).mono ?_); rintro e w4 ⟨rfl, z1, z2⟩; have R4 := hid (R3.out.next HB.out HNB.out z2 z1); have HC := hid ((z2.block w2.heap.size (by simp) (by have := HB.out; have := R2.out.turn.size; omega)).trans (heap_alloc_new w2 (C7 q1 q2 q3 q4 q5 q6 q7 q8 q9 q10 q11))); have ZB := hid (show ∀ k, k < w2.heap.size → k ≠ b → w4.heap[k]? = w2.heap[k]? from fun k hk hkb => (z2.block k (by simp; omega) hkb).trans ((below_new w2 _).block k hk)); clear z1 z2 R3; have s3 := seven HC.out; obtain ⟨x0, x1, x2, x3, x4, x5, x6, _⟩ := s3; obtain ⟨q, hA⟩ := R4.out.rd.at; have c0 := hA.c0; have c1 := hA.c1; have HA := hid hA; clear hA; have s2 := seven R4.out.res; obtain ⟨b0, b1, b2, b3, b4, b5, b6, bz⟩ := s2; have bz0 := bz 0; have bz1 := bz 1; have bz2 := bz 2; have bz3 := bz 3; have bz4 := bz 4; have bz5 := bz 5; have bz6 := bz 6; clear bz; have hdec : decide ((q : Int) < (s.size : Int)) = false := (by (rw [decide_eq_false_iff_not]; have a := HA.out.len; rw [HBl.out, List.length_nil] at a; omega)); have hdec2 := (dec_nat q s.size).symm.trans hdec))
      go_quiet (fail)
      go_wp2
      have R5 := hid (R4.out.next HB.out HNB.out ((Turn.refl _ _).drewN nq) (R4.out.rd.drewN nq))
      (try simp only [Exit.inBlock, Exit.then])
      refine bodyPost_ret (results_val2 rfl _ _ _ 25 _ (0, 0) rfl (seven_put (has_seven R5.out.res) _ _ _ _ _ _ _) rfl) rfl ?_
      rw [HVal.out]
      obtain ⟨e2, e3⟩ := R5.out.out HB.out (out7 _ _ _ _ _ _ _ _ _)
      refine ⟨_, rfl, ?_, by rw [← HBl.out]; exact e2, e3⟩
      exact whole_val HLt.out HB.out Z1.out (fun k hk hkb => (((Turn.refl b w4).drewN nq).block k (by have := lt_of_heap HC.out; omega) hkb).trans (ZB.out k hk hkb)) (by have := lt_of_heap HC.out; have := ((Turn.refl b w4).drewN nq).size; omega) (out7 _ _ _ _ _ _ _ _ _)
    · have HVal : Hid (whole l = .err 3 (blanks u)) := by unfold Hid whole; rw [hv]; exact if_neg hb
      have HBl := hid hb
      clear hv hb
      go_enter Tryz.func18, Tryz.ntmps18
      go_wp2_with (first | (go_at_call 30; (with_reducible refine (blanks_any R0.out.rd).mono ?_); rintro e w1 ⟨rfl, z1, z2⟩; have R1 := hid (R0.out.next HB.out HNB.out z2 z1); clear z1 z2 R0) | (go_at_call 31; have hcall := val_any HNB.out HSZ.out 32 0 rfl w1 (blanks l) R1.out.rd R1.out.env; (with_reducible refine hcall.mono ?_); clear hcall; intro e w2 hq; have hq2 := ToldV.as hq HV.out; clear hq; obtain ⟨cs, rfl, z1, z2, z3⟩ := hq2; obtain ⟨q1, q2, q3, q4, q5, q6, q7, q8, q9, q10, q11, rfl⟩ := z1.form; have R2 := hid (R1.out.next HB.out HNB.out z3 z2); have Z1 := hid z1; have HLt := hid (lt_of_heap R1.out.res); clear z1 z2 z3 R1; have R3 := hid (R2.out.next HB.out HNB.out ((Turn.refl _ _).alloc (C7 q1 q2 q3 q4 q5 q6 q7 q8 q9 q10 q11)) (R2.out.rd.below (below_new _ _)))) | (go_at_call 30; (with_reducible refine (blanks_any R3.out.rd).mono ?_); rintro e w4 ⟨rfl, z1, z2⟩; have R4 := hid (R3.out.next HB.out HNB.out z2 z1); have HC := hid ((z2.block w2.heap.size (by simp) (by have := HB.out; have := R2.out.turn.size; omega)).trans (heap_alloc_new w2 (C7 q1 q2 q3 q4 q5 q6 q7 q8 q9 q10 q11))); have ZB := hid (show ∀ k, k < w2.heap.size → k ≠ b → w4.heap[k]? = w2.heap[k]? from fun k hk hkb => (z2.block k (by simp; omega) hkb).trans ((below_new w2 _).block k hk)); clear z1 z2 R3; have s3 := seven HC.out; obtain ⟨x0, x1, x2, x3, x4, x5, x6, _⟩ := s3; obtain ⟨q, hA⟩ := R4.out.rd.at; have c0 := hA.c0; have c1 := hA.c1; have HA := hid hA; clear hA; have s2 := seven R4.out.res; obtain ⟨b0, b1, b2, b3, b4, b5, b6, bz⟩ := s2; have bz0 := bz 0; have bz1 := bz 1; have bz2 := bz 2; have bz3 := bz 3; have bz4 := bz 4; have bz5 := bz 5; have bz6 := bz 6; clear bz; have hdec : decide ((q : Int) < (s.size : Int)) = true := (by (rw [decide_eq_true_eq]; have a := HA.out.len; have a2 := HA.out.le; have a3 : (blanks u).length ≠ 0 := (fun e => HBl.out (List.eq_nil_of_length_eq_zero e)); omega)); have hdec2 := (dec_nat q s.size).symm.trans hdec))
      go_quiet (fail)
      go_wp2
      have R5 := hid (R4.out.next HB.out HNB.out ((Turn.refl _ _).drewN nq) (R4.out.rd.drewN nq))
      (try simp only [Exit.inBlock, Exit.then])
      refine bodyPost_ret (results_val2 rfl _ _ _ 25 _ (0, 0) rfl (seven_put (has_seven R5.out.res) _ _ _ _ _ _ _) rfl) rfl ?_
      rw [HVal.out]
      obtain ⟨e2, e3⟩ := R5.out.out HB.out (out7 _ _ _ _ _ _ _ _ _)
      exact ⟨_, _, _, rfl, flat_val _ _ _ _ [] _ _, e2, e3⟩
/-- An error's value: none, or an Errno. -/
def errOf (k : Nat) : Value := if k = 0 then .nilIface else errV k
theorem errOf_pos {k : Nat} (h : k ≠ 0) : errOf k = errV k := by unfold errOf; rw [if_neg h]
theorem val_size3 {fn : Func} {p u v : Tmp} (h : fn.results = #[.cell p 25, .tmp u, .tmp v]) (tmps : Array Value) (w : World) (g : Nat) (t : TypeId) (cs : Array Value) (fr : Nat × Nat)
    (hp : tmps.getD p undef = .pointer (some ⟨g, 0, none⟩)) (hg : w.heap[g]? = some (.cells cs t fr)) (hs : cs.size = 7) : (results fn tmps).run Tryz.prog w = .ok (.tuple #[.agg cs, tmps.getD u undef, tmps.getD v undef]) w := by
  have hl := run_loadVar_row (P := Tryz.prog) w g t 25 cs fr _ hg Tryz.underlying25 rfl (by rw [val_size, hs])
  have e : (results fn tmps).run Tryz.prog w = ((asAddr (tmps.getD p undef)).run Tryz.prog w).andThen fun a w₁ => ((loadVar 25 a).run Tryz.prog w₁).andThen fun x w₂ => .ok (.tuple #[x, tmps.getD u undef, tmps.getD v undef]) w₂ := by
    simp only [results, h]
    simp [Sem.run_bind, Result.andThen]
  rw [e, hp]
  simp [asAddr, Result.andThen, hl]
/-- What Parse hands back. -/
def ToldPa (r : JV × Nat × Nat) (w : World) (e : Ending) (w' : World) : Prop :=
  ∃ cs, e = .returned (.tuple #[.agg cs.toArray, .int .i64 (r.2.1 : Int), errOf r.2.2]) ∧ ValIs w' (fun k => w.heap.size ≤ k ∧ k < w'.heap.size) r.1 cs ∧ Below w.heap.size w w'
end Go.Proofs.YtkoeihliaandeaaGreatDoor
