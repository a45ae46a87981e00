/- The document's answers: what is laid of a value. -/
import Derived.Test.YtkoeihliaandeaaGreatDoorRefV
import Derived.Test.YtkoeihliaandeaaGreatDoorRefQ
import Derived.Test.YtkoeihliaandeaaGreatDoorWv
import Derived.Test.YtkoeihliaandeaaGreatDoorRefY
namespace Go.Proofs.YtkoeihliaandeaaGreatDoor
open Go.RowKit

/-- Below N nothing has turned; but for rows of bytes nothing has. -/
structure KF (N : Nat) (w w' : World) : Prop where
  below : Below N w w'
  typed : ∀ (k : Nat) (cs : Array Value) (T : TypeId) (fr : Nat × Nat), T ≠ 5 → w.heap[k]? = some (.cells cs T fr) → w'.heap[k]? = some (.cells cs T fr)
theorem KF.trans {N : Nat} {x y z : World} (h : KF N x y) (k : KF N y z) : KF N x z := ⟨h.below.trans k.below, fun j cs T fr h2 h3 => k.typed j cs T fr h2 (h.typed j cs T fr h2 h3)⟩
theorem KF.refl (N : Nat) (w : World) : KF N w w := ⟨Below.refl _ _, fun _ _ _ _ _ h => h⟩
theorem KF.of_below {N : Nat} {w w' : World} (h : Below w.heap.size w w') (hN : N ≤ w.heap.size) : KF N w w' := ⟨h.mono hN, fun k _ _ _ _ h3 => (h.block k (lt_of_heap h3)).trans h3⟩
theorem KF.grown {N : Nat} {w w' : World} {v : Value} {acc : B} (ho : Own w N v acc) (hN : N ≤ w.heap.size) (hg : w.grownBy w' v.ownBlock) : KF N w w' := by
  refine ⟨ho.below hN hg, fun k cs T fr h2 h3 => ?_⟩
  refine (hg.block k (lt_of_heap h3) (fun e => ?_)).trans h3
  exact h2 (own_type ho e.symm h3)
/-- What put answers. -/
def ToldPut (N : Nat) (acc out : B) (w : World) (e : Ending) (w' : World) : Prop := ∃ v' acc', e = .returned v' ∧ PT acc out acc' ∧ Own w' N v' acc' ∧ KF N w w'
set_option maxRecDepth 20000 in
set_option maxHeartbeats 8000000 in
theorem rput_stop (t : JV) (w : World) (N : Nat) (v : Value) (acc : B) (cs : List Value) (hv : ValOn w t cs) (hN : N ≤ w.heap.size) (ho : Own w N v acc) (hl : 1048576 < acc.length) : Calls Tryz.prog 23 #[v, .agg cs.toArray] w fun e w' => ToldPut N acc (printV t) w e w' := by
  obtain ⟨p, L, c0, rfl⟩ := own_slice3 ho
  have hL : L = acc.length := by
    obtain ⟨p', c', e⟩ := own_slice ho
    simp only [Value.slice.injEq] at e
    exact e.2.1
  obtain ⟨k1, k2, k3, k4, k5, k6, k7, k8, k9, k10, k11, rfl⟩ := hv.form
  have HN := hid hN
  have HO := hid ho
  have HP := hid (PT.stop hl (printV t))
  have d1 : decide ((1048576 : Int) < (L : Int)) = true := by rw [decide_eq_true_eq]; omega
  clear hv hN ho hl hL
  go_enter Tryz.func23, Tryz.ntmps23
  go_wp2
  go_ret
  exact ⟨_, acc, rfl, HP.out, HO.out.alloc _, KF.of_below (below_new _ _) HN.out⟩
set_option maxRecDepth 20000 in
set_option maxHeartbeats 8000000 in
theorem rput3 (tx : B) (n : Int) (hh : Bool) (ls : List JV) (ns : List B) (b : Bool) (w : World) (N : Nat) (v : Value) (acc : B) (cs : List Value) (hv : ValOn w (.mk 3 b tx n hh ls ns) cs) (hN : N ≤ w.heap.size) (ho : Own w N v acc) (hl : acc.length ≤ 1048576) (ht : tx.length ≤ 70368744177664) : Calls Tryz.prog 23 #[v, .agg cs.toArray] w fun e w' => ToldPut N acc tx w e w' := by
  obtain ⟨p, L, c0, rfl⟩ := own_slice3 ho
  have hL : L = acc.length := by
    obtain ⟨p', c', e⟩ := own_slice ho
    simp only [Value.slice.injEq] at e
    exact e.2.1
  obtain ⟨p1, c1, p2, c2, rfl, _, _⟩ := hv.open
  obtain ⟨n1, e1⟩ : ∃ n1, ls.length = n1 := ⟨_, rfl⟩
  obtain ⟨n2, e2⟩ : ∃ n2, ns.length = n2 := ⟨_, rfl⟩
  rw [e1, e2]
  obtain ⟨i0, hi0, hz0, hz1, hz2⟩ := info_parts infoB
  obtain ⟨sn, hsn⟩ : ∃ sn, (str tx).size = sn := ⟨_, rfl⟩
  have hsl : (tx : B).length = sn := by rw [← hsn]; rw [str_size]
  have hsm : sn ≤ 70368744177664 := by rw [← hsl]; exact ht
  have HSn := hid hsn
  have HSl := hid hsl
  obtain ⟨W1, hW1⟩ : ∃ W1, W1 = w.alloc (C7 3 b tx n hh p1 n1 c1 p2 n2 c2) := ⟨_, rfl⟩
  have HB1 := hid (show Below w.heap.size w W1 from by rw [hW1]; exact below_new _ _)
  have HO1 := hid (show Own W1 N (.slice p L c0) acc from by rw [hW1]; exact ho.alloc _)
  have HN := hid hN
  have HN1 := hid (show N ≤ W1.heap.size from Nat.le_trans hN HB1.out.size)
  have HW1 := hid hW1
  have hb1 : L + sn ≤ maxLen := by unfold maxLen; omega
  have hb2 : L + sn ≤ 140737488355328 := by omega
  have HM1 := hid hb1
  have HM2 := hid hb2
  have HLa := hid hL.symm
  have d1 : decide ((1048576 : Int) < (L : Int)) = false := by rw [decide_eq_false_iff_not]; omega
  clear hv hN ho hl ht hL hsl hsn hsm hb1 hb2 e1 e2 hW1
  skip
  go_enter Tryz.func23, Tryz.ntmps23
  go_wp2_with (at_builtin; (rw [← HW1.out]; refine Lib.wpList_append_own_string W1 rfl (.tmp 31) (.tmp 33) 55 9 rfl N 5 i0 Tryz.underlying55 Tryz.underlying9 hi0 hz0 hz1 hz2 (.slice p L c0) L (Lib.byteCells acc) (by go_simp) (by have := HO1.out; unfold Own at this; rw [HLa.out] at this; exact this) (str tx) (by go_simp) (by rw [HSn.out]; exact HM1.out) (by rw [HSn.out]; exact HM2.out) HN1.out ?_; intro v' w2 hown hgr _; obtain ⟨p7, L7, c7, rfl⟩ := own_slice3 hown; have HO2 := hid (Own.put (acc := acc) (bs := tx) (by rw [HLa.out]; exact hown) (by rw [strCells_str]) (by rw [HSn.out, HSl.out])); have HF2 := hid (KF.grown HO1.out HN1.out hgr); clear hown hgr))
  go_ret
  exact ⟨_, _, rfl, PT.all _ _, HO2.out, (KF.of_below HB1.out HN.out).trans HF2.out⟩
set_option maxRecDepth 20000 in
set_option maxHeartbeats 8000000 in
theorem rput1 (tx : B) (n : Int) (hh : Bool) (ls : List JV) (ns : List B) (b : Bool) (w : World) (N : Nat) (v : Value) (acc : B) (cs : List Value) (hv : ValOn w (.mk 1 b tx n hh ls ns) cs) (hN : N ≤ w.heap.size) (ho : Own w N v acc) (hl : acc.length ≤ 1048576) : Calls Tryz.prog 23 #[v, .agg cs.toArray] w fun e w' => ToldPut N acc [110, 117, 108, 108] w e w' := by
  obtain ⟨p, L, c0, rfl⟩ := own_slice3 ho
  have hL : L = acc.length := by
    obtain ⟨p', c', e⟩ := own_slice ho
    simp only [Value.slice.injEq] at e
    exact e.2.1
  obtain ⟨p1, c1, p2, c2, rfl, _, _⟩ := hv.open
  obtain ⟨n1, e1⟩ : ∃ n1, ls.length = n1 := ⟨_, rfl⟩
  obtain ⟨n2, e2⟩ : ∃ n2, ns.length = n2 := ⟨_, rfl⟩
  rw [e1, e2]
  obtain ⟨i0, hi0, hz0, hz1, hz2⟩ := info_parts infoB
  obtain ⟨sn, hsn⟩ : ∃ sn, ((⟨#[110, 117, 108, 108]⟩ : ByteArray)).size = sn := ⟨_, rfl⟩
  have hsl : ([110, 117, 108, 108] : B).length = sn := by rw [← hsn]; rfl
  have hsm : sn ≤ 70368744177664 := by rw [← hsl]; decide
  have HSn := hid hsn
  have HSl := hid hsl
  obtain ⟨W1, hW1⟩ : ∃ W1, W1 = w.alloc (C7 1 b tx n hh p1 n1 c1 p2 n2 c2) := ⟨_, rfl⟩
  have HB1 := hid (show Below w.heap.size w W1 from by rw [hW1]; exact below_new _ _)
  have HO1 := hid (show Own W1 N (.slice p L c0) acc from by rw [hW1]; exact ho.alloc _)
  have HN := hid hN
  have HN1 := hid (show N ≤ W1.heap.size from Nat.le_trans hN HB1.out.size)
  have HW1 := hid hW1
  have hb1 : L + sn ≤ maxLen := by unfold maxLen; omega
  have hb2 : L + sn ≤ 140737488355328 := by omega
  have HM1 := hid hb1
  have HM2 := hid hb2
  have HLa := hid hL.symm
  have d1 : decide ((1048576 : Int) < (L : Int)) = false := by rw [decide_eq_false_iff_not]; omega
  clear hv hN ho hl hL hsl hsn hsm hb1 hb2 e1 e2 hW1
  skip
  go_enter Tryz.func23, Tryz.ntmps23
  go_wp2_with (at_builtin; (rw [← HW1.out]; refine Lib.wpList_append_own_string W1 rfl (.tmp 19) (.const (.string ⟨#[110, 117, 108, 108]⟩)) 55 9 rfl N 5 i0 Tryz.underlying55 Tryz.underlying9 hi0 hz0 hz1 hz2 (.slice p L c0) L (Lib.byteCells acc) (by go_simp) (by have := HO1.out; unfold Own at this; rw [HLa.out] at this; exact this) ((⟨#[110, 117, 108, 108]⟩ : ByteArray)) (by go_simp) (by rw [HSn.out]; exact HM1.out) (by rw [HSn.out]; exact HM2.out) HN1.out ?_; intro v' w2 hown hgr _; obtain ⟨p7, L7, c7, rfl⟩ := own_slice3 hown; have HO2 := hid (Own.put (acc := acc) (bs := [110, 117, 108, 108]) (by rw [HLa.out]; exact hown) (by rfl) (by rw [HSn.out, HSl.out])); have HF2 := hid (KF.grown HO1.out HN1.out hgr); clear hown hgr))
  go_ret
  exact ⟨_, _, rfl, PT.all _ _, HO2.out, (KF.of_below HB1.out HN.out).trans HF2.out⟩
set_option maxRecDepth 20000 in
set_option maxHeartbeats 8000000 in
theorem rput2t (tx : B) (n : Int) (hh : Bool) (ls : List JV) (ns : List B) (w : World) (N : Nat) (v : Value) (acc : B) (cs : List Value) (hv : ValOn w (.mk 2 true tx n hh ls ns) cs) (hN : N ≤ w.heap.size) (ho : Own w N v acc) (hl : acc.length ≤ 1048576) : Calls Tryz.prog 23 #[v, .agg cs.toArray] w fun e w' => ToldPut N acc [116, 114, 117, 101] w e w' := by
  obtain ⟨p, L, c0, rfl⟩ := own_slice3 ho
  have hL : L = acc.length := by
    obtain ⟨p', c', e⟩ := own_slice ho
    simp only [Value.slice.injEq] at e
    exact e.2.1
  obtain ⟨p1, c1, p2, c2, rfl, _, _⟩ := hv.open
  obtain ⟨n1, e1⟩ : ∃ n1, ls.length = n1 := ⟨_, rfl⟩
  obtain ⟨n2, e2⟩ : ∃ n2, ns.length = n2 := ⟨_, rfl⟩
  rw [e1, e2]
  obtain ⟨i0, hi0, hz0, hz1, hz2⟩ := info_parts infoB
  obtain ⟨sn, hsn⟩ : ∃ sn, ((⟨#[116, 114, 117, 101]⟩ : ByteArray)).size = sn := ⟨_, rfl⟩
  have hsl : ([116, 114, 117, 101] : B).length = sn := by rw [← hsn]; rfl
  have hsm : sn ≤ 70368744177664 := by rw [← hsl]; decide
  have HSn := hid hsn
  have HSl := hid hsl
  obtain ⟨W1, hW1⟩ : ∃ W1, W1 = w.alloc (C7 2 true tx n hh p1 n1 c1 p2 n2 c2) := ⟨_, rfl⟩
  have HB1 := hid (show Below w.heap.size w W1 from by rw [hW1]; exact below_new _ _)
  have HO1 := hid (show Own W1 N (.slice p L c0) acc from by rw [hW1]; exact ho.alloc _)
  have HN := hid hN
  have HN1 := hid (show N ≤ W1.heap.size from Nat.le_trans hN HB1.out.size)
  have HW1 := hid hW1
  have hb1 : L + sn ≤ maxLen := by unfold maxLen; omega
  have hb2 : L + sn ≤ 140737488355328 := by omega
  have HM1 := hid hb1
  have HM2 := hid hb2
  have HLa := hid hL.symm
  have d1 : decide ((1048576 : Int) < (L : Int)) = false := by rw [decide_eq_false_iff_not]; omega
  clear hv hN ho hl hL hsl hsn hsm hb1 hb2 e1 e2 hW1
  skip
  go_enter Tryz.func23, Tryz.ntmps23
  go_wp2_with (at_builtin; (rw [← HW1.out]; refine Lib.wpList_append_own_string W1 rfl (.tmp 25) (.const (.string ⟨#[116, 114, 117, 101]⟩)) 55 9 rfl N 5 i0 Tryz.underlying55 Tryz.underlying9 hi0 hz0 hz1 hz2 (.slice p L c0) L (Lib.byteCells acc) (by go_simp) (by have := HO1.out; unfold Own at this; rw [HLa.out] at this; exact this) ((⟨#[116, 114, 117, 101]⟩ : ByteArray)) (by go_simp) (by rw [HSn.out]; exact HM1.out) (by rw [HSn.out]; exact HM2.out) HN1.out ?_; intro v' w2 hown hgr _; obtain ⟨p7, L7, c7, rfl⟩ := own_slice3 hown; have HO2 := hid (Own.put (acc := acc) (bs := [116, 114, 117, 101]) (by rw [HLa.out]; exact hown) (by rfl) (by rw [HSn.out, HSl.out])); have HF2 := hid (KF.grown HO1.out HN1.out hgr); clear hown hgr))
  go_ret
  exact ⟨_, _, rfl, PT.all _ _, HO2.out, (KF.of_below HB1.out HN.out).trans HF2.out⟩
set_option maxRecDepth 20000 in
set_option maxHeartbeats 8000000 in
theorem rput2f (tx : B) (n : Int) (hh : Bool) (ls : List JV) (ns : List B) (w : World) (N : Nat) (v : Value) (acc : B) (cs : List Value) (hv : ValOn w (.mk 2 false tx n hh ls ns) cs) (hN : N ≤ w.heap.size) (ho : Own w N v acc) (hl : acc.length ≤ 1048576) : Calls Tryz.prog 23 #[v, .agg cs.toArray] w fun e w' => ToldPut N acc [102, 97, 108, 115, 101] w e w' := by
  obtain ⟨p, L, c0, rfl⟩ := own_slice3 ho
  have hL : L = acc.length := by
    obtain ⟨p', c', e⟩ := own_slice ho
    simp only [Value.slice.injEq] at e
    exact e.2.1
  obtain ⟨p1, c1, p2, c2, rfl, _, _⟩ := hv.open
  obtain ⟨n1, e1⟩ : ∃ n1, ls.length = n1 := ⟨_, rfl⟩
  obtain ⟨n2, e2⟩ : ∃ n2, ns.length = n2 := ⟨_, rfl⟩
  rw [e1, e2]
  obtain ⟨i0, hi0, hz0, hz1, hz2⟩ := info_parts infoB
  obtain ⟨sn, hsn⟩ : ∃ sn, ((⟨#[102, 97, 108, 115, 101]⟩ : ByteArray)).size = sn := ⟨_, rfl⟩
  have hsl : ([102, 97, 108, 115, 101] : B).length = sn := by rw [← hsn]; rfl
  have hsm : sn ≤ 70368744177664 := by rw [← hsl]; decide
  have HSn := hid hsn
  have HSl := hid hsl
  obtain ⟨W1, hW1⟩ : ∃ W1, W1 = w.alloc (C7 2 false tx n hh p1 n1 c1 p2 n2 c2) := ⟨_, rfl⟩
  have HB1 := hid (show Below w.heap.size w W1 from by rw [hW1]; exact below_new _ _)
  have HO1 := hid (show Own W1 N (.slice p L c0) acc from by rw [hW1]; exact ho.alloc _)
  have HN := hid hN
  have HN1 := hid (show N ≤ W1.heap.size from Nat.le_trans hN HB1.out.size)
  have HW1 := hid hW1
  have hb1 : L + sn ≤ maxLen := by unfold maxLen; omega
  have hb2 : L + sn ≤ 140737488355328 := by omega
  have HM1 := hid hb1
  have HM2 := hid hb2
  have HLa := hid hL.symm
  have d1 : decide ((1048576 : Int) < (L : Int)) = false := by rw [decide_eq_false_iff_not]; omega
  clear hv hN ho hl hL hsl hsn hsm hb1 hb2 e1 e2 hW1
  skip
  go_enter Tryz.func23, Tryz.ntmps23
  go_wp2_with (at_builtin; (rw [← HW1.out]; refine Lib.wpList_append_own_string W1 rfl (.tmp 27) (.const (.string ⟨#[102, 97, 108, 115, 101]⟩)) 55 9 rfl N 5 i0 Tryz.underlying55 Tryz.underlying9 hi0 hz0 hz1 hz2 (.slice p L c0) L (Lib.byteCells acc) (by go_simp) (by have := HO1.out; unfold Own at this; rw [HLa.out] at this; exact this) ((⟨#[102, 97, 108, 115, 101]⟩ : ByteArray)) (by go_simp) (by rw [HSn.out]; exact HM1.out) (by rw [HSn.out]; exact HM2.out) HN1.out ?_; intro v' w2 hown hgr _; obtain ⟨p7, L7, c7, rfl⟩ := own_slice3 hown; have HO2 := hid (Own.put (acc := acc) (bs := [102, 97, 108, 115, 101]) (by rw [HLa.out]; exact hown) (by rfl) (by rw [HSn.out, HSl.out])); have HF2 := hid (KF.grown HO1.out HN1.out hgr); clear hown hgr))
  go_ret
  exact ⟨_, _, rfl, PT.all _ _, HO2.out, (KF.of_below HB1.out HN.out).trans HF2.out⟩
theorem own_keep {w w' : World} {base : Nat} {v : Value} {acc : B} (h : Own w base v acc) (hb : Below w.heap.size w w') : Own w' base v acc := by
  refine ⟨h.1, ?_⟩
  rcases h.2 with h1 | ⟨g, cap, cur, h1, h2, h3, h4⟩
  · exact .inl h1
  · exact .inr ⟨g, cap, cur, h1, h2, (hb.block g (lt_of_heap h3)).trans h3, h4⟩
set_option maxRecDepth 20000 in
set_option maxHeartbeats 8000000 in
theorem rput4 (tx : B) (n : Int) (hh : Bool) (ls : List JV) (ns : List B) (b : Bool) (w : World) (N : Nat) (v : Value) (acc : B) (cs : List Value) (hv : ValOn w (.mk 4 b tx n hh ls ns) cs) (hN : N ≤ w.heap.size) (ho : Own w N v acc) (hl : acc.length ≤ 1048576) (hval : Lib.validD tx = true) (ht : 6 * tx.length + 10 ≤ 70368744177664) : Calls Tryz.prog 23 #[v, .agg cs.toArray] w fun e w' => ToldPut N acc (quoteB tx) w e w' := by
  obtain ⟨p, L, c0, rfl⟩ := own_slice3 ho
  have hL : L = acc.length := by
    obtain ⟨p', c', e⟩ := own_slice ho
    simp only [Value.slice.injEq] at e
    exact e.2.1
  obtain ⟨p1, c1, p2, c2, rfl, _, _⟩ := hv.open
  obtain ⟨n1, e1⟩ : ∃ n1, ls.length = n1 := ⟨_, rfl⟩
  obtain ⟨n2, e2⟩ : ∃ n2, ns.length = n2 := ⟨_, rfl⟩
  rw [e1, e2]
  obtain ⟨i0, hi0, hz0, hz1, hz2⟩ := info_parts infoB
  obtain ⟨sn, hsn⟩ : ∃ sn, (str (quoteB tx)).size = sn := ⟨_, rfl⟩
  have hsl : ((quoteB tx) : B).length = sn := by rw [← hsn]; rw [str_size]
  have hsm : sn ≤ 70368744177664 := by rw [← hsl]; have := escs_most tx; simp only [quoteB, List.length_cons, List.length_append, List.length_nil]; omega
  have HSn := hid hsn
  have HSl := hid hsl
  obtain ⟨W1, hW1⟩ : ∃ W1, W1 = w.alloc (C7 4 b tx n hh p1 n1 c1 p2 n2 c2) := ⟨_, rfl⟩
  have HB1 := hid (show Below w.heap.size w W1 from by rw [hW1]; exact below_new _ _)
  have HO1 := hid (show Own W1 N (.slice p L c0) acc from by rw [hW1]; exact ho.alloc _)
  have HN := hid hN
  have HN1 := hid (show N ≤ W1.heap.size from Nat.le_trans hN HB1.out.size)
  have HW1 := hid hW1
  have hQ := refQuote_any tx (by omega)
  rw [show quoteS tx = (quoteB tx, 0) from by unfold quoteS; rw [hval]; rfl] at hQ
  have HQ := hid hQ
  have hb1 : L + sn ≤ maxLen := by unfold maxLen; omega
  have hb2 : L + sn ≤ 140737488355328 := by omega
  have HM1 := hid hb1
  have HM2 := hid hb2
  have HLa := hid hL.symm
  have d1 : decide ((1048576 : Int) < (L : Int)) = false := by rw [decide_eq_false_iff_not]; omega
  clear hQ hval ht hv hN ho hl hL hsl hsn hsm hb1 hb2 e1 e2 hW1
  skip
  go_enter Tryz.func23, Tryz.ntmps23
  go_wp2_with (first | (go_at_call 42; rw [← HW1.out]; (with_reducible refine (HQ.out W1).mono ?_); rintro e W2 ⟨rfl, hb⟩; have HO3 := hid (own_keep HO1.out hb); have HK3 := hid (KF.of_below hb HN1.out); have HN3 := hid (Nat.le_trans HN1.out hb.size); clear hb) | (at_builtin; (refine Lib.wpList_append_own_string W2 rfl (.tmp 43) (.tmp 44) 55 9 rfl N 5 i0 Tryz.underlying55 Tryz.underlying9 hi0 hz0 hz1 hz2 (.slice p L c0) L (Lib.byteCells acc) (by go_simp) (by have := HO3.out; unfold Own at this; rw [HLa.out] at this; exact this) (str (quoteB tx)) (by go_simp) (by rw [HSn.out]; exact HM1.out) (by rw [HSn.out]; exact HM2.out) HN3.out ?_; intro v' w2 hown hgr _; obtain ⟨p7, L7, c7, rfl⟩ := own_slice3 hown; have HO2 := hid (Own.put (acc := acc) (bs := (quoteB tx)) (by rw [HLa.out]; exact hown) (by rw [strCells_str]) (by rw [HSn.out, HSl.out])); have HF2 := hid (KF.grown HO3.out HN3.out hgr); clear hown hgr)))
  go_ret
  exact ⟨_, _, rfl, PT.all _ _, HO2.out, ((KF.of_below HB1.out HN.out).trans HK3.out).trans HF2.out⟩
end Go.Proofs.YtkoeihliaandeaaGreatDoor
/- The document's answers: a value printed. -/
namespace Go.Proofs.YtkoeihliaandeaaGreatDoor
open Go.RowKit

theorem put_len {w : World} {N L c : Nat} {p : Option Addr} {acc : B} (ho : Own w N (.slice p L c) acc) : L = acc.length := by
  obtain ⟨p', c', e⟩ := own_slice ho
  simp only [Value.slice.injEq] at e
  exact e.2.1
theorem put_long {w : World} {N L c : Nat} {p : Option Addr} {out acc : B} (hp : PT [] out acc) (ho : Own w N (.slice p L c) acc) (h : 1048576 < out.length) : decide ((1048576 : Int) < (L : Int)) = true := by
  have := hp.2.1 (by simpa using h)
  have := put_len ho
  rw [decide_eq_true_eq]
  omega
theorem put_short {w : World} {N L c : Nat} {p : Option Addr} {out acc : B} (hp : PT [] out acc) (ho : Own w N (.slice p L c) acc) (h : ¬ 1048576 < out.length) : decide ((1048576 : Int) < (L : Int)) = false ∧ Own w N (.slice p L c) out := by
  have e := hp.1 (by simp; omega)
  simp only [List.nil_append] at e
  subst e
  have := put_len ho
  refine ⟨?_, ho⟩
  rw [decide_eq_false_iff_not]
  omega
set_option maxRecDepth 20000 in
set_option maxHeartbeats 8000000 in
theorem rprint_any (t : JV) (w : World) (cs : List Value) (hf : Fits t) (hv : ValOn w t cs) (hput : validN t = 0 → ∀ W, Below w.heap.size w W → Calls Tryz.prog 23 #[.slice none 0 0, .agg cs.toArray] W fun e w' => ToldPut W.heap.size [] (printV t) W e w') : Calls Tryz.prog 12 #[.agg cs.toArray] w fun e w' => e = .returned (.tuple #[.string (str (printS t).1), .int .i64 ((printS t).2 : Int)]) ∧ Below w.heap.size w w' := by
  obtain ⟨k1, k2, k3, k4, k5, k6, k7, k8, k9, k10, k11, rfl⟩ := hv.form
  have HB0 := hid (below_new w (C7 k1 k2 k3 k4 k5 k6 k7 k8 k9 k10 k11))
  have HX0 := hid (show (w.alloc (C7 k1 k2 k3 k4 k5 k6 k7 k8 k9 k10 k11)).heap[w.heap.size]? = some (C7 k1 k2 k3 k4 k5 k6 k7 k8 k9 k10 k11) from heap_alloc_new _ _)
  have hC := rvalid_any t (w.alloc (C7 k1 k2 k3 k4 k5 k6 k7 k8 k9 k10 k11)) _ hf (hv.below HB0.out)
  obtain ⟨E, hE⟩ : ∃ E, validN t = E := ⟨_, rfl⟩
  by_cases h0 : E = 0
  · rw [h0] at hE
    have HPu := hid (hput hE)
    rw [hE] at hC
    have HVa := hid hC
    obtain ⟨out, ho⟩ : ∃ out, printV t = out := ⟨_, rfl⟩
    rw [ho] at HPu
    by_cases hl : 1048576 < out.length
    · have HR := hid (show printS t = ([], 2) from by unfold printS; rw [hE, ho, if_neg (by simp), if_pos hl])
      have HH := hid hl
      rw [HR.out]
      clear hf hv hput hC hE h0 ho hl
      go_enter Tryz.func12, Tryz.ntmps12
      go_wp2_with (first | (go_at_call 14; (with_reducible refine HVa.out.mono ?_); rintro e w1 ⟨rfl, hb⟩; have HB1 := hid hb; obtain ⟨x0, x1, x2, x3, x4, x5, x6, _⟩ := seven (keep7 HX0.out hb); clear hb) | (go_at_call 23; (with_reducible refine (HPu.out w1 (below_out HB0.out HB1.out)).mono ?_); rintro e w2 ⟨v', acc', rfl, hpt, hown, hk⟩; obtain ⟨p7, L7, c7, rfl⟩ := own_slice3 hown; have d1 := put_long hpt hown HH.out; have HB2 := hid ((below_out HB0.out HB1.out).trans (hk.below.mono (below_out HB0.out HB1.out).size)); clear hpt hown hk))
      go_ret2
      exact ⟨rfl, HB2.out⟩
    · have HR := hid (show printS t = (out, 0) from by unfold printS; rw [hE, ho, if_neg (by simp), if_neg hl])
      have HH := hid hl
      rw [HR.out]
      clear hf hv hput hC hE h0 ho hl
      go_enter Tryz.func12, Tryz.ntmps12
      go_wp2_with (first | (go_at_call 14; (with_reducible refine HVa.out.mono ?_); rintro e w1 ⟨rfl, hb⟩; have HB1 := hid hb; obtain ⟨x0, x1, x2, x3, x4, x5, x6, _⟩ := seven (keep7 HX0.out hb); clear hb) | (go_at_call 23; (with_reducible refine (HPu.out w1 (below_out HB0.out HB1.out)).mono ?_); rintro e w2 ⟨v', acc', rfl, hpt, hown, hk⟩; obtain ⟨p7, L7, c7, rfl⟩ := own_slice3 hown; obtain ⟨d1, ho2⟩ := put_short hpt hown HH.out; have hconv := conv_own (World.ownsRowF_of ho2); clear ho2; have HB2 := hid ((below_out HB0.out HB1.out).trans (hk.below.mono (below_out HB0.out HB1.out).size)); clear hpt hown hk))
      go_ret2
      exact ⟨rfl, HB2.out⟩
  · rw [hE] at hC
    have HVa := hid hC
    have HR := hid (show printS t = ([], E) from by unfold printS; rw [hE, if_pos h0])
    rw [HR.out]
    have q1 : ((E : Int) == 0) = false := by simp only [beq_eq_false_iff_ne, ne_eq]; omega
    have q2 : ¬ (E : Int) = 0 := by omega
    clear hf hv hput hC hE h0
    go_enter Tryz.func12, Tryz.ntmps12
    go_wp2_with (go_at_call 14; (with_reducible refine HVa.out.mono ?_); rintro e w1 ⟨rfl, hb⟩; have HB1 := hid hb; obtain ⟨x0, x1, x2, x3, x4, x5, x6, _⟩ := seven (keep7 HX0.out hb); clear hb)
    go_ret2
    exact ⟨rfl, below_out HB0.out HB1.out⟩
end Go.Proofs.YtkoeihliaandeaaGreatDoor
