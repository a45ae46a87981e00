/- A value is written. -/
import Derived.Test.YtkoeihliaandeaaGreatDoorWr
import Derived.Test.YtkoeihliaandeaaGreatDoorRt
namespace Go.Proofs.YtkoeihliaandeaaGreatDoor
open Go.RowKit

theorem quote_len (s : B) : s.length + 2 ≤ (quoteB s).length := by
  have := escs_len s
  simp only [quoteB, List.length_cons, List.length_append, List.length_nil]
  omega
theorem Wrote.of {N b : Nat} {acc : B} {r : Int} {out : B} {w W w' : World} (h : Wrote N b acc r out W w') (hb : WF N b w W) : Wrote N b acc r out w w' := by
  obtain ⟨v, a, r', h1, h2, h3⟩ := h
  exact ⟨v, a, r', h1, hb.trans h2, h3⟩
set_option maxRecDepth 20000 in
set_option maxHeartbeats 4000000 in
theorem quoted_any {w : World} {N b : Nat} {v : Value} {acc : B} {r : Int} (s : B) (hs : s.length ≤ maxI) (h : Wr w N b v acc r) (hlo : -4611686018427387904 ≤ r - (quoteB s).length) :
    Calls Tryz.prog 40 #[.pointer (some ⟨b, 0, none⟩), .string (str s)] w fun e w' => e = .returned (.tuple #[]) ∧ Wrote N b acc r (quoteB s) w w' := by
  obtain ⟨S, hS⟩ : ∃ S, str s = S := ⟨_, rfl⟩
  obtain ⟨n, hn⟩ : ∃ n, S.size = n := ⟨_, rfl⟩
  have hsl : s.length = n := by rw [← hn, ← hS, str_size]
  have hq := quote_len s
  rw [hsl] at hq hs
  unfold maxI at hs
  have HS := hid hS
  have HN := hid hsl
  have H := hid h
  have hr1 := h.lo
  have hr2 := h.hi
  obtain ⟨k0, k1, kz⟩ := two h.row
  have kz1 := kz 1
  rw [hS]
  clear hS hsl h kz k0
  by_cases hbig : r < (n : Int)
  · go_enter Tryz.func40, Tryz.ntmps40
    go_wp2
    (try simp only [Exit.inBlock, Exit.then])
    refine bodyPost_ret (results_none rfl _ _ _) rfl ?_
    refine ⟨rfl, _, acc, -1, ⟨set_one H.out.row _, H.out.own.set H.out.row, H.out.ge, by rw [size_set]; exact H.out.le, by omega, by omega, H.out.len.1, fun q => by omega⟩, (WF.refl _ _ _).setCell H.out.ge _ _, fun q => ?_, fun _ => by omega, by omega⟩
    omega
  · have hle : (n : Int) ≤ r := by omega
    go_enter Tryz.func40, Tryz.ntmps40
    go_wp2_with (first
      | (go_at_call 62; have hcall := quote_any s (by rw [HN.out]; omega) w; rw [HS.out] at hcall; (with_reducible refine hcall.mono ?_); clear hcall; rintro e w1 ⟨rfl, hb⟩; have R1 := hid (H.out.below hb); have F1 := hid (WF.of_below (b := b) hb H.out.le); clear hb)
      | (go_at_call 38; have hcall := add_any (quoteB s) R1.out hlo; (with_reducible refine hcall.mono ?_); clear hcall; rintro e w2 ⟨rfl, hq2⟩; have W2 := hid (hq2.of F1.out); clear hq2))
    go_end0
    exact ⟨rfl, W2.out⟩
/-! ### Values below N -/
def ValB (w : World) (N : Nat) (t : JV) (cs : List Value) : Prop := ∃ F : Nat → Prop, (∀ k, F k → k < N) ∧ ValIs w F t cs
theorem ValB.below {w w' : World} {N : Nat} {t : JV} {cs : List Value} (h : ValB w N t cs) (hb : Below N w w') : ValB w' N t cs := by
  obtain ⟨F, h1, h2⟩ := h
  exact ⟨F, h1, ValIs.keep (fun k hk => hb.block k (h1 k hk)) (fun _ h => h) _ _ h2⟩
theorem ValB.on {w : World} {N : Nat} {t : JV} {cs : List Value} (h : ValB w N t cs) (hN : N ≤ w.heap.size) : ValOn w t cs := by
  obtain ⟨F, h1, h2⟩ := h
  exact ⟨F, fun k hk => Nat.lt_of_lt_of_le (h1 k hk) hN, h2⟩
theorem ValOn.low {w : World} {t : JV} {cs : List Value} (h : ValOn w t cs) : ValB w w.heap.size t cs := h
def PartsB (w : World) (N : Nat) (ls : List JV) (p : Option Addr) : Prop := ∀ i t, ls[i]? = some t → ∃ g o cs, p = some ⟨g, o, none⟩ ∧ g < N ∧ ValB w N t cs ∧ ∀ j c, cs[j]? = some c → w.cell? ⟨g, o + i * 7 + j, none⟩ = some c
def NamesB (w : World) (N : Nat) (ns : List B) (p : Option Addr) : Prop := ∀ j t, ns[j]? = some t → ∃ g o, p = some ⟨g, o, none⟩ ∧ g < N ∧ w.cell? ⟨g, o + j, none⟩ = some (.string (str t))
theorem cell_block {w w' : World} {g o : Nat} (e : w'.heap[g]? = w.heap[g]?) : w'.cell? ⟨g, o, none⟩ = w.cell? ⟨g, o, none⟩ := World.cell?_of_block (by exact e)
theorem PartsB.below {w w' : World} {N : Nat} {ls : List JV} {p : Option Addr} (h : PartsB w N ls p) (hb : Below N w w') : PartsB w' N ls p := by
  intro i t hi
  obtain ⟨g, o, cs, h1, hg, h2, h3⟩ := h i t hi
  exact ⟨g, o, cs, h1, hg, h2.below hb, fun j c hj => by rw [cell_block (hb.block g hg)]; exact h3 j c hj⟩
theorem NamesB.below {w w' : World} {N : Nat} {ns : List B} {p : Option Addr} (h : NamesB w N ns p) (hb : Below N w w') : NamesB w' N ns p := by
  intro j t hj
  obtain ⟨g, o, h1, hg, h2⟩ := h j t hj
  exact ⟨g, o, h1, hg, by rw [cell_block (hb.block g hg)]; exact h2⟩
theorem ValB.open {w : World} {N : Nat} {k : Int} {b : Bool} {t : B} {n : Int} {hh : Bool} {ls : List JV} {ns : List B} {cs : List Value} (h : ValB w N (.mk k b t n hh ls ns) cs) :
    ∃ p1 c1 p2 c2, cs = [.int .i64 k, .bool b, .string (str t), .int .i64 n, .bool hh, .slice p1 ls.length c1, .slice p2 ns.length c2] ∧ PartsB w N ls p1 ∧ NamesB w N ns p2 := by
  obtain ⟨F, h0, h⟩ := h
  simp only [ValIs] at h
  obtain ⟨lv, nv, rfl, ⟨p1, c1, rfl, _, h1⟩, ⟨p2, c2, rfl, _, h2⟩⟩ := h
  refine ⟨p1, c1, p2, c2, rfl, fun i t hi => ?_, fun j t hj => ?_⟩
  · have hlt : i < ls.length := (List.getElem?_eq_some_iff.1 hi).1
    obtain ⟨g, o, e, hF, hv⟩ := h1 (by omega)
    obtain ⟨cs, a1, a2⟩ := vals_get ls o hv i t hi
    exact ⟨g, o, cs, e, h0 g hF, ⟨F, h0, a1⟩, fun j c hj => by rw [show o + i * 7 + j = o + 7 * i + j by omega]; exact a2 j c hj⟩
  · have hlt : j < ns.length := (List.getElem?_eq_some_iff.1 hj).1
    obtain ⟨g, o, e, hF, hv⟩ := h2 (by omega)
    exact ⟨g, o, e, h0 g hF, hv j t hj⟩
mutual
/-- Every object has as many names as parts. -/
def Pr : JV → Prop
  | .mk k _ _ _ _ ls ns => (k = 6 → ns.length = ls.length) ∧ PrL ls
def PrL : List JV → Prop
  | [] => True
  | x :: xs => Pr x ∧ PrL xs
end
theorem prL_iff : ∀ ls : List JV, PrL ls ↔ ∀ x ∈ ls, Pr x
  | [] => by simp [PrL]
  | x :: xs => by simp [PrL, prL_iff xs]
mutual
theorem pr_of : ∀ t : JV, fault t = 0 → Pr t
  | .mk k b t n hh ls ns, h => by
    obtain ⟨h1, _, h3⟩ := fault_zero h
    simp only [Pr, prL_iff]
    refine ⟨fun hk => ?_, prs_of ls h3⟩
    subst hk
    rcases formed_cases h1 with e | e | ⟨_, e, _⟩ | ⟨_, e⟩ | e | ⟨e, _, _⟩
    · simp at e
    · simp at e
    · simp at e
    · simp at e
    · simp at e
    · exact e
theorem prs_of : ∀ ls : List JV, (∀ x ∈ ls, fault x = 0) → ∀ x ∈ ls, Pr x
  | [], _, x, h => by simp at h
  | y :: ys, hf, x, h => by
    simp only [List.mem_cons] at h
    rcases h with rfl | h
    · exact pr_of x (hf x (by simp))
    · exact prs_of ys (fun z hz => hf z (by simp [hz])) x h
end
/-- The writer writes the value. -/
def WvalOk (t : JV) : Prop := ∀ (w : World) (N b : Nat) (v : Value) (acc : B) (r : Int) (cs : List Value), Wr w N b v acc r → Fits t → Pr t → ValB w N t cs → -4611686018427387904 ≤ r - (printV t).length →
  Calls Tryz.prog 22 #[.pointer (some ⟨b, 0, none⟩), .agg cs.toArray] w fun e w' => e = .returned (.tuple #[]) ∧ Wrote N b acc r (printV t) w w'
theorem box_keep {w W : World} {N b : Nat} {o : Obj} {cs : Array Value} (hw : W = w.alloc o) (ho : o = .cells cs 25 (0, 0)) (hb : b < w.heap.size) {w' : World} (hf : WF N b W w') : w'.heap[w.heap.size]? = some (.cells cs 25 (0, 0)) :=
  hf.typed w.heap.size cs 25 (0, 0) (by omega) (by decide) (by rw [hw, ← ho]; exact heap_alloc_new _ _)
theorem printL_cons (o fi : Bool) (x : JV) (xs : List JV) (ns : List B) : printL o fi (x :: xs) ns = (if fi then [] else [44]) ++ ((if o then quoteB (ns.headD []) ++ [58] else []) ++ (printV x ++ printL o false xs ns.tail)) := by simp only [printL]
set_option maxRecDepth 20000 in
set_option maxHeartbeats 4000000 in
theorem parts_write {k : Int} (hk : k = 5 ∨ k = 6) (b0 : Bool) (t : B) (n : Int) (hh : Bool) (ls : List JV) (ns : List B) (hS : ∀ x ∈ ls, WvalOk x) (w : World) (N b : Nat) (v : Value) (acc : B) (r : Int) (cs : List Value) (h : Wr w N b v acc r) (hf : Fits (.mk k b0 t n hh ls ns)) (hp : Pr (.mk k b0 t n hh ls ns)) (hv : ValB w N (.mk k b0 t n hh ls ns) cs)
    (hlo : -4611686018427387904 ≤ r - (printL (decide (k = 6)) true ls ns).length) :
    Calls Tryz.prog 41 #[.pointer (some ⟨b, 0, none⟩), .agg cs.toArray] w fun e w' => e = .returned (.tuple #[]) ∧ Wrote N b acc r (printL (decide (k = 6)) true ls ns) w w' := by
  obtain ⟨p1, c1, p2, c2, rfl, hp1, hp2⟩ := hv.open
  simp only [Fits, fitsL_iff] at hf
  simp only [Pr, prL_iff] at hp
  have hn := hf.2.1
  unfold maxI at hn
  have HF := hid hf
  have HP := hid hp
  have HSO := hid hS
  have HBw := hid (lt_of_heap h.row)
  obtain ⟨n1, e1⟩ : ∃ n1, ls.length = n1 := ⟨_, rfl⟩
  obtain ⟨n2, e2⟩ : ∃ n2, ns.length = n2 := ⟨_, rfl⟩
  have HN := hid (And.intro e1 e2)
  obtain ⟨T, hT⟩ : ∃ T, printL (decide (k = 6)) true ls ns = T := ⟨_, rfl⟩
  have HT := hid hT
  rw [hT] at hlo
  rw [hT]
  have HLo0 := hid hlo
  rw [e1, e2]
  rw [e1] at hn
  obtain ⟨W0, hW0⟩ : ∃ W0, W0 = w.alloc (C7 k b0 t n hh p1 n1 c1 p2 n2 c2) := ⟨_, rfl⟩
  have HW0 := hid hW0
  have HB0 := hid (show Below w.heap.size w W0 from by rw [hW0]; exact below_new _ _)
  have HR0 := hid (h.below HB0.out)
  have HFr := hid (WF.of_below (b := b) HB0.out h.le)
  have HParts := hid (hp1.below HFr.out.below)
  have HNames := hid (hp2.below HFr.out.below)
  clear h hf hp hv hS hT hlo e1 e2 hp1 hp2
  rcases hk with rfl | rfl
  · have HTo := hid (show printL false true ls ns = T from HT.out)
    go_enter Tryz.func41, Tryz.ntmps41
    go_wp2
    go_loopg [9] (n1 + 1) (fun gk s9 wr => ∃ (i : Nat) (vi : Value) (ai : B) (ri : Int), i ≤ n1 ∧ gk = n1 - i + 1 ∧ s9 = .int .i64 (i : Int) ∧ Wr wr N b vi ai ri ∧ WF N b W0 wr ∧ (∀ a' r', PR ai ri (printL false (decide (i = 0)) (ls.drop i) (ns.drop i)) a' r' → PR acc r T a' r') ∧ -4611686018427387904 ≤ ri - (printL false (decide (i = 0)) (ls.drop i) (ns.drop i)).length)
    case atStart => exact ⟨0, v, acc, r, by omega, rfl, rfl, by rw [← HW0.out]; exact HR0.out, by rw [← HW0.out]; exact WF.refl _ _ _, fun a' r' q => by rw [← HTo.out]; exact q, by have := HLo0.out; rw [← HTo.out] at this; exact this⟩
    case round =>
      obtain ⟨i, vi, ai, ri, hi, rfl, rfl, hwr, hf0, hpr, hli⟩ := hrel
      have HWr := hid hwr
      have HF0 := hid hf0
      have HPr := hid hpr
      have HLi := hid hli
      have HBr := hid (lt_of_heap hwr.row)
      clear hwr hf0 hpr hli
      by_cases hin : i < n1
      · have hi1 : i < ls.length := by rw [HN.out.1]; exact hin
        obtain ⟨g, oo, cs, rfl, hg, hv1, hc1⟩ := HParts.out.below HF0.out.below i ls[i] (List.getElem?_eq_getElem hi1)
        have hnd : (ns.drop i).tail = ns.drop (i + 1) := by simp
        have HStep := hid (show printL false (decide (i = 0)) (ls.drop i) (ns.drop i) = (if decide (i = 0) then [] else [44]) ++ (printV ls[i] ++ printL false false (ls.drop (i + 1)) (ns.drop (i + 1))) from by rw [drop_get hi1, printL_cons, hnd]; rfl)
        have HC := hid (HSO.out ls[i] (List.getElem_mem hi1))
        have HFx := hid (HF.out.2.2.2.2 ls[i] (List.getElem_mem hi1))
        have HPx := hid (HP.out.2 ls[i] (List.getElem_mem hi1))
        have hxe : ∃ x, ls[i] = x := ⟨_, rfl⟩
        obtain ⟨x, hx⟩ := hxe
        rw [hx] at hv1 HC HFx HPx HStep
        obtain ⟨k1, k2, k3, k4, k5, k6, k7, k8, k9, k10, k11, rfl⟩ := (hv1.on HWr.out.le).form
        obtain ⟨ca0, ca1, ca2, ca3, ca4, ca5, ca6⟩ := row7 hc1
        have HV := hid (hv1.below ((below_new wr (C7 k1 k2 k3 k4 k5 k6 k7 k8 k9 k10 k11)).mono HWr.out.le))
        have RZ := hid (HWr.out.below (below_new wr (C7 k1 k2 k3 k4 k5 k6 k7 k8 k9 k10 k11)))
        have FZ := hid (WF.refl N b (wr.alloc (C7 k1 k2 k3 k4 k5 k6 k7 k8 k9 k10 k11)))
        have F0 := hid (HF0.out.trans (WF.of_below (b := b) (below_new wr (C7 k1 k2 k3 k4 k5 k6 k7 k8 k9 k10 k11)) HWr.out.le))
        obtain ⟨_, kroom, _⟩ := two RZ.out.row
        have HXz := hid (box_keep HW0.out rfl HBw.out F0.out)
        obtain ⟨bx0, _, _, _, _, bx5, bx6, _⟩ := seven HXz.out
        clear hc1 hv1 hx
        clear hi1 hnd
        by_cases hneg : ri < 0
        · go_wp2
          (try simp only [Exit.inBlock, Exit.then])
          refine bodyPost_ret (results_none rfl _ _ _) rfl ?_
          exact ⟨rfl, vi, ai, ri, RZ.out, HFr.out.trans F0.out, HPr.out _ _ (PR.spent hneg _)⟩
        · by_cases h0 : i = 0
          · subst h0
            simp only [Nat.zero_mul, Nat.add_zero] at ca0 ca1 ca2 ca3 ca4 ca5 ca6
            have HS2 := hid (show printL false (decide (0 = 0)) (ls.drop 0) (ns.drop 0) = printV x ++ (printL false false (ls.drop (0 + 1)) (ns.drop (0 + 1))) from by rw [HStep.out]; simp)
            obtain ⟨rest, hrest⟩ : ∃ rest, printL false false (ls.drop (0 + 1)) (ns.drop (0 + 1)) = rest := ⟨_, rfl⟩
            rw [hrest] at HS2
            have HRest := hid hrest
            clear hrest
            have HLo := hid (show -4611686018427387904 ≤ ri - ((((printV x).length + rest.length : Nat)) : Int) from by have q := HLi.out; rw [HS2.out] at q; simp only [List.length_append] at q; push_cast at q ⊢; omega)
            have HP2 := hid (show ∀ a' r', PR ai ri (printV x ++ (rest)) a' r' → PR acc r T a' r' from by rw [← HS2.out]; exact HPr.out)
            go_wp2_with (first
              | (go_at_call 22; have hcall := HC.out _ _ _ _ _ _ _ RZ.out HFx.out HPx.out (HV.out.below FZ.out.below) (by have hlo := HLo.out; push_cast at hlo; omega); (with_reducible refine hcall.mono ?_); clear hcall; rintro e uD ⟨rfl, vD, aD, rD, q1, q2, q3⟩; have RD := hid q1; have FD := hid (FZ.out.trans q2); have PD := hid q3; have LD := q3.2.2; clear q1 q2 q3; clear RZ))
            go_roundg (n1 - (0 + 1) + 1)
            case measure => omega
            case rel =>
              refine ⟨0 + 1, vD, aD, rD, by omega, rfl, by push_cast; rfl, RD.out, F0.out.trans FD.out, fun a' r' q => HP2.out _ _ (PD.out.trans (show PR aD rD rest a' r' from by rw [← HRest.out]; exact q)), ?_⟩
              have hlo := HLo.out
              show -4611686018427387904 ≤ rD - (printL false false (ls.drop (0 + 1)) (ns.drop (0 + 1))).length
              rw [HRest.out]
              push_cast at hlo
              omega
          · have hpos : 0 < i := by omega
            have HS2 := hid (show printL false (decide (i = 0)) (ls.drop i) (ns.drop i) = [44] ++ (printV x ++ (printL false false (ls.drop (i + 1)) (ns.drop (i + 1)))) from by rw [HStep.out]; simp [show ¬ i = 0 by omega])
            obtain ⟨rest, hrest⟩ : ∃ rest, printL false false (ls.drop (i + 1)) (ns.drop (i + 1)) = rest := ⟨_, rfl⟩
            rw [hrest] at HS2
            have HRest := hid hrest
            clear hrest
            have HLo := hid (show -4611686018427387904 ≤ ri - (((1 + (printV x).length + rest.length : Nat)) : Int) from by have q := HLi.out; rw [HS2.out] at q; simp only [List.length_append, List.length_cons, List.length_nil] at q; push_cast at q ⊢; omega)
            have HP2 := hid (show ∀ a' r', PR ai ri ([44] ++ (printV x ++ (rest))) a' r' → PR acc r T a' r' from by rw [← HS2.out]; exact HPr.out)
            go_wp2_with (first
              | (go_at_call 38; have hcall := add_any [44] RZ.out (by have hlo := HLo.out; push_cast at hlo; simp only [List.length_cons, List.length_nil]; omega); (with_reducible refine hcall.mono ?_); clear hcall; rintro e uA ⟨rfl, vA, aA, rA, q1, q2, q3⟩; have RA := hid q1; have FA := hid (FZ.out.trans q2); have PA := hid q3; have LA := q3.2.2; simp only [List.length_cons, List.length_nil] at LA; clear q1 q2 q3; have HXA := hid (box_keep HW0.out rfl HBw.out (F0.out.trans FA.out)); obtain ⟨bx0A, _, _, _, _, bx5A, bx6A, _⟩ := seven HXA.out; have HYA := hid (box_keep (w := wr) rfl rfl HBr.out FA.out); obtain ⟨py0A, py1A, py2A, py3A, py4A, py5A, py6A, _⟩ := seven HYA.out; clear RZ)
              | (go_at_call 22; have hcall := HC.out _ _ _ _ _ _ _ RA.out HFx.out HPx.out (HV.out.below FA.out.below) (by have hlo := HLo.out; push_cast at hlo; omega); (with_reducible refine hcall.mono ?_); clear hcall; rintro e uD ⟨rfl, vD, aD, rD, q1, q2, q3⟩; have RD := hid q1; have FD := hid (FA.out.trans q2); have PD := hid q3; have LD := q3.2.2; clear q1 q2 q3; clear RA))
            go_roundg (n1 - (i + 1) + 1)
            case measure => omega
            case rel =>
              refine ⟨i + 1, vD, aD, rD, by omega, rfl, by push_cast; rfl, RD.out, F0.out.trans FD.out, fun a' r' q => HP2.out _ _ (PA.out.trans (PD.out.trans (show PR aD rD rest a' r' from by rw [← HRest.out]; exact q))), ?_⟩
              have hlo := HLo.out
              show -4611686018427387904 ≤ rD - (printL false false (ls.drop (i + 1)) (ns.drop (i + 1))).length
              rw [HRest.out]
              push_cast at hlo
              omega
      · obtain rfl : i = n1 := by omega
        go_wp2
        go_end0
        refine ⟨rfl, vi, ai, ri, HWr.out, HFr.out.trans HF0.out, HPr.out _ _ ?_⟩
        have e1 : ls.drop i = [] := List.drop_of_length_le (by rw [HN.out.1]; exact Nat.le_refl _)
        rw [e1]
        simp only [printL]
        exact PR.none _ _
  · have HTo := hid (show printL true true ls ns = T from HT.out)
    go_enter Tryz.func41, Tryz.ntmps41
    go_wp2
    go_loopg [9] (n1 + 1) (fun gk s9 wr => ∃ (i : Nat) (vi : Value) (ai : B) (ri : Int), i ≤ n1 ∧ gk = n1 - i + 1 ∧ s9 = .int .i64 (i : Int) ∧ Wr wr N b vi ai ri ∧ WF N b W0 wr ∧ (∀ a' r', PR ai ri (printL true (decide (i = 0)) (ls.drop i) (ns.drop i)) a' r' → PR acc r T a' r') ∧ -4611686018427387904 ≤ ri - (printL true (decide (i = 0)) (ls.drop i) (ns.drop i)).length)
    case atStart => exact ⟨0, v, acc, r, by omega, rfl, rfl, by rw [← HW0.out]; exact HR0.out, by rw [← HW0.out]; exact WF.refl _ _ _, fun a' r' q => by rw [← HTo.out]; exact q, by have := HLo0.out; rw [← HTo.out] at this; exact this⟩
    case round =>
      obtain ⟨i, vi, ai, ri, hi, rfl, rfl, hwr, hf0, hpr, hli⟩ := hrel
      have HWr := hid hwr
      have HF0 := hid hf0
      have HPr := hid hpr
      have HLi := hid hli
      have HBr := hid (lt_of_heap hwr.row)
      clear hwr hf0 hpr hli
      by_cases hin : i < n1
      · have hi1 : i < ls.length := by rw [HN.out.1]; exact hin
        obtain ⟨g, oo, cs, rfl, hg, hv1, hc1⟩ := HParts.out.below HF0.out.below i ls[i] (List.getElem?_eq_getElem hi1)
        have hi2 : i < ns.length := by rw [show ns.length = ls.length from by first | exact HP.out.1 rfl | exact HP.out.1 trivial]; exact hi1
        have hin2 : i < n2 := by rw [← HN.out.2]; exact hi2
        obtain ⟨g2, o2, rfl, hg2, hnc⟩ := HNames.out.below HF0.out.below i ns[i] (List.getElem?_eq_getElem hi2)
        have HNmF := hid (HF.out.2.2.2.1 ns[i] (List.getElem_mem hi2))
        obtain ⟨nm, hnm⟩ : ∃ nm, ns[i] = nm := ⟨_, rfl⟩
        have hnd : ns.drop i = nm :: ns.drop (i + 1) := by rw [drop_get hi2, hnm]
        rw [hnm] at hnc HNmF
        have HG2 := hid hg2
        have HStep := hid (show printL true (decide (i = 0)) (ls.drop i) (ns.drop i) = (if decide (i = 0) then [] else [44]) ++ ((quoteB nm ++ [58]) ++ (printV ls[i] ++ printL true false (ls.drop (i + 1)) (ns.drop (i + 1)))) from by rw [drop_get hi1, hnd, printL_cons]; rfl)
        have HC := hid (HSO.out ls[i] (List.getElem_mem hi1))
        have HFx := hid (HF.out.2.2.2.2 ls[i] (List.getElem_mem hi1))
        have HPx := hid (HP.out.2 ls[i] (List.getElem_mem hi1))
        have hxe : ∃ x, ls[i] = x := ⟨_, rfl⟩
        obtain ⟨x, hx⟩ := hxe
        rw [hx] at hv1 HC HFx HPx HStep
        obtain ⟨k1, k2, k3, k4, k5, k6, k7, k8, k9, k10, k11, rfl⟩ := (hv1.on HWr.out.le).form
        obtain ⟨ca0, ca1, ca2, ca3, ca4, ca5, ca6⟩ := row7 hc1
        have HV := hid (hv1.below ((below_new wr (C7 k1 k2 k3 k4 k5 k6 k7 k8 k9 k10 k11)).mono HWr.out.le))
        have RZ := hid (HWr.out.below (below_new wr (C7 k1 k2 k3 k4 k5 k6 k7 k8 k9 k10 k11)))
        have FZ := hid (WF.refl N b (wr.alloc (C7 k1 k2 k3 k4 k5 k6 k7 k8 k9 k10 k11)))
        have F0 := hid (HF0.out.trans (WF.of_below (b := b) (below_new wr (C7 k1 k2 k3 k4 k5 k6 k7 k8 k9 k10 k11)) HWr.out.le))
        obtain ⟨_, kroom, _⟩ := two RZ.out.row
        have HXz := hid (box_keep HW0.out rfl HBw.out F0.out)
        obtain ⟨bx0, _, _, _, _, bx5, bx6, _⟩ := seven HXz.out
        clear hc1 hv1 hx
        have HNc := hid (show W0.cell? ⟨g2, o2 + i, none⟩ = some (.string (str nm)) from by rw [← cell_block (HF0.out.below.block g2 HG2.out)]; exact hnc)
        have hnmz := (cell_block (F0.out.below.block g2 HG2.out)).trans HNc.out
        clear hi1 hi2 hnc hg2 hnd hnm
        by_cases hneg : ri < 0
        · go_wp2
          (try simp only [Exit.inBlock, Exit.then])
          refine bodyPost_ret (results_none rfl _ _ _) rfl ?_
          exact ⟨rfl, vi, ai, ri, RZ.out, HFr.out.trans F0.out, HPr.out _ _ (PR.spent hneg _)⟩
        · by_cases h0 : i = 0
          · subst h0
            simp only [Nat.zero_mul, Nat.add_zero] at ca0 ca1 ca2 ca3 ca4 ca5 ca6
            simp only [Nat.add_zero] at hnmz HNc
            have HS2 := hid (show printL true (decide (0 = 0)) (ls.drop 0) (ns.drop 0) = quoteB nm ++ ([58] ++ (printV x ++ (printL true false (ls.drop (0 + 1)) (ns.drop (0 + 1))))) from by rw [HStep.out]; simp)
            obtain ⟨rest, hrest⟩ : ∃ rest, printL true false (ls.drop (0 + 1)) (ns.drop (0 + 1)) = rest := ⟨_, rfl⟩
            rw [hrest] at HS2
            have HRest := hid hrest
            clear hrest
            have HLo := hid (show -4611686018427387904 ≤ ri - ((((quoteB nm).length + 1 + (printV x).length + rest.length : Nat)) : Int) from by have q := HLi.out; rw [HS2.out] at q; simp only [List.length_append, List.length_cons, List.length_nil] at q; push_cast at q ⊢; omega)
            have HP2 := hid (show ∀ a' r', PR ai ri (quoteB nm ++ ([58] ++ (printV x ++ (rest)))) a' r' → PR acc r T a' r' from by rw [← HS2.out]; exact HPr.out)
            go_wp2_with (first
              | (go_at_call 40; have hcall := quoted_any nm HNmF.out RZ.out (by have hlo := HLo.out; push_cast at hlo; omega); (with_reducible refine hcall.mono ?_); clear hcall; rintro e uB ⟨rfl, vB, aB, rB, q1, q2, q3⟩; have RB := hid q1; have FB := hid (FZ.out.trans q2); have PB := hid q3; have LB := q3.2.2; clear q1 q2 q3; have HXB := hid (box_keep HW0.out rfl HBw.out (F0.out.trans FB.out)); obtain ⟨bx0B, _, _, _, _, bx5B, bx6B, _⟩ := seven HXB.out; have HYB := hid (box_keep (w := wr) rfl rfl HBr.out FB.out); obtain ⟨py0B, py1B, py2B, py3B, py4B, py5B, py6B, _⟩ := seven HYB.out; have hnmB := (cell_block ((F0.out.trans FB.out).below.block g2 HG2.out)).trans HNc.out; clear RZ)
              | (go_at_call 38; have hcall := add_any [58] RB.out (by have hlo := HLo.out; push_cast at hlo; simp only [List.length_cons, List.length_nil]; omega); (with_reducible refine hcall.mono ?_); clear hcall; rintro e uC ⟨rfl, vC, aC, rC, q1, q2, q3⟩; have RC := hid q1; have FC := hid (FB.out.trans q2); have PC := hid q3; have LC := q3.2.2; simp only [List.length_cons, List.length_nil] at LC; clear q1 q2 q3; have HXC := hid (box_keep HW0.out rfl HBw.out (F0.out.trans FC.out)); obtain ⟨bx0C, _, _, _, _, bx5C, bx6C, _⟩ := seven HXC.out; have HYC := hid (box_keep (w := wr) rfl rfl HBr.out FC.out); obtain ⟨py0C, py1C, py2C, py3C, py4C, py5C, py6C, _⟩ := seven HYC.out; have hnmC := (cell_block ((F0.out.trans FC.out).below.block g2 HG2.out)).trans HNc.out; clear RB)
              | (go_at_call 22; have hcall := HC.out _ _ _ _ _ _ _ RC.out HFx.out HPx.out (HV.out.below FC.out.below) (by have hlo := HLo.out; push_cast at hlo; omega); (with_reducible refine hcall.mono ?_); clear hcall; rintro e uD ⟨rfl, vD, aD, rD, q1, q2, q3⟩; have RD := hid q1; have FD := hid (FC.out.trans q2); have PD := hid q3; have LD := q3.2.2; clear q1 q2 q3; clear RC))
            go_roundg (n1 - (0 + 1) + 1)
            case measure => omega
            case rel =>
              refine ⟨0 + 1, vD, aD, rD, by omega, rfl, by push_cast; rfl, RD.out, F0.out.trans FD.out, fun a' r' q => HP2.out _ _ (PB.out.trans (PC.out.trans (PD.out.trans (show PR aD rD rest a' r' from by rw [← HRest.out]; exact q)))), ?_⟩
              have hlo := HLo.out
              show -4611686018427387904 ≤ rD - (printL true false (ls.drop (0 + 1)) (ns.drop (0 + 1))).length
              rw [HRest.out]
              push_cast at hlo
              omega
          · have hpos : 0 < i := by omega
            have HS2 := hid (show printL true (decide (i = 0)) (ls.drop i) (ns.drop i) = [44] ++ (quoteB nm ++ ([58] ++ (printV x ++ (printL true false (ls.drop (i + 1)) (ns.drop (i + 1)))))) from by rw [HStep.out]; simp [show ¬ i = 0 by omega])
            obtain ⟨rest, hrest⟩ : ∃ rest, printL true false (ls.drop (i + 1)) (ns.drop (i + 1)) = rest := ⟨_, rfl⟩
            rw [hrest] at HS2
            have HRest := hid hrest
            clear hrest
            have HLo := hid (show -4611686018427387904 ≤ ri - (((1 + (quoteB nm).length + 1 + (printV x).length + rest.length : Nat)) : Int) from by have q := HLi.out; rw [HS2.out] at q; simp only [List.length_append, List.length_cons, List.length_nil] at q; push_cast at q ⊢; omega)
            have HP2 := hid (show ∀ a' r', PR ai ri ([44] ++ (quoteB nm ++ ([58] ++ (printV x ++ (rest))))) a' r' → PR acc r T a' r' from by rw [← HS2.out]; exact HPr.out)
            go_wp2_with (first
              | (go_at_call 38; have hcall := add_any [44] RZ.out (by have hlo := HLo.out; push_cast at hlo; simp only [List.length_cons, List.length_nil]; omega); (with_reducible refine hcall.mono ?_); clear hcall; rintro e uA ⟨rfl, vA, aA, rA, q1, q2, q3⟩; have RA := hid q1; have FA := hid (FZ.out.trans q2); have PA := hid q3; have LA := q3.2.2; simp only [List.length_cons, List.length_nil] at LA; clear q1 q2 q3; have HXA := hid (box_keep HW0.out rfl HBw.out (F0.out.trans FA.out)); obtain ⟨bx0A, _, _, _, _, bx5A, bx6A, _⟩ := seven HXA.out; have HYA := hid (box_keep (w := wr) rfl rfl HBr.out FA.out); obtain ⟨py0A, py1A, py2A, py3A, py4A, py5A, py6A, _⟩ := seven HYA.out; have hnmA := (cell_block ((F0.out.trans FA.out).below.block g2 HG2.out)).trans HNc.out; clear RZ)
              | (go_at_call 40; have hcall := quoted_any nm HNmF.out RA.out (by have hlo := HLo.out; push_cast at hlo; omega); (with_reducible refine hcall.mono ?_); clear hcall; rintro e uB ⟨rfl, vB, aB, rB, q1, q2, q3⟩; have RB := hid q1; have FB := hid (FA.out.trans q2); have PB := hid q3; have LB := q3.2.2; clear q1 q2 q3; have HXB := hid (box_keep HW0.out rfl HBw.out (F0.out.trans FB.out)); obtain ⟨bx0B, _, _, _, _, bx5B, bx6B, _⟩ := seven HXB.out; have HYB := hid (box_keep (w := wr) rfl rfl HBr.out FB.out); obtain ⟨py0B, py1B, py2B, py3B, py4B, py5B, py6B, _⟩ := seven HYB.out; have hnmB := (cell_block ((F0.out.trans FB.out).below.block g2 HG2.out)).trans HNc.out; clear RA)
              | (go_at_call 38; have hcall := add_any [58] RB.out (by have hlo := HLo.out; push_cast at hlo; simp only [List.length_cons, List.length_nil]; omega); (with_reducible refine hcall.mono ?_); clear hcall; rintro e uC ⟨rfl, vC, aC, rC, q1, q2, q3⟩; have RC := hid q1; have FC := hid (FB.out.trans q2); have PC := hid q3; have LC := q3.2.2; simp only [List.length_cons, List.length_nil] at LC; clear q1 q2 q3; have HXC := hid (box_keep HW0.out rfl HBw.out (F0.out.trans FC.out)); obtain ⟨bx0C, _, _, _, _, bx5C, bx6C, _⟩ := seven HXC.out; have HYC := hid (box_keep (w := wr) rfl rfl HBr.out FC.out); obtain ⟨py0C, py1C, py2C, py3C, py4C, py5C, py6C, _⟩ := seven HYC.out; have hnmC := (cell_block ((F0.out.trans FC.out).below.block g2 HG2.out)).trans HNc.out; clear RB)
              | (go_at_call 22; have hcall := HC.out _ _ _ _ _ _ _ RC.out HFx.out HPx.out (HV.out.below FC.out.below) (by have hlo := HLo.out; push_cast at hlo; omega); (with_reducible refine hcall.mono ?_); clear hcall; rintro e uD ⟨rfl, vD, aD, rD, q1, q2, q3⟩; have RD := hid q1; have FD := hid (FC.out.trans q2); have PD := hid q3; have LD := q3.2.2; clear q1 q2 q3; clear RC))
            go_roundg (n1 - (i + 1) + 1)
            case measure => omega
            case rel =>
              refine ⟨i + 1, vD, aD, rD, by omega, rfl, by push_cast; rfl, RD.out, F0.out.trans FD.out, fun a' r' q => HP2.out _ _ (PA.out.trans (PB.out.trans (PC.out.trans (PD.out.trans (show PR aD rD rest a' r' from by rw [← HRest.out]; exact q))))), ?_⟩
              have hlo := HLo.out
              show -4611686018427387904 ≤ rD - (printL true false (ls.drop (i + 1)) (ns.drop (i + 1))).length
              rw [HRest.out]
              push_cast at hlo
              omega
      · obtain rfl : i = n1 := by omega
        go_wp2
        go_end0
        refine ⟨rfl, vi, ai, ri, HWr.out, HFr.out.trans HF0.out, HPr.out _ _ ?_⟩
        have e1 : ls.drop i = [] := List.drop_of_length_le (by rw [HN.out.1]; exact Nat.le_refl _)
        rw [e1]
        simp only [printL]
        exact PR.none _ _
end Go.Proofs.YtkoeihliaandeaaGreatDoor
