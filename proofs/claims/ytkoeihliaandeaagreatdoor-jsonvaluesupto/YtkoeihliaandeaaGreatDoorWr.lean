/- A text is put together: add, quoted. -/
import Derived.Test.YtkoeihliaandeaaGreatDoorQuo
namespace Go.Proofs.YtkoeihliaandeaaGreatDoor
open Go.RowKit

/-- Block b is a writer whose text so far is acc; r bytes may be added. -/
structure Wr (w : World) (N b : Nat) (v : Value) (acc : B) (r : Int) : Prop where
  row : w.heap[b]? = some (.cells #[v, .int .i64 r] 57 (0, 0))
  own : Own w N v acc
  ge : N ≤ b
  le : N ≤ w.heap.size
  lo : -4611686018427387904 ≤ r
  hi : r ≤ 1048576
  len : acc.length ≤ 1048576 ∧ (0 ≤ r → (acc.length : Int) + r ≤ 1048576)
/-- Below N nothing has turned; beside the writer only rows of bytes have. -/
structure WF (N b : Nat) (w w' : World) : Prop where
  below : Below N w w'
  typed : ∀ k cs T fr, k ≠ b → T ≠ 5 → w.heap[k]? = some (.cells cs T fr) → w'.heap[k]? = some (.cells cs T fr)
theorem WF.trans {N b : Nat} {x y z : World} (h : WF N b x y) (k : WF N b y z) : WF N b x z := ⟨h.below.trans k.below, fun j cs T fr h1 h2 h3 => k.typed j cs T fr h1 h2 (h.typed j cs T fr h1 h2 h3)⟩
theorem WF.refl (N b : Nat) (w : World) : WF N b w w := ⟨Below.refl _ _, fun _ _ _ _ _ _ h => h⟩
theorem WF.of_below {N b : Nat} {w w' : World} (h : Below w.heap.size w w') (hN : N ≤ w.heap.size) : WF N b w w' := ⟨h.mono hN, fun k _ _ _ _ _ h3 => (h.block k (lt_of_heap h3)).trans h3⟩
theorem WF.setCell {N b : Nat} {w w' : World} (h : WF N b w w') (hb : N ≤ b) (j : Nat) (c : Value) : WF N b w (w'.setCell ⟨b, j, none⟩ c) :=
  h.trans ⟨Below.setCell (Below.refl _ _) hb _, fun _ _ _ _ h1 _ h3 => by rw [Below.heap_setCell _ _ _ _ h1]; exact h3⟩
theorem WF.grown {N b : Nat} {w w' : World} {v : Value} {acc : B} (ho : Own w N v acc) (hN : N ≤ w.heap.size) (hg : w.grownBy w' v.ownBlock) : WF N b w w' := by
  refine ⟨ho.below hN hg, fun k cs T fr _ h2 h3 => ?_⟩
  refine (hg.block k (lt_of_heap h3) (fun e => ?_)).trans h3
  rcases ho.2 with ⟨h4, _⟩ | ⟨g, cap, cur, h4, h5, h6, _⟩
  · rw [h4] at e; simp [Value.ownBlock] at e
  · rw [h4] at e
    simp [Value.ownBlock] at e
    subst e
    rw [h6] at h3
    simp at h3
    exact h2 h3.2.1.symm
theorem Wr.below {w w' : World} {N b : Nat} {v : Value} {acc : B} {r : Int} (h : Wr w N b v acc r) (hb : Below w.heap.size w w') : Wr w' N b v acc r := by
  refine ⟨(hb.block b (lt_of_heap h.row)).trans h.row, ⟨h.own.1, ?_⟩, h.ge, Nat.le_trans h.le hb.size, h.lo, h.hi, h.len⟩
  rcases h.own.2 with h1 | ⟨g, cap, cur, h1, h2, h3, h4⟩
  · exact .inl h1
  · exact .inr ⟨g, cap, cur, h1, h2, (hb.block g (lt_of_heap h3)).trans h3, h4⟩
/-- How much was written: all, if there is room; else there is none left. -/
def PR (acc : B) (r : Int) (out : B) (acc' : B) (r' : Int) : Prop :=
  (0 ≤ r ∧ (out.length : Int) ≤ r → acc' = acc ++ out ∧ r' = r - out.length) ∧ (¬ (0 ≤ r ∧ (out.length : Int) ≤ r) → r' < 0) ∧ r - out.length ≤ r'
theorem PR.trans {a1 a2 a3 o1 o2 : B} {r1 r2 r3 : Int} (h : PR a1 r1 o1 a2 r2) (k : PR a2 r2 o2 a3 r3) : PR a1 r1 (o1 ++ o2) a3 r3 := by
  obtain ⟨h1, h2, h3⟩ := h
  obtain ⟨k1, k2, k3⟩ := k
  unfold PR
  rw [List.length_append]
  refine ⟨fun ⟨q1, q2⟩ => ?_, fun q => ?_, by push_cast; omega⟩
  · push_cast at q2
    obtain ⟨e1, e2⟩ := h1 ⟨q1, by omega⟩
    obtain ⟨e3, e4⟩ := k1 ⟨by omega, by omega⟩
    exact ⟨by rw [e3, e1, List.append_assoc], by push_cast; omega⟩
  · by_cases q3 : 0 ≤ r1 ∧ (o1.length : Int) ≤ r1
    · obtain ⟨e1, e2⟩ := h1 q3
      exact k2 (fun q4 => q ⟨q3.1, by push_cast; omega⟩)
    · have := h2 q3
      exact k2 (fun q4 => by omega)
theorem PR.none (a : B) (r : Int) : PR a r [] a r := ⟨fun _ => ⟨by simp, by simp⟩, fun h => by simp at h; omega, by simp⟩
theorem PR.spent {a : B} {r : Int} (h : r < 0) (o : B) : PR a r o a r := ⟨fun q => by omega, fun _ => h, by omega⟩
def Wrote (N b : Nat) (acc : B) (r : Int) (out : B) (w w' : World) : Prop := ∃ v' acc' r', Wr w' N b v' acc' r' ∧ WF N b w w' ∧ PR acc r out acc' r'
structure Two (w : World) (b : Nat) (c0 c1 : Value) : Prop where
  a0 : w.cell? ⟨b, 0, none⟩ = some c0
  a1 : w.cell? ⟨b, 1, none⟩ = some c1
  fz : ∀ j, w.frozen? ⟨b, j, none⟩ = false
theorem two {w : World} {b : Nat} {c0 c1 : Value} {T : TypeId} (h : w.heap[b]? = some (.cells #[c0, c1] T (0, 0))) : Two w b c0 c1 := by
  refine ⟨?_, ?_, fun j => by simp [World.frozen?, h]⟩ <;> simp [World.cell?, h]
theorem set_one {w : World} {b : Nat} {c0 c1 : Value} {T : TypeId} (h : w.heap[b]? = some (.cells #[c0, c1] T (0, 0))) (c : Value) : (w.setCell ⟨b, 1, none⟩ c).heap[b]? = some (.cells #[c0, c] T (0, 0)) := by
  simp [World.setCell, Array.getElem?_modify, h]
theorem set_none {w : World} {b : Nat} {c0 c1 : Value} {T : TypeId} (h : w.heap[b]? = some (.cells #[c0, c1] T (0, 0))) (c : Value) : (w.setCell ⟨b, 0, none⟩ c).heap[b]? = some (.cells #[c, c1] T (0, 0)) := by
  simp [World.setCell, Array.getElem?_modify, h]
theorem Own.set {w : World} {N b j : Nat} {v c0 c1 c : Value} {acc : B} (h : Own w N v acc) (hb : w.heap[b]? = some (.cells #[c0, c1] 57 (0, 0))) : Own (w.setCell ⟨b, j, none⟩ c) N v acc := by
  refine ⟨h.1, ?_⟩
  rcases h.2 with h1 | ⟨g, cap, cur, h1, h2, h3, h4⟩
  · exact .inl h1
  · refine .inr ⟨g, cap, cur, h1, h2, ?_, h4⟩
    rw [Below.heap_setCell _ _ _ _ (fun e => ?_)]
    · exact h3
    · have e2 : g = b := e
      subst e2
      rw [hb] at h3
      simp at h3
theorem own_type {w : World} {N k : Nat} {v : Value} {acc : B} {cs : Array Value} {T : TypeId} {fr : Nat × Nat} (h : Own w N v acc) (e : v.ownBlock = some k) (hk : w.heap[k]? = some (.cells cs T fr)) : T = 5 := by
  rcases h.2 with ⟨h4, _⟩ | ⟨g, cap, cur, h4, h5, h6, _⟩
  · rw [h4] at e; simp [Value.ownBlock] at e
  · rw [h4] at e
    simp [Value.ownBlock] at e
    subst e
    rw [h6] at hk
    simp at hk
    exact hk.2.1.symm
theorem str_size (s : B) : (str s).size = s.length := by
  show s.toArray.size = s.length
  simp
theorem strCells_str (s : B) : Lib.strCells (str s) = Lib.byteCells s := by
  simp [Lib.strCells, Lib.byteCells]
set_option maxRecDepth 20000 in
set_option maxHeartbeats 4000000 in
theorem add_any {w : World} {N b : Nat} {v : Value} {acc : B} {r : Int} (s : B) (h : Wr w N b v acc r) (hlo : -4611686018427387904 ≤ r - s.length) :
    Calls Tryz.prog 38 #[.pointer (some ⟨b, 0, none⟩), .string (str s)] w fun e w' => e = .returned (.tuple #[]) ∧ Wrote N b acc r s w w' := by
  obtain ⟨p, L, c0, rfl⟩ := own_slice3 h.own
  obtain ⟨i0, hi0, hz0, hz1, hz2⟩ := info_parts infoB
  obtain ⟨S, hS⟩ : ∃ S, str s = S := ⟨_, rfl⟩
  obtain ⟨n, hn⟩ : ∃ n, S.size = n := ⟨_, rfl⟩
  have hsl : s.length = n := by rw [← hn, ← hS, str_size]
  have HS := hid hS
  have HN := hid hsl
  have H := hid h
  have hr1 := h.lo
  have hr2 := h.hi
  obtain ⟨k0, k1, kz⟩ := two h.row
  have kz1 := kz 1
  rw [hS]
  rw [hsl] at hlo
  clear hS hsl h kz
  by_cases hneg : r - (n : Int) < 0
  · have hq : ¬ (0 ≤ r - (n : Int)) := by omega
    go_enter Tryz.func38, Tryz.ntmps38
    go_wp2
    go_end0
    refine ⟨rfl, _, acc, r - n, ⟨set_one H.out.row _, H.out.own.set H.out.row, H.out.ge, by rw [size_set]; exact H.out.le, by omega, by omega, H.out.len.1, fun q => by omega⟩, (WF.refl _ _ _).setCell H.out.ge _ _, fun q => ?_, fun _ => hneg, ?_⟩
    · rw [HN.out] at q; omega
    · rw [HN.out]; exact Int.le_refl _
  · have hq : 0 ≤ r - (n : Int) := by omega
    have HR1 := hid (set_one H.out.row (.int .i64 (r - (n : Int))))
    have HO1 := hid (H.out.own.set (j := 1) (c := .int .i64 (r - (n : Int))) H.out.row)
    have HLn := hid H.out.len
    have hlen : acc.length + n ≤ 1048576 := by
      have := HLn.out.2 (by omega)
      omega
    obtain ⟨W1, hW1⟩ : ∃ W1, W1 = w.setCell ⟨b, 1, none⟩ (.int .i64 (r - (n : Int))) := ⟨_, rfl⟩
    have HF1 := hid (show WF N b w W1 from by rw [hW1]; exact (WF.refl _ _ _).setCell H.out.ge _ _)
    have HLe1 := hid (show N ≤ W1.heap.size from Nat.le_trans H.out.le HF1.out.below.size)
    rw [← hW1] at HR1 HO1
    obtain ⟨j0, j1, jz⟩ := two HR1.out
    have jz0 := jz 0
    clear jz
    obtain ⟨la, hla⟩ : ∃ la, acc.length = la := ⟨_, rfl⟩
    have HLa := hid hla
    have HGe := hid H.out.ge
    rw [hla] at hlen
    have HW1 := hid hW1
    clear hla H
    go_enter Tryz.func38, Tryz.ntmps38
    go_wp2_with (first
      | (at_builtin; (rw [← hW1]; refine Lib.wpList_append_own_string W1 rfl (.tmp 22) (.tmp 23) 55 9 rfl N 5 i0 Tryz.underlying55 Tryz.underlying9 hi0 hz0 hz1 hz2 (.slice p L c0) la (Lib.byteCells acc) (by go_simp) (by have := HO1.out; unfold Own at this; rw [HLa.out] at this; exact this) S (by go_simp) (by rw [hn]; unfold maxLen; omega) (by rw [hn]; omega) HLe1.out ?_; intro v' w2 hown hgr _; obtain ⟨p7, L7, c7, rfl⟩ := own_slice3 hown; have HO2 := hid (Own.put (acc := acc) (bs := s) (by rw [HLa.out]; exact hown) (by rw [← HS.out, strCells_str]) (by rw [hn, HN.out])); have HF2 := hid (WF.grown (b := b) HO1.out HLe1.out hgr); have HR2 := hid (HR1.out ▸ (hgr.block b (lt_of_heap HR1.out) (fun e => by have := own_type HO1.out e.symm HR1.out; simp at this))); obtain ⟨y0, y1, yz⟩ := two HR2.out; have yz0 := yz 0; clear hown hgr yz)))
    go_end0
    refine ⟨rfl, .slice p7 L7 c7, acc ++ s, r - n, ⟨set_none HR2.out _, HO2.out.set HR2.out, HGe.out, by rw [size_set]; exact Nat.le_trans HLe1.out HF2.out.below.size, by omega, by omega, by rw [List.length_append, HLa.out, HN.out]; exact hlen, fun q => ?_⟩, (HF1.out.trans HF2.out).setCell HGe.out _ _, fun _ => ⟨rfl, by rw [HN.out]⟩, fun q => absurd ⟨by omega, by rw [HN.out]; omega⟩ q, by rw [HN.out]; exact Int.le_refl _⟩
    have := HLn.out.2 (by omega)
    rw [List.length_append, HN.out]
    push_cast
    omega
end Go.Proofs.YtkoeihliaandeaaGreatDoor
