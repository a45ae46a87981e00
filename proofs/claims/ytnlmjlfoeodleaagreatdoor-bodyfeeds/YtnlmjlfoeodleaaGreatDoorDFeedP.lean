/- The document's reader of chunked bodies, fed: what its walk finds in memory. -/
import Derived.Test.YtnlmjlfoeodleaaGreatDoorDStepA
import Derived.Test.YtnlmjlfoeodleaaGreatDoorKCut
namespace Go.Proofs.YtnlmjlfoeodleaaGreatDoor
open Go.RowKit

theorem stepD_le {d : DK} (h : d.st ≤ 7) (c : UInt8) : (stepD d c).st ≤ 9 := by
  unfold stepD
  split
  · dsimp only; split <;> omega
  · split
    · split <;> simp [failD]
    · split
      · split <;> simp [failD]
      · split
        · unfold trailD
          (repeat' split) <;> simp [failD, cntD] <;> omega
        · unfold sizeD
          (repeat' split) <;> simp [failD] <;> (try split) <;> omega
theorem stepD_3 {d : DK} (h : d.st = 3) (c : UInt8) : (stepD d c).st ≤ 5 ∧ (stepD d c).line = d.line ∧ (stepD d c).tr = d.tr := by
  unfold stepD
  rw [if_pos h]
  refine ⟨?_, rfl, rfl⟩
  dsimp only
  split <;> omega
theorem stepD_nil {d : DK} (h7 : d.st ≤ 7) (h : d.st ≤ 5 → d.line = [] ∧ d.tr = []) (c : UInt8) : (stepD d c).st ≤ 5 → (stepD d c).line = [] ∧ (stepD d c).tr = [] := by
  by_cases h5 : d.st ≤ 5
  · obtain ⟨h1, h2⟩ := h h5
    intro _
    unfold stepD
    rw [← h1, ← h2]
    split
    · exact ⟨rfl, rfl⟩
    · split
      · split <;> exact ⟨rfl, rfl⟩
      · split
        · split <;> exact ⟨rfl, rfl⟩
        · split
          · omega
          · unfold sizeD
            (repeat' split) <;> exact ⟨rfl, rfl⟩
  · unfold stepD
    rw [if_neg (by omega), if_neg (by omega), if_neg (by omega), if_pos (by omega)]
    unfold trailD
    (repeat' split) <;> intro h9 <;> simp [failD, cntD] at h9 <;> omega
/-- What was fed so far, and what is still to come. -/
structure FedJ (d : DK) (l : B) (i : Nat) (di : DK) (X : B) : Prop where
  eq : feedD d l = ((feedD di (l.drop i)).1, i + (feedD di (l.drop i)).2.1, X ++ (feedD di (l.drop i)).2.2)
  ok : di.st ≤ 7 → OkD di
  le : di.st ≤ 9
  nil : di.st ≤ 5 → di.line = [] ∧ di.tr = []
  len : X.length ≤ i
theorem FedJ.start {d : DK} (h : d.st ≤ 7 → OkD d) (h9 : d.st ≤ 9) (hn : d.st ≤ 5 → d.line = [] ∧ d.tr = []) (l : B) : FedJ d l 0 d [] := ⟨by simp, h, h9, hn, Nat.le_refl _⟩
theorem not_end {d : DK} (h9 : d.st ≤ 9) (h8 : d.st ≠ 8) (h : d.st ≠ 9) : ¬ endD d ∧ d.st ≤ 7 := ⟨fun e => by rcases e with e | e; exact h8 e; exact h e, by omega⟩
theorem FedJ.step {d di : DK} {l X : B} {i : Nat} {y : UInt8} (h : FedJ d l i di X) (h8 : di.st ≠ 8) (h9 : di.st ≠ 9) (hy : l[i]? = some y) : FedJ d l (i + 1) (stepD di y) (X ++ (if di.st = 3 then [y] else [])) := by
  obtain ⟨hn, h7⟩ := not_end h.le h8 h9
  have hc : l.drop i = y :: l.drop (i + 1) := by
    have hlt := (List.getElem?_eq_some_iff.1 hy).1
    rw [List.drop_eq_getElem_cons hlt]
    congr 1
    exact (List.getElem?_eq_some_iff.1 hy).2
  refine ⟨?_, fun h5 => okD_step (h.ok h7) y h5, stepD_le h7 y, stepD_nil h7 h.nil y, ?_⟩
  · rw [h.eq, hc, fd_cons hn]
    dsimp only
    rw [List.append_assoc, Nat.add_right_comm, Nat.add_assoc i]
  · have := h.len
    rw [List.length_append]
    split <;> simp <;> omega
theorem feedD_inv : ∀ (l : B) {d : DK}, (d.st ≤ 7 → OkD d) → d.st ≤ 9 → (d.st ≤ 5 → d.line = [] ∧ d.tr = []) → ((feedD d l).1.st ≤ 7 → OkD (feedD d l).1) ∧ (feedD d l).1.st ≤ 9 ∧ ((feedD d l).1.st ≤ 5 → (feedD d l).1.line = [] ∧ (feedD d l).1.tr = [])
  | [], d, h1, h2, h3 => ⟨h1, h2, h3⟩
  | c :: l, d, h1, h2, h3 => by
    by_cases he : endD d
    · rw [fd_ended he]; exact ⟨h1, h2, h3⟩
    · rw [fd_cons he]
      have h7 : d.st ≤ 7 := by
        rcases Nat.lt_or_ge 7 d.st with h8 | h8
        · exact absurd (show d.st = 8 ∨ d.st = 9 by omega) he
        · exact h8
      exact feedD_inv l (fun h5 => okD_step (h1 h7) c h5) (stepD_le h7 c) (stepD_nil h7 h3 c)
theorem FedJ.ends {d di : DK} {l X : B} {i : Nat} (h : FedJ d l i di X) (he : endD di) : feedD d l = (di, i, X) := by rw [h.eq, fd_ended he]; simp
theorem FedJ.all {d di : DK} {l X : B} {i : Nat} (h : FedJ d l i di X) (he : l.length ≤ i) : feedD d l = (di, i, X) := by rw [h.eq, List.drop_of_length_le he]; simp [feedD]
theorem only10 (w : World) (g : Nat) (c0 c1 c2 c3 c4 c5 c6 c7 c8 c9 : Value) : Only (fun k => k = g) w ((((((((((w.setCell ⟨g, 0, none⟩ c0).setCell ⟨g, 1, none⟩ c1).setCell ⟨g, 2, none⟩ c2).setCell ⟨g, 3, none⟩ c3).setCell ⟨g, 4, none⟩ c4).setCell ⟨g, 5, none⟩ c5).setCell ⟨g, 6, none⟩ c6).setCell ⟨g, 7, none⟩ c7).setCell ⟨g, 8, none⟩ c8).setCell ⟨g, 9, none⟩ c9) := by
  iterate 10 refine Only.set (F := fun k => k = g) ?_ rfl _
  exact Only.refl _ _
/-- The rows of a reader stay where a reader's own block is written. -/
theorem dk_put2 {w : World} {g : Nat} {d : DK} {lp tp : Option Addr} {lc tc : Nat} {T : TypeId} {z0 z1 z2 z3 z4 z5 z6 z8 : Int} {a b : Option Addr} {n1 n2 k1 k2 : Nat} (h : DkAt w d lp lc tp tc) (hz : w.heap[g]? = some (.cells #[.int .i64 z0, .int .i64 z1, .int .i64 z2, .int .i64 z3, .int .i64 z4, .int .i64 z5, .int .i64 z6, .slice a n1 k1, .int .i64 z8, .slice b n2 k2] T (0, 0))) (c0 c1 c2 c3 c4 c5 c6 c7 c8 c9 : Value) : DkAt ((((((((((w.setCell ⟨g, 0, none⟩ c0).setCell ⟨g, 1, none⟩ c1).setCell ⟨g, 2, none⟩ c2).setCell ⟨g, 3, none⟩ c3).setCell ⟨g, 4, none⟩ c4).setCell ⟨g, 5, none⟩ c5).setCell ⟨g, 6, none⟩ c6).setCell ⟨g, 7, none⟩ c7).setCell ⟨g, 8, none⟩ c8).setCell ⟨g, 9, none⟩ c9) d lp lc tp tc := by
  have hU : ∀ k, k ≠ g → ((((((((((w.setCell ⟨g, 0, none⟩ c0).setCell ⟨g, 1, none⟩ c1).setCell ⟨g, 2, none⟩ c2).setCell ⟨g, 3, none⟩ c3).setCell ⟨g, 4, none⟩ c4).setCell ⟨g, 5, none⟩ c5).setCell ⟨g, 6, none⟩ c6).setCell ⟨g, 7, none⟩ c7).setCell ⟨g, 8, none⟩ c8).setCell ⟨g, 9, none⟩ c9).heap[k]? = w.heap[k]? := by
    intro k hk
    iterate 10 rw [Below.heap_setCell _ _ _ _ (fun e => hk e)]
  refine ⟨arg_off h.line hU (fun k n e => ?_), h.lcap, h.lnil, fat_off h.tr hU (fun k s e => ?_), h.tnil, h.g.next (by simp only [size_set, Nat.le_refl])⟩
  · simp only [World.cell?, hz] at e
    simp at e
    have h9 := List.mem_of_getElem? e
    simp at h9
  · simp only [World.cell?, hz] at e
    simp at e
    have h9 := List.mem_of_getElem? e
    simp at h9
/-- The reader's box, the answer's box, the rows, what was told. -/
structure DFS (w wr : World) (di : DK) (lp : Option Addr) (ln lc : Nat) (tp : Option Addr) (tn tc : Nat) (v : Value) (X : B) : Prop where
  two : TwoAt w wr (.cells (dkC di (.slice lp ln lc) (.slice tp tn tc)) 35 (0, 0)) (.cells zzD 35 (0, 0))
  hl : di.line.length = ln
  ht : di.tr.length = tn
  rows : DkAt wr di lp lc tp tc
  out : Own wr (w.heap.size + 2) v X
theorem DFS.start {w : World} {d : DK} {lp tp : Option Addr} {ln lc tn tc : Nat} (hl : d.line.length = ln) (ht : d.tr.length = tn) (hA : DkAt w d lp lc tp tc) : DFS w ((w.alloc (.cells (dkC d (.slice lp ln lc) (.slice tp tn tc)) 35 (0, 0))).alloc (.cells zzD 35 (0, 0))) d lp ln lc tp tn tc (.slice none 0 0) [] :=
  ⟨TwoAt.start _ _ _, hl, ht, hA.next (below_twoD _ _ _), Own.nil _ _⟩
/-- Behind the drawn region: the new reader lies at G. -/
structure DF4 (w U : World) (o1 : Obj) (G : Nat) (C : Array Value) (d1 : DK) (lp1 : Option Addr) (lc1 : Nat) (tp1 : Option Addr) (tc1 : Nat) (v : Value) (X : B) : Prop where
  two : TwoAt w U o1 (.cells zzD 35 (0, 0))
  new : U.heap[G]? = some (.cells C 35 (0, 0))
  low : w.heap.size + 2 ≤ G
  rows : DkAt U d1 lp1 lc1 tp1 tc1
  out : Own U (w.heap.size + 2) v X
theorem df4_a {w W1 w2 : World} {o1 : Obj} {C : Array Value} {d1 : DK} {lp1 tp1 : Option Addr} {lc1 tc1 : Nat} {v : Value} {X : B} (ht : TwoAt w W1 o1 (.cells zzD 35 (0, 0))) (ho : Own W1 (w.heap.size + 2) v X) (hb : Below W1.heap.size W1 w2) (hr : DkAt w2 d1 lp1 lc1 tp1 tc1) : DF4 w (w2.alloc (.cells C 35 (0, 0))) o1 w2.heap.size C d1 lp1 lc1 tp1 tc1 v X :=
  ⟨(ht.next (hb.mono ht.sz)).next ((below_new _ _).mono (Nat.le_trans ht.sz hb.size)), heap_alloc_new _ _, Nat.le_trans ht.sz hb.size, hr.next (below_new _ _), (ho.keep hb).keep (below_new _ _)⟩
theorem df4_b {w W1 w2 : World} {o1 : Obj} {d1 : DK} {lp1 tp1 : Option Addr} {lc1 tc1 : Nat} {v : Value} {X : B} (c0 c1 c2 c3 c4 c5 c6 c7 c8 c9 : Value) (ht : TwoAt w W1 o1 (.cells zzD 35 (0, 0))) (ho : Own W1 (w.heap.size + 2) v X) (hb : Below (W1.alloc (.cells zzD 35 (0, 0))).heap.size (W1.alloc (.cells zzD 35 (0, 0))) w2) (hr : DkAt w2 d1 lp1 lc1 tp1 tc1) : DF4 w ((((((((((w2.setCell ⟨W1.heap.size, 0, none⟩ c0).setCell ⟨W1.heap.size, 1, none⟩ c1).setCell ⟨W1.heap.size, 2, none⟩ c2).setCell ⟨W1.heap.size, 3, none⟩ c3).setCell ⟨W1.heap.size, 4, none⟩ c4).setCell ⟨W1.heap.size, 5, none⟩ c5).setCell ⟨W1.heap.size, 6, none⟩ c6).setCell ⟨W1.heap.size, 7, none⟩ c7).setCell ⟨W1.heap.size, 8, none⟩ c8).setCell ⟨W1.heap.size, 9, none⟩ c9) o1 W1.heap.size #[c0, c1, c2, c3, c4, c5, c6, c7, c8, c9] d1 lp1 lc1 tp1 tc1 v X := by
  have hz : w2.heap[W1.heap.size]? = some (.cells zzD 35 (0, 0)) := (hb.block _ (by simp)).trans (heap_alloc_new W1 _)
  have hb1 : Below W1.heap.size W1 w2 := (below_new W1 _).trans (hb.mono (by simp))
  have hb2 := below10 hb1 (Nat.le_refl _) c0 c1 c2 c3 c4 c5 c6 c7 c8 c9
  exact ⟨ht.next (hb2.mono ht.sz), put10 hz _ _ _ _ _ _ _ _ _ _, ht.sz, dk_put hr hz _ _ _ _ _ _ _ _ _ _, ho.keep hb2⟩
/-- The new reader is laid into the box. -/
theorem df5 {w U : World} {G : Nat} {d1 : DK} {lp1 tp1 : Option Addr} {ln1 lc1 tn1 tc1 : Nat} {v : Value} {X : B} {z0 z1 z2 z3 z4 z5 z6 z8 : Int} {a b : Option Addr} {n1 n2 k1 k2 : Nat} (h : DF4 w U (.cells #[.int .i64 z0, .int .i64 z1, .int .i64 z2, .int .i64 z3, .int .i64 z4, .int .i64 z5, .int .i64 z6, .slice a n1 k1, .int .i64 z8, .slice b n2 k2] 35 (0, 0)) G (dkC d1 (.slice lp1 ln1 lc1) (.slice tp1 tn1 tc1)) d1 lp1 lc1 tp1 tc1 v X) (hl : d1.line.length = ln1) (ht : d1.tr.length = tn1) :
    DFS w ((((((((((U.setCell ⟨w.heap.size, 0, none⟩ (.int .i64 (d1.most : Int))).setCell ⟨w.heap.size, 1, none⟩ (.int .i64 (d1.len : Int))).setCell ⟨w.heap.size, 2, none⟩ (.int .i64 (d1.st : Int))).setCell ⟨w.heap.size, 3, none⟩ (.int .i64 (d1.e : Int))).setCell ⟨w.heap.size, 4, none⟩ (.int .i64 (d1.digits : Int))).setCell ⟨w.heap.size, 5, none⟩ (.int .i64 (d1.size : Int))).setCell ⟨w.heap.size, 6, none⟩ (.int .i64 (d1.more : Int))).setCell ⟨w.heap.size, 7, none⟩ (.slice lp1 ln1 lc1)).setCell ⟨w.heap.size, 8, none⟩ (.int .i64 (d1.bytes : Int))).setCell ⟨w.heap.size, 9, none⟩ (.slice tp1 tn1 tc1)) d1 lp1 ln1 lc1 tp1 tn1 tc1 v X := by
  have ho := only10 U w.heap.size (.int .i64 (d1.most : Int)) (.int .i64 (d1.len : Int)) (.int .i64 (d1.st : Int)) (.int .i64 (d1.e : Int)) (.int .i64 (d1.digits : Int)) (.int .i64 (d1.size : Int)) (.int .i64 (d1.more : Int)) (.slice lp1 ln1 lc1) (.int .i64 (d1.bytes : Int)) (.slice tp1 tn1 tc1)
  refine ⟨⟨h.two.low.trans (ho.below (fun k hk => by have e : k = w.heap.size := hk; omega) (by have := h.two.sz; omega)), put10 h.two.b1 _ _ _ _ _ _ _ _ _ _, (ho.block _ (by have := h.two.sz; omega) (fun e => by have e2 : w.heap.size + 1 = w.heap.size := e; omega)).trans h.two.b2, Nat.le_trans h.two.sz ho.size⟩, hl, ht, dk_put2 h.rows h.two.b1 _ _ _ _ _ _ _ _ _ _, own_only h.out ho (fun k e hk => ?_)⟩
  have e2 : k = w.heap.size := hk
  have := own_ge h.out e
  omega
theorem results_dk5 {fn : Func} {p u1 u2 u3 u4 : Tmp} (h : fn.results = #[.cell p 35, .tmp u1, .tmp u2, .tmp u3, .tmp u4]) (tmps : Array Value) (w : World) (g : Nat) (t : TypeId) (cs : Array Value) (fr : Nat × Nat)
    (hp : tmps.getD p undef = .pointer (some ⟨g, 0, none⟩)) (hg : w.heap[g]? = some (.cells cs t fr)) (hs : cs.size = 10) : (results fn tmps).run Tryz.prog w = .ok (.tuple #[.agg cs, tmps.getD u1 undef, tmps.getD u2 undef, tmps.getD u3 undef, tmps.getD u4 undef]) w := by
  have hl := run_loadVar_row (P := Tryz.prog) w g t 35 cs fr _ hg Tryz.underlying35 rfl (by rw [dk_size, hs])
  have hp2 : tmps[p]?.getD undef = .pointer (some ⟨g, 0, none⟩) := by simpa using hp
  simp [results, h, hp2, asAddr, Result.andThen, hl]
/-- What the document's Feed answers. -/
def DFed (d : DK) (l : B) (w : World) (e : Ending) (w' : World) : Prop :=
  ∃ lp ln lc tp tn tc q dd, e = .returned (.tuple #[.agg (dkC (feedD d l).1 (.slice lp ln lc) (.slice tp tn tc)), .int .i64 ((feedD d l).2.1 : Int), .slice q (feedD d l).2.2.length dd, .bool (decide ((feedD d l).1.st = 8)), .int .i64 ((feedD d l).1.e : Int)]) ∧ (feedD d l).1.line.length = ln ∧ (feedD d l).1.tr.length = tn ∧ DkAt w' (feedD d l).1 lp lc tp tc ∧ Own w' w.heap.size (.slice q (feedD d l).2.2.length dd) (feedD d l).2.2 ∧ Below w.heap.size w w'
theorem dfed_out {w wr : World} {d di : DK} {l X : B} {i : Nat} {lp tp q : Option Addr} {ln lc tn tc m dd : Nat} {B8 : Bool} (h : DFS w wr di lp ln lc tp tn tc (.slice q m dd) X) (he : feedD d l = (di, i, X)) (hB : decide (di.st = 8) = B8) : DFed d l w (.returned (.tuple #[.agg (dkC di (.slice lp ln lc) (.slice tp tn tc)), .int .i64 (i : Int), .slice q m dd, .bool B8, .int .i64 (di.e : Int)])) ((((((((((wr.setCell ⟨w.heap.size + 1, 0, none⟩ (.int .i64 (di.most : Int))).setCell ⟨w.heap.size + 1, 1, none⟩ (.int .i64 (di.len : Int))).setCell ⟨w.heap.size + 1, 2, none⟩ (.int .i64 (di.st : Int))).setCell ⟨w.heap.size + 1, 3, none⟩ (.int .i64 (di.e : Int))).setCell ⟨w.heap.size + 1, 4, none⟩ (.int .i64 (di.digits : Int))).setCell ⟨w.heap.size + 1, 5, none⟩ (.int .i64 (di.size : Int))).setCell ⟨w.heap.size + 1, 6, none⟩ (.int .i64 (di.more : Int))).setCell ⟨w.heap.size + 1, 7, none⟩ (.slice lp ln lc)).setCell ⟨w.heap.size + 1, 8, none⟩ (.int .i64 (di.bytes : Int))).setCell ⟨w.heap.size + 1, 9, none⟩ (.slice tp tn tc)) := by
  have ho := only10 wr (w.heap.size + 1) (.int .i64 (di.most : Int)) (.int .i64 (di.len : Int)) (.int .i64 (di.st : Int)) (.int .i64 (di.e : Int)) (.int .i64 (di.digits : Int)) (.int .i64 (di.size : Int)) (.int .i64 (di.more : Int)) (.slice lp ln lc) (.int .i64 (di.bytes : Int)) (.slice tp tn tc)
  have hm := slice_part h.out
  unfold DFed
  rw [he]
  dsimp only
  rw [hB, hm]
  refine ⟨lp, ln, lc, tp, tn, tc, q, dd, rfl, h.hl, h.ht, dk_put h.rows h.two.b2 _ _ _ _ _ _ _ _ _ _, own_base (own_only h.out ho (fun k e hk => ?_)) (by omega), h.two.low.trans (ho.below (fun k hk => by have e : k = w.heap.size + 1 := hk; omega) (by have := h.two.sz; omega))⟩
  have e2 : k = w.heap.size + 1 := hk
  have := own_ge h.out e
  omega
theorem wpList_store_dk {w : World} {ops : Array Oper} {rest : List Oper} {o : Oper} {a : Act} {Q : Exit → Act → World → Prop} (hgd : o.guard = none) (x y : Operand) (ho : o.op = .store 35 x y) (g : Nat) (hx : a.eval x = .pointer (some ⟨g, 0, none⟩)) (z0 z1 z2 z3 z4 z5 z6 z8 : Int) (a1 a2 : Option Addr) (n1 n2 k1 k2 : Nat) (hy : a.eval y = .agg #[.int .i64 z0, .int .i64 z1, .int .i64 z2, .int .i64 z3, .int .i64 z4, .int .i64 z5, .int .i64 z6, .slice a1 n1 k1, .int .i64 z8, .slice a2 n2 k2])
    {x0 x1 x2 x3 x4 x5 x6 x7 x8 x9 : Value} {T : TypeId} (hb : w.heap[g]? = some (.cells #[x0, x1, x2, x3, x4, x5, x6, x7, x8, x9] T (0, 0)))
    (h : ∀ U, U = ((((((((((w.setCell ⟨g, 0, none⟩ (.int .i64 z0)).setCell ⟨g, 1, none⟩ (.int .i64 z1)).setCell ⟨g, 2, none⟩ (.int .i64 z2)).setCell ⟨g, 3, none⟩ (.int .i64 z3)).setCell ⟨g, 4, none⟩ (.int .i64 z4)).setCell ⟨g, 5, none⟩ (.int .i64 z5)).setCell ⟨g, 6, none⟩ (.int .i64 z6)).setCell ⟨g, 7, none⟩ (.slice a1 n1 k1)).setCell ⟨g, 8, none⟩ (.int .i64 z8)).setCell ⟨g, 9, none⟩ (.slice a2 n2 k2)) → wpList Tryz.prog ops Q rest (a.put o.dst undef) U) : wpList Tryz.prog ops Q (o :: rest) a w := by
  obtain ⟨b0, b1, b2, b3, b4, b5, b6, b7, b8, b9, bz⟩ := cells10 hb
  have bz0 := bz 0
  have bz1 := bz 1
  have bz2 := bz 2
  have bz3 := bz 3
  have bz4 := bz 4
  have bz5 := bz 5
  have bz6 := bz 6
  have bz7 := bz 7
  have bz8 := bz 8
  have bz9 := bz 9
  refine wpList_plain hgd fun K hK => ?_
  replace h := h _ rfl
  unfold Oper.wp execOp
  simp only [ho, hx, hy]
  go_simp
  exact hK _ _ h
end Go.Proofs.YtnlmjlfoeodleaaGreatDoor
