/- The law of feeding: what is carried along. -/
import Derived.Test.YtfmkkkkdfkjdlaaDoorHFG
import Derived.Test.YtfmkkkkdfkjdlaaDoorLParses
namespace Go.Proofs.YtfmkkkkdfkjdlaaDoor
open Go.RowKit

/-- Pieces that were handed in. -/
def PcsAt (w : World) (p : Option Addr) (ls : List B) : Prop := ∀ j l, ls[j]? = some l → ∃ g o q cc, p = some ⟨g, o, none⟩ ∧ w.cell? ⟨g, o + j, none⟩ = some (.slice q l.length cc) ∧ ArgAt w q l ∧ l.length ≤ 140737488355328
theorem PcsAt.next {w w' : World} {p : Option Addr} {ls : List B} (h : PcsAt w p ls) (hb : Below w.heap.size w w') : PcsAt w' p ls := by
  intro j l hj
  obtain ⟨g, o, q, cc, e, h1, h2, h3⟩ := h j l hj
  exact ⟨g, o, q, cc, e, cell_keep hb h1, h2.next hb, h3⟩
theorem rdr_ns : (85 : Nat) ≠ 9 := by decide
theorem u8_ns : (5 : Nat) ≠ 9 := by decide
theorem fld_ns : (83 : Nat) ≠ 9 := by decide
/-- The blocks of a reader are none of texts. -/
def NoS (W : World) (k : Nat) : Prop := ∃ cs T fr, W.heap[k]? = some (.cells cs T fr) ∧ T ≠ 9
theorem RdAt.exact {F : Nat → Prop} {w : World} {g : Nat} {s : PS} (h : RdAt F w g s) : RdAt (fun k => F k ∧ NoS w k) w g s := by
  obtain ⟨p, f, hr, hf⟩ := h
  refine ⟨p, f, hr, ⟨hf.g, ⟨_, _, _, hr.blk, rdr_ns⟩⟩, fun k e => ⟨hf.p k e, ?_⟩, fun k e => ⟨hf.f k e, ?_⟩⟩
  · rcases hr.part.2 with ⟨h1, _⟩ | ⟨g2, cap, cur, h1, _, h3, _⟩
    · rw [h1] at e; simp [Value.ownBlock] at e
    · rw [h1] at e; simp [Value.ownBlock] at e; subst e; exact ⟨_, _, _, h3, u8_ns⟩
  · rcases hr.flds.2 with ⟨h1, _⟩ | ⟨g2, cap, cur, h1, _, h3, _⟩
    · rw [h1] at e; simp [Value.ownBlock] at e
    · rw [h1] at e; simp [Value.ownBlock] at e; subst e; exact ⟨_, _, _, h3, fld_ns⟩
theorem ownS_only {w w' : World} {b : Nat} {F : Nat → Prop} {v : Value} {acc : List B} (h : OwnS w b v acc) (ho : Only F w w') (hf : ∀ k, v.ownBlock = some k → ¬ F k) : OwnS w' b v acc := by
  refine ⟨h.1, ?_⟩
  rcases h.2 with h1 | ⟨g, cap, cur, h1, h2, h3, h4⟩
  · exact .inl h1
  · exact .inr ⟨g, cap, cur, h1, h2, (ho.block g (lt_of_heap h3) (hf g (by rw [h1]; rfl))).trans h3, h4⟩
theorem ownS_nos {w : World} {N k : Nat} {v : Value} {acc : List B} (h : OwnS w N v acc) (e : v.ownBlock = some k) : ¬ NoS w k := fun ⟨_, _, _, h1, h2⟩ => h2 (ownS_type h e h1)
def hdA (H : HS) (v : Value) : Array Value := #[.bool H.resp, .int .i64 H.most, v, .string (str H.line), .int .i64 (H.len : Int), .bool H.done, .int .i64 (H.err : Int)]
/-- The box of what was handed in, the program's reader, the document's head. -/
structure FS (w W : World) (A : Array Value) (g1 g5 : Nat) (F : Nat → Prop) (H : HS) (v : Value) (s : PS) : Prop where
  low : Below w.heap.size w W
  box : W.heap[w.heap.size]? = some (.cells A 50 (0, 0))
  rd : RdAt F W g1 s
  f : ∀ k, F k → w.heap.size < k ∧ k < W.heap.size
  ft : ∀ k, F k → NoS W k
  hd : W.heap[g5]? = some (.cells (hdA H v) 32 (0, 0))
  h5 : w.heap.size < g5
  fo : ¬ F g5
  own : OwnS W 0 v H.lines
theorem FS.next {w W W' : World} {A : Array Value} {g1 g5 : Nat} {F : Nat → Prop} {H : HS} {v : Value} {s : PS} (h : FS w W A g1 g5 F H v s) (hb : Below W.heap.size W W') : FS w W' A g1 g5 F H v s :=
  ⟨h.low.trans (hb.mono h.low.size), (hb.block _ (lt_of_heap h.box)).trans h.box, h.rd.next hb, fun k hk => ⟨(h.f k hk).1, Nat.lt_of_lt_of_le (h.f k hk).2 hb.size⟩, fun k hk => by
    obtain ⟨cs, T, fr, h1, h2⟩ := h.ft k hk
    exact ⟨cs, T, fr, (hb.block _ (lt_of_heap h1)).trans h1, h2⟩, (hb.block _ (lt_of_heap h.hd)).trans h.hd, h.h5, h.fo, h.own.keep hb⟩
theorem FS.drew {w W : World} {A : Array Value} {g1 g5 : Nat} {F : Nat → Prop} {H : HS} {v : Value} {s : PS} (h : FS w W A g1 g5 F H v s) : FS w W.drew A g1 g5 F H v s := h.next (Below.refl _ _).drew
theorem FS.feed {w W W' : World} {A : Array Value} {g1 g5 : Nat} {F : Nat → Prop} {H : HS} {v : Value} {s s' : PS} (h : FS w W A g1 g5 F H v s) (t : Turned F W g1 s' W') : ∃ G, FS w W' A g1 g5 G H v s' := by
  obtain ⟨G, hr, ho, hs⟩ := t
  have hlt : ∀ k, NoS W' k → k < W'.heap.size := fun k ⟨_, _, _, h1, _⟩ => lt_of_heap h1
  refine ⟨fun k => G k ∧ NoS W' k, ⟨h.low.trans (ho.below (fun k hk => Nat.le_of_lt (h.f k hk).1) h.low.size), (ho.block _ (lt_of_heap h.box) (fun e => Nat.lt_irrefl _ (h.f _ e).1)).trans h.box, hr.exact, fun k hk => ⟨?_, hlt k hk.2⟩, fun k hk => hk.2, (ho.block _ (lt_of_heap h.hd) h.fo).trans h.hd, h.h5, fun hk => ?_, ownS_only h.own ho (fun k e hk => ownS_nos h.own e (h.ft k hk))⟩⟩
  · rcases hs k hk.1 with h1 | h1
    · exact (h.f k h1).1
    · exact Nat.lt_of_lt_of_le (lt_of_heap h.box) h1
  · rcases hs _ hk.1 with h1 | h1
    · exact h.fo h1
    · exact Nat.lt_irrefl _ (Nat.lt_of_lt_of_le (lt_of_heap h.hd) h1)
/-- A block beside all of these has turned. -/
theorem FS.aside {w W W' : World} {A : Array Value} {g1 g5 g : Nat} {F : Nat → Prop} {H : HS} {v : Value} {s : PS} {cs : Array Value} {T : TypeId} {fr : Nat × Nat} (h : FS w W A g1 g5 F H v s) (hg : W.heap[g]? = some (.cells cs T fr)) (hT : T ≠ 9) (hlo : w.heap.size < g) (h5 : g ≠ g5) (hF : ¬ F g) (ho : Only (fun k => k = g) W W') : FS w W' A g1 g5 F H v s :=
  ⟨h.low.trans (ho.below (fun k hk => by have h9 : k = g := hk; omega) h.low.size), (ho.block _ (lt_of_heap h.box) (fun e => by have h9 : w.heap.size = g := e; omega)).trans h.box, h.rd.keep ho (fun k hk e => by have h9 : k = g := e; exact hF (h9 ▸ hk)), fun k hk => ⟨(h.f k hk).1, Nat.lt_of_lt_of_le (h.f k hk).2 ho.size⟩, fun k hk => by
    obtain ⟨cs', T', fr', h1, h2⟩ := h.ft k hk
    exact ⟨cs', T', fr', (ho.block _ (lt_of_heap h1) (fun e => by have h9 : k = g := e; exact hF (h9 ▸ hk))).trans h1, h2⟩, (ho.block _ (lt_of_heap h.hd) (fun e => by have h9 : g5 = g := e; exact h5 h9.symm)).trans h.hd, h.h5, h.fo, ownS_only h.own ho (fun k e hk => by have h9 : k = g := hk; subst h9; exact hT (ownS_type h.own e hg))⟩
/-- The document's head has turned. -/
theorem FS.put {w W W' : World} {A : Array Value} {g1 g5 : Nat} {F : Nat → Prop} {H H' : HS} {v v' : Value} {s : PS} (h : FS w W A g1 g5 F H v s) (ho : Only (fun k => k = g5) W W') (hd : W'.heap[g5]? = some (.cells (hdA H' v') 32 (0, 0))) (hown : OwnS W' 0 v' H'.lines) : FS w W' A g1 g5 F H' v' s :=
  ⟨h.low.trans (ho.below (fun k hk => by have h9 : k = g5 := hk; have := h.h5; omega) h.low.size), (ho.block _ (lt_of_heap h.box) (fun e => by have h9 : w.heap.size = g5 := e; have := h.h5; omega)).trans h.box, h.rd.keep ho (fun k hk e => by have h9 : k = g5 := e; exact h.fo (h9 ▸ hk)), fun k hk => ⟨(h.f k hk).1, Nat.lt_of_lt_of_le (h.f k hk).2 ho.size⟩, fun k hk => by
    obtain ⟨cs', T', fr', h1, h2⟩ := h.ft k hk
    exact ⟨cs', T', fr', (ho.block _ (lt_of_heap h1) (fun e => by have h9 : k = g5 := e; exact h.fo (h9 ▸ hk))).trans h1, h2⟩, hd, h.h5, h.fo, hown⟩
theorem FS.start {w w1 w2 : World} {A : Array Value} {r : Bool} {m : Int} {g1 : Nat} {o : Obj} (ho : o = .cells A 50 (0, 0)) (hg : g1 = (w.alloc o).heap.size) (hr : RdAt (fun k => k = g1) w1 g1 (newP r m)) (hb1 : Below (w.alloc o).heap.size (w.alloc o) w1) (hb2 : Below w1.heap.size w1 w2) : ∃ F, FS w (w2.alloc (.cells (hdA (newH r m) (.slice none 0 0)) 32 (0, 0))) A g1 w2.heap.size F (newH r m) (.slice none 0 0) (newP r m) := by
  have b0 := below_new w o
  have e0 : w.heap.size < (w.alloc o).heap.size := by simp
  have hb3 := below_new w2 (.cells (hdA (newH r m) (.slice none 0 0)) 32 (0, 0))
  have hx : (w.alloc o).heap[w.heap.size]? = some (.cells A 50 (0, 0)) := by rw [heap_alloc_new w o, ho]
  have hx1 := (hb1.block _ (lt_of_heap hx)).trans hx
  have hx2 := (hb2.block _ (lt_of_heap hx1)).trans hx1
  have hr2 := (hr.next hb2).exact
  refine ⟨_, ⟨below_out (below_out (below_out b0 hb1) hb2) hb3, (hb3.block _ (lt_of_heap hx2)).trans hx2, hr2.next hb3, fun k hk => ?_, fun k hk => ?_, heap_alloc_new w2 _, lt_of_heap hx2, fun hk => ?_, OwnS.nil _ _⟩⟩
  · obtain ⟨h1, cs, T, fr, h2, _⟩ := hk
    refine ⟨by omega, ?_⟩
    exact Nat.lt_of_lt_of_le (lt_of_heap h2) hb3.size
  · obtain ⟨h1, cs, T, fr, h2, h3⟩ := hk
    exact ⟨cs, T, fr, (hb3.block _ (lt_of_heap h2)).trans h2, h3⟩
  · obtain ⟨h1, cs, T, fr, h2, h3⟩ := hk
    exact Nat.lt_irrefl _ (lt_of_heap h2)
theorem FS.seven {w W : World} {A : Array Value} {g1 g5 : Nat} {F : Nat → Prop} {H : HS} {v : Value} {s : PS} (h : FS w W A g1 g5 F H v s) : Seven W g5 (.bool H.resp) (.int .i64 H.most) v (.string (str H.line)) (.int .i64 (H.len : Int)) (.bool H.done) (.int .i64 (H.err : Int)) := Go.Proofs.YtfmkkkkdfkjdlaaDoor.seven h.hd
structure Three3 (W : World) (g : Nat) (a0 a1 a2 : Value) : Prop where
  a0 : W.cell? ⟨g, 0, none⟩ = some a0
  a1 : W.cell? ⟨g, 1, none⟩ = some a1
  a2 : W.cell? ⟨g, 2, none⟩ = some a2
theorem FS.three {w W : World} {g1 g5 : Nat} {F : Nat → Prop} {H : HS} {v a0 a1 a2 : Value} {s : PS} (h : FS w W #[a0, a1, a2] g1 g5 F H v s) : Three3 W w.heap.size a0 a1 a2 := by
  refine ⟨?_, ?_, ?_⟩ <;> simp [World.cell?, h.box]
theorem FS.taken {w W : World} {A : Array Value} {g1 g5 : Nat} {F : Nat → Prop} {H : HS} {v : Value} {s : PS} (h : FS w W A g1 g5 F H v s) : W.cell? ⟨g1, 2, none⟩ = some (.int .i64 (s.taken : Int)) := by
  obtain ⟨p, f, hr, _⟩ := h.rd
  have := hr.blk
  simp [World.cell?, this, rdCells]
/-- What both tell of one piece. -/
theorem Way.told {H : HS} {s : PS} (h : Way H s) : decide (s.st = 11) = H.done ∧ s.err = H.err ∧ s.taken = H.len := by
  refine ⟨h.doneP, ?_, ?_⟩
  · rcases h.rel with ⟨_, h2⟩ | ⟨h1, _, h3, _⟩ | u
    · rw [h2]; rfl
    · rw [h1, h3]
    · rw [u.err, u.errP]
  · rcases h.rel with ⟨_, h2⟩ | ⟨_, _, _, _, _, h6, _⟩ | u
    · rw [h2]; rfl
    · exact h6
    · exact u.taken
theorem feeds_feed {w W : World} {A : Array Value} {g1 g5 : Nat} {F : Nat → Prop} {H : HS} {v : Value} {s : PS} (h : FS w W A g1 g5 F H v s) (hw : Way H s) (l : B) (p : Option Addr) (n c : Nat) (hn : l.length = n) (ha : ArgAt W p l) (hp : ArgOut F p l) (hl : n ≤ 140737488355328) :
    Calls Tryd.prog 17 #[.pointer (some ⟨g1, 0, none⟩), .slice p n c] W fun e W' => e = .returned (.tuple #[.int .i64 (feedHN H l : Int), .bool (feedH H l).done, errOf (feedH H l).err]) ∧ ∃ G, FS w W' A g1 g5 G H v (feedP s l) := by
  refine (feed_any h.rd hw.invP l p n c hn ha hp hl).mono ?_
  rintro e W' ⟨rfl, ht⟩
  obtain ⟨t1, t2, _⟩ := (hw.feed l).told
  refine ⟨?_, h.feed ht⟩
  unfold fedV
  rw [t1, t2, (feed_rel l H s hw.rel).2]
end Go.Proofs.YtfmkkkkdfkjdlaaDoor
