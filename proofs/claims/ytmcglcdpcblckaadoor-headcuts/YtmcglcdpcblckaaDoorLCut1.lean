/- The law of cuts: what is carried along. -/
import Derived.Test.YtmcglcdpcblckaaDoorLCut0
import Derived.Lib.SlBytesConst
namespace Go.Proofs.YtmcglcdpcblckaaDoor
open Go.RowKit

theorem wrapU {n : Nat} (h : n ≤ 140737488355328) : IntKind.u64.wrap (n : Int) = (n : Int) := by rw [IntKind.wrap_u64]; omega
theorem RdAt.trim {F : Nat → Prop} {w : World} {g : Nat} {s : PS} (h : RdAt F w g s) : RdAt (fun k => F k ∧ k < w.heap.size) w g s := by
  obtain ⟨p, f, hr, hf⟩ := h
  refine ⟨p, f, hr, ⟨hf.g, lt_of_heap hr.blk⟩, fun k e => ⟨hf.p k e, ?_⟩, fun k e => ⟨hf.f k e, ?_⟩⟩
  · rcases hr.part.2 with ⟨h1, _⟩ | ⟨g2, cap, cur, h1, _, h3, _⟩
    · rw [h1] at e; simp [Value.ownBlock] at e
    · rw [h1] at e; simp [Value.ownBlock] at e; subst e; exact lt_of_heap h3
  · rcases hr.flds.2 with ⟨h1, _⟩ | ⟨g2, cap, cur, h1, _, h3, _⟩
    · rw [h1] at e; simp [Value.ownBlock] at e
    · rw [h1] at e; simp [Value.ownBlock] at e; subst e; exact lt_of_heap h3
/-- Two readers that lie apart. -/
structure CS (w W : World) (F1 F2 : Nat → Prop) (g1 g2 : Nat) (T1 T2 : PS) : Prop where
  low : Below w.heap.size w W
  r : RdAt F1 W g1 T1
  s : RdAt F2 W g2 T2
  f1 : ∀ k, F1 k → w.heap.size ≤ k ∧ k < W.heap.size
  f2 : ∀ k, F2 k → w.heap.size ≤ k ∧ k < W.heap.size
  d : ∀ k, F1 k → ¬ F2 k
theorem CS.next {w W W' : World} {F1 F2 : Nat → Prop} {g1 g2 : Nat} {T1 T2 : PS} (h : CS w W F1 F2 g1 g2 T1 T2) (hb : Below W.heap.size W W') : CS w W' F1 F2 g1 g2 T1 T2 :=
  ⟨h.low.trans (hb.mono h.low.size), h.r.next hb, h.s.next hb, fun k hk => ⟨(h.f1 k hk).1, Nat.lt_of_lt_of_le (h.f1 k hk).2 hb.size⟩, fun k hk => ⟨(h.f2 k hk).1, Nat.lt_of_lt_of_le (h.f2 k hk).2 hb.size⟩, h.d⟩
/-- New blocks of the first reader. -/
structure Fed1 (w W W' : World) (F1 F1' F2 : Nat → Prop) (g1 g2 : Nat) (T1 T2 : PS) : Prop where
  cs : CS w W' F1' F2 g1 g2 T1 T2
  only : Only F1 W W'
  sub : ∀ k, F1' k → F1 k ∨ W.heap.size ≤ k
theorem CS.feed1 {w W W' : World} {F1 F2 : Nat → Prop} {g1 g2 : Nat} {T1 T2 T1' : PS} (h : CS w W F1 F2 g1 g2 T1 T2) (t : Turned F1 W g1 T1' W') : ∃ F1', Fed1 w W W' F1 F1' F2 g1 g2 T1' T2 := by
  obtain ⟨G, hr, ho, hs⟩ := t
  have hlow : Below w.heap.size w W' := h.low.trans (ho.below (fun k hk => (h.f1 k hk).1) h.low.size)
  refine ⟨fun k => G k ∧ k < W'.heap.size, ⟨hlow, hr.trim, h.s.keep ho (fun k h2 h1 => h.d k h1 h2), fun k hk => ⟨?_, hk.2⟩, fun k hk => ⟨(h.f2 k hk).1, Nat.lt_of_lt_of_le (h.f2 k hk).2 ho.size⟩, fun k hk h2 => ?_⟩, ho, fun k hk => hs k hk.1⟩
  · rcases hs k hk.1 with h1 | h1
    · exact (h.f1 k h1).1
    · exact Nat.le_trans h.low.size h1
  · rcases hs k hk.1 with h1 | h1
    · exact h.d k h1 h2
    · have := (h.f2 k h2).2; omega
structure Fed2 (w W W' : World) (F1 F2 F2' : Nat → Prop) (g1 g2 : Nat) (T1 T2 : PS) : Prop where
  cs : CS w W' F1 F2' g1 g2 T1 T2
  only : Only F2 W W'
  sub : ∀ k, F2' k → F2 k ∨ W.heap.size ≤ k
theorem CS.feed2 {w W W' : World} {F1 F2 : Nat → Prop} {g1 g2 : Nat} {T1 T2 T2' : PS} (h : CS w W F1 F2 g1 g2 T1 T2) (t : Turned F2 W g2 T2' W') : ∃ F2', Fed2 w W W' F1 F2 F2' g1 g2 T1 T2' := by
  obtain ⟨G, hr, ho, hs⟩ := t
  have hlow : Below w.heap.size w W' := h.low.trans (ho.below (fun k hk => (h.f2 k hk).1) h.low.size)
  refine ⟨fun k => G k ∧ k < W'.heap.size, ⟨hlow, h.r.keep ho (fun k h1 h2 => h.d k h1 h2), hr.trim, fun k hk => ⟨(h.f1 k hk).1, Nat.lt_of_lt_of_le (h.f1 k hk).2 ho.size⟩, fun k hk => ⟨?_, hk.2⟩, fun k h1 hk => ?_⟩, ho, fun k hk => hs k hk.1⟩
  · rcases hs k hk.1 with h1 | h1
    · exact (h.f2 k h1).1
    · exact Nat.le_trans h.low.size h1
  · rcases hs k hk.1 with h2 | h2
    · exact h.d k h1 h2
    · have := (h.f1 k h1).2; omega
/-- Bytes of one's own beside both readers. -/
structure YS (W : World) (F1 F2 : Nat → Prop) (v : Value) (L : B) : Prop where
  own : Own W 0 v L
  out : ∀ k, v.ownBlock = some k → ¬ F1 k ∧ ¬ F2 k
theorem own_low0 {w : World} {b : Nat} {v : Value} {acc : B} (h : Own w b v acc) : Own w 0 v acc := by
  refine ⟨h.1, ?_⟩
  rcases h.2 with h1 | ⟨g, cap, cur, h1, h2, h3⟩
  · exact .inl h1
  · exact .inr ⟨g, cap, cur, h1, Nat.zero_le _, h3⟩
theorem ys_lt {W : World} {v : Value} {L : B} {k : Nat} (h : Own W 0 v L) (e : v.ownBlock = some k) : k < W.heap.size := by
  rcases h.2 with ⟨h1, _⟩ | ⟨g2, cap, cur, h1, _, h3, _⟩
  · rw [h1] at e; simp [Value.ownBlock] at e
  · rw [h1] at e; simp [Value.ownBlock] at e; subst e; exact lt_of_heap h3
theorem YS.next {W W' : World} {F1 F2 : Nat → Prop} {v : Value} {L : B} (h : YS W F1 F2 v L) (hb : Below W.heap.size W W') : YS W' F1 F2 v L := ⟨h.own.keep hb, h.out⟩
theorem YS.fed1 {w W W' : World} {F1 F1' F2 : Nat → Prop} {g1 g2 : Nat} {T1 T2 : PS} {v : Value} {L : B} (h : YS W F1 F2 v L) (f : Fed1 w W W' F1 F1' F2 g1 g2 T1 T2) : YS W' F1' F2 v L :=
  ⟨own_only h.own f.only (fun k e => (h.out k e).1), fun k e => ⟨fun hk => (f.sub k hk).elim (h.out k e).1 (fun h2 => by have := ys_lt h.own e; omega), (h.out k e).2⟩⟩
theorem YS.fed2 {w W W' : World} {F1 F2 F2' : Nat → Prop} {g1 g2 : Nat} {T1 T2 : PS} {v : Value} {L : B} (h : YS W F1 F2 v L) (f : Fed2 w W W' F1 F2 F2' g1 g2 T1 T2) : YS W' F1 F2' v L :=
  ⟨own_only h.own f.only (fun k e => (h.out k e).2), fun k e => ⟨(h.out k e).1, fun hk => (f.sub k hk).elim (h.out k e).2 (fun h2 => by have := ys_lt h.own e; omega)⟩⟩
theorem YS.new {w W W' : World} {F1 F2 : Nat → Prop} {g1 g2 : Nat} {T1 T2 : PS} {v : Value} {L : B} (c : CS w W F1 F2 g1 g2 T1 T2) (h : Own W' W.heap.size v L) : YS W' F1 F2 v L :=
  ⟨own_low0 h, fun k e => by have := own_ge h e; exact ⟨fun hk => by have := (c.f1 k hk).2; omega, fun hk => by have := (c.f2 k hk).2; omega⟩⟩
theorem YS.out1 {W : World} {F1 F2 : Nat → Prop} {p : Option Addr} {n c : Nat} {L : B} (h : YS W F1 F2 (.slice p n c) L) (p' : Option Addr) (hp : ∀ a, p' = some a → ∃ b, p = some b ∧ b.block = a.block) (l : B) : ArgOut F1 p' l ∧ ArgOut F2 p' l := by
  refine ⟨fun a e _ hf => ?_, fun a e _ hf => ?_⟩
  · obtain ⟨b, e2, e3⟩ := hp a e
    subst e2
    exact (h.out b.block rfl).1 (by rw [e3]; exact hf)
  · obtain ⟨b, e2, e3⟩ := hp a e
    subst e2
    exact (h.out b.block rfl).2 (by rw [e3]; exact hf)
/-- A block of the law's own. -/
structure Lc (W : World) (F1 : Nat → Prop) (b : Nat) (A : Array Value) (T : TypeId) : Prop where
  blk : W.heap[b]? = some (.cells A T (0, 0))
  out : ¬ F1 b
theorem Lc.next {W W' : World} {F1 : Nat → Prop} {b : Nat} {A : Array Value} {T : TypeId} (h : Lc W F1 b A T) (hb : Below W.heap.size W W') : Lc W' F1 b A T := ⟨(hb.block b (lt_of_heap h.blk)).trans h.blk, h.out⟩
theorem Lc.new {w W : World} {F1 F2 : Nat → Prop} {g1 g2 : Nat} {T1 T2 : PS} (c : CS w W F1 F2 g1 g2 T1 T2) (A : Array Value) (T : TypeId) : Lc (W.alloc (.cells A T (0, 0))) F1 W.heap.size A T := ⟨heap_alloc_new W _, fun hk => by have := (c.f1 _ hk).2; omega⟩
theorem Lc.fed {w W W' : World} {F1 F1' F2 : Nat → Prop} {g1 g2 : Nat} {T1 T2 : PS} {b : Nat} {A : Array Value} {T : TypeId} (h : Lc W F1 b A T) (f : Fed1 w W W' F1 F1' F2 g1 g2 T1 T2) : Lc W' F1' b A T :=
  ⟨(f.only.block b (lt_of_heap h.blk) h.out).trans h.blk, fun hk => (f.sub b hk).elim h.out (fun h2 => by have := lt_of_heap h.blk; omega)⟩
theorem one_arg (W : World) (fr : Nat × Nat) : ArgAt (W.alloc (.cells #[.int .u8 120] 5 fr)) (some ⟨W.heap.size, 0, none⟩) [120] := by
  intro i y hi
  refine ⟨W.heap.size, 0, rfl, ?_⟩
  have h1 := heap_alloc_new W (.cells #[.int .u8 120] 5 fr)
  rw [Nat.zero_add]
  simp only [World.cell?, h1]
  cases i with
  | zero => simp at hi; subst hi; rfl
  | succ i => simp at hi
theorem CS.begin {w w1 w2 : World} {s0 : PS} (h1 : RdAt (fun k => k = w.heap.size) w1 w.heap.size s0) (b1 : Below w.heap.size w w1) (e1 : w1.heap.size = w.heap.size + 1) (h2 : RdAt (fun k => k = w1.heap.size) w2 w1.heap.size s0) (b2 : Below w1.heap.size w1 w2) (e2 : w2.heap.size = w1.heap.size + 1) : CS w w2 (fun k => k = w.heap.size) (fun k => k = w1.heap.size) w.heap.size w1.heap.size s0 s0 :=
  ⟨b1.trans (b2.mono b1.size), h1.next b2, h2, fun k hk => by subst hk; omega, fun k hk => by subst hk; omega, fun k h1 h2 => by omega⟩
/-- A row of fields of one's own beside the first reader. -/
structure YF (W : World) (F1 : Nat → Prop) (v : Value) (fs : List (B × B)) : Prop where
  own : OwnF W 0 v fs
  out : ∀ k, v.ownBlock = some k → ¬ F1 k
theorem yf_lt {W : World} {v : Value} {fs : List (B × B)} {k : Nat} (h : OwnF W 0 v fs) (e : v.ownBlock = some k) : k < W.heap.size := by
  rcases h.2 with ⟨h1, _⟩ | ⟨g2, cap, cur, h1, _, h3, _⟩
  · rw [h1] at e; simp [Value.ownBlock] at e
  · rw [h1] at e; simp [Value.ownBlock] at e; subst e; exact lt_of_heap h3
theorem YF.next {W W' : World} {F1 : Nat → Prop} {v : Value} {fs : List (B × B)} (h : YF W F1 v fs) (hb : Below W.heap.size W W') : YF W' F1 v fs := ⟨h.own.keep hb, h.out⟩
theorem YF.new {w W W' : World} {F1 F2 : Nat → Prop} {g1 g2 : Nat} {T1 T2 : PS} {v : Value} {fs : List (B × B)} (c : CS w W F1 F2 g1 g2 T1 T2) (h : OwnF W' W.heap.size v fs) : YF W' F1 v fs :=
  ⟨h.lower (Nat.zero_le _), fun k e hk => by have := own_ge h e; have := (c.f1 k hk).2; omega⟩
theorem YF.fed {w W W' : World} {F1 F1' F2 : Nat → Prop} {g1 g2 : Nat} {T1 T2 : PS} {v : Value} {fs : List (B × B)} (h : YF W F1 v fs) (f : Fed1 w W W' F1 F1' F2 g1 g2 T1 T2) : YF W' F1' v fs :=
  ⟨ownF_only h.own f.only (fun k e => h.out k e), fun k e hk => (f.sub k hk).elim (h.out k e) (fun h2 => by have := yf_lt h.own e; omega)⟩
/-- What the law holds at its end. -/
structure BD (w W : World) (b8 b9 b10 b11 : Nat) (A8 A9 A10 A11 : Array Value) (p8 p9 p10 p11 : Option Addr) (fq fp : List (B × B)) : Prop where
  low : Below w.heap.size w W
  q8 : W.heap[b8]? = some (.cells A8 25 (0, 0))
  q9 : W.heap[b9]? = some (.cells A9 25 (0, 0))
  q10 : W.heap[b10]? = some (.cells A10 38 (0, 0))
  q11 : W.heap[b11]? = some (.cells A11 38 (0, 0))
  f8 : FAt W p8 fq
  f9 : FAt W p9 fq
  f10 : FAt W p10 fp
  f11 : FAt W p11 fp
theorem BD.next {w W W' : World} {b8 b9 b10 b11 : Nat} {A8 A9 A10 A11 : Array Value} {p8 p9 p10 p11 : Option Addr} {fq fp : List (B × B)} (h : BD w W b8 b9 b10 b11 A8 A9 A10 A11 p8 p9 p10 p11 fq fp) (hb : Below W.heap.size W W') : BD w W' b8 b9 b10 b11 A8 A9 A10 A11 p8 p9 p10 p11 fq fp :=
  ⟨h.low.trans (hb.mono h.low.size), (hb.block _ (lt_of_heap h.q8)).trans h.q8, (hb.block _ (lt_of_heap h.q9)).trans h.q9, (hb.block _ (lt_of_heap h.q10)).trans h.q10, (hb.block _ (lt_of_heap h.q11)).trans h.q11, h.f8.next hb, h.f9.next hb, h.f10.next hb, h.f11.next hb⟩
end Go.Proofs.YtmcglcdpcblckaaDoor
