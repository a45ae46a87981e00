/- Two readers of bodies side by side, and rows of bytes beside them. -/
import Derived.Test.YtllbdpiihiohoaaDoorBLaw
namespace Go.Proofs.YtllbdpiihiohoaaDoor
open Go.RowKit

theorem took_le (s : BS) (l : B) : tookX s l ≤ l.length := by
  unfold tookX
  split
  · exact Nat.zero_le _
  · split
    · exact fkN_le l s.ck
    · split
      · omega
      · split <;> omega
theorem said_le {s : BS} (hi : InvX s) (l : B) : (saidX s l).length ≤ l.length ∨ (saidX s l).length ≤ 1099511627776 := by
  rcases said_len (s := s) l with h | h
  · exact .inl h
  · refine .inr ?_
    unfold saidX
    split
    · simp
    · (try rw [if_pos h]); exact fk_small (hi.ck h).1 l
theorem feedx_as {F : Nat → Prop} {w : World} {g : Nat} {s : BS} {cp : Option Addr} (h : BdAt F w g s cp) (hi : InvX s) (l : B) (p : Option Addr) (n c : Nat) (hn : l.length = n) (hnc : n ≤ c) (hpc : p = none → c = 0) (ha : ArgAt w p l) (hp : ArgOut F p l) (hl : n ≤ 140737488355328) {T M : Nat} {X : B} {S : BS} {D : Bool} {E : Value} (h1 : tookX s l = T) (h2 : saidX s l = X) (h3 : X.length = M) (h4 : fedX s l = S) (h5 : S.done = D) (h6 : errOf S.err = E) :
    Calls Tryd.prog 9 #[.pointer (some ⟨g, 0, none⟩), .slice p n c] w fun e w' => ∃ q d G cp', e = .returned (.tuple #[.int .i64 (T : Int), .slice q M d, .bool D, E]) ∧ FedXG F w w' g S X G cp' (.slice q M d) := by
  refine (feedx_any h hi l p n c hn hnc hpc ha hp hl).mono ?_
  rintro e w' ⟨q, d, G, cp', rfl, hG⟩
  subst h1 h2 h3 h4 h5 h6
  exact ⟨q, d, G, cp', rfl, hG⟩
/-- Two readers that share nothing. -/
structure Two (w W : World) (g1 g2 : Nat) (s1 s2 : BS) (c1 c2 : Option Addr) (G1 G2 : Nat → Prop) : Prop where
  low : Below w.heap.size w W
  r1 : BdAt G1 W g1 s1 c1
  r2 : BdAt G2 W g2 s2 c2
  d : ∀ k, G1 k → ¬ G2 k
  l1 : ∀ k, G1 k → w.heap.size ≤ k ∧ k < W.heap.size
  l2 : ∀ k, G2 k → w.heap.size ≤ k ∧ k < W.heap.size
/-- Bytes of one's own beside them. -/
structure Row (w W : World) (G1 G2 : Nat → Prop) (v : Value) (L : B) : Prop where
  own : Own W w.heap.size v L
  out : ∀ k, v.ownBlock = some k → ¬ G1 k ∧ ¬ G2 k
theorem Two.next {w W W' : World} {g1 g2 : Nat} {s1 s2 : BS} {c1 c2 : Option Addr} {G1 G2 : Nat → Prop} (h : Two w W g1 g2 s1 s2 c1 c2 G1 G2) (hb : Below W.heap.size W W') : Two w W' g1 g2 s1 s2 c1 c2 G1 G2 :=
  ⟨below_out h.low hb, h.r1.next hb, h.r2.next hb, h.d, fun k hk => ⟨(h.l1 k hk).1, Nat.lt_of_lt_of_le (h.l1 k hk).2 hb.size⟩, fun k hk => ⟨(h.l2 k hk).1, Nat.lt_of_lt_of_le (h.l2 k hk).2 hb.size⟩⟩
theorem Row.next {w W W' : World} {G1 G2 : Nat → Prop} {v : Value} {L : B} (h : Row w W G1 G2 v L) (hb : Below W.heap.size W W') : Row w W' G1 G2 v L := ⟨h.own.keep hb, h.out⟩
theorem Two.low1 {w W W' : World} {G : Nat → Prop} (hl : Below w.heap.size w W) (ho : Only G W W') (h1 : ∀ k, G k → w.heap.size ≤ k) : Below w.heap.size w W' := hl.trans (ho.below h1 hl.size)
theorem Two.turn1 {w W W' : World} {g1 g2 : Nat} {s1 s2 s1' : BS} {c1 c2 c1' : Option Addr} {G1 G2 G1' : Nat → Prop} (h : Two w W g1 g2 s1 s2 c1 c2 G1 G2) (t : TurnX G1 W W' g1 s1' G1' c1') : Two w W' g1 g2 s1' s2 c1' c2 G1' G2 := by
  refine ⟨Two.low1 h.low t.only (fun k hk => (h.l1 k hk).1), t.bd, h.r2.keep t.only (fun k hk h9 => h.d k h9 hk), fun k hk h9 => ?_, fun k hk => ⟨?_, t.lt k hk⟩, fun k hk => ⟨(h.l2 k hk).1, Nat.lt_of_lt_of_le (h.l2 k hk).2 t.only.size⟩⟩
  · rcases t.sub k hk with h5 | h5
    · exact h.d k h5 h9
    · have := (h.l2 k h9).2; omega
  · rcases t.sub k hk with h5 | h5
    · exact (h.l1 k h5).1
    · exact Nat.le_trans h.low.size h5
theorem Two.turn2 {w W W' : World} {g1 g2 : Nat} {s1 s2 s2' : BS} {c1 c2 c2' : Option Addr} {G1 G2 G2' : Nat → Prop} (h : Two w W g1 g2 s1 s2 c1 c2 G1 G2) (t : TurnX G2 W W' g2 s2' G2' c2') : Two w W' g1 g2 s1 s2' c1 c2' G1 G2' := by
  refine ⟨Two.low1 h.low t.only (fun k hk => (h.l2 k hk).1), h.r1.keep t.only (fun k hk h9 => h.d k hk h9), t.bd, fun k hk h9 => ?_, fun k hk => ⟨(h.l1 k hk).1, Nat.lt_of_lt_of_le (h.l1 k hk).2 t.only.size⟩, fun k hk => ⟨?_, t.lt k hk⟩⟩
  · rcases t.sub k h9 with h5 | h5
    · exact h.d k hk h5
    · have := (h.l1 k hk).2; omega
  · rcases t.sub k hk with h5 | h5
    · exact (h.l2 k h5).1
    · exact Nat.le_trans h.low.size h5
theorem Row.turn1 {w W W' : World} {g1 : Nat} {s1' : BS} {c1' : Option Addr} {G1 G2 G1' : Nat → Prop} {v : Value} {L : B} (h : Row w W G1 G2 v L) (t : TurnX G1 W W' g1 s1' G1' c1') : Row w W' G1' G2 v L := by
  refine ⟨own_only h.own t.only (fun k e => (h.out k e).1), fun k e => ⟨fun h9 => ?_, (h.out k e).2⟩⟩
  rcases t.sub k h9 with h5 | h5
  · exact (h.out k e).1 h5
  · have := ys_lt (own_low0 h.own) e; omega
theorem Row.turn2 {w W W' : World} {g2 : Nat} {s2' : BS} {c2' : Option Addr} {G1 G2 G2' : Nat → Prop} {v : Value} {L : B} (h : Row w W G1 G2 v L) (t : TurnX G2 W W' g2 s2' G2' c2') : Row w W' G1 G2' v L := by
  refine ⟨own_only h.own t.only (fun k e => (h.out k e).2), fun k e => ⟨(h.out k e).1, fun h9 => ?_⟩⟩
  rcases t.sub k h9 with h5 | h5
  · exact (h.out k e).2 h5
  · have := ys_lt (own_low0 h.own) e; omega
theorem Row.told1 {w W W' : World} {g1 g2 : Nat} {s1 s2 s1' : BS} {c1 c2 c1' : Option Addr} {G1 G2 G1' : Nat → Prop} {v : Value} {L : B} (h : Two w W g1 g2 s1 s2 c1 c2 G1 G2) (f : FedXG G1 W W' g1 s1' L G1' c1' v) : Row w W' G1' G2 v L :=
  ⟨own_base f.body h.low.size, fun k e => ⟨f.out k e, fun h9 => by have := (h.l2 k h9).2; have := own_ge f.body e; omega⟩⟩
theorem Row.told2 {w W W' : World} {g1 g2 : Nat} {s1 s2 s2' : BS} {c1 c2 c2' : Option Addr} {G1 G2 G2' : Nat → Prop} {v : Value} {L : B} (h : Two w W g1 g2 s1 s2 c1 c2 G1 G2) (f : FedXG G2 W W' g2 s2' L G2' c2' v) : Row w W' G1 G2' v L :=
  ⟨own_base f.body h.low.size, fun k e => ⟨fun h9 => by have := (h.l1 k h9).2; have := own_ge f.body e; omega, f.out k e⟩⟩
/-- A fresh row. -/
theorem Row.fresh {w W W' : World} {g1 g2 : Nat} {s1 s2 : BS} {c1 c2 : Option Addr} {G1 G2 : Nat → Prop} {v : Value} {L : B} (h : Two w W g1 g2 s1 s2 c1 c2 G1 G2) (ho : Own W' W.heap.size v L) : Row w W' G1 G2 v L :=
  ⟨own_base ho h.low.size, fun k e => ⟨fun h9 => by have := (h.l1 k h9).2; have := own_ge ho e; omega, fun h9 => by have := (h.l2 k h9).2; have := own_ge ho e; omega⟩⟩
/-- What is handed to a reader lies outside of it. -/
theorem Row.out1 {w W : World} {G1 G2 : Nat → Prop} {q qa : Option Addr} {n c : Nat} {L l X : B} {k d i : Nat} (h : Row w W G1 G2 (.slice q n c) L) (P : Part q X qa k d i) : ArgOut G1 qa l ∧ ArgOut G2 qa l := by
  have hb : ∀ a, qa = some a → ∃ g0, (Value.slice q n c).ownBlock = some g0 ∧ a.block = g0 := fun a e => by
    obtain ⟨a0, e0, e1⟩ := P.blk a e
    subst e0
    exact ⟨a0.block, rfl, e1⟩
  exact ⟨fun a e _ hg => by obtain ⟨g0, e2, e3⟩ := hb a e; rw [e3] at hg; exact (h.out g0 e2).1 hg, fun a e _ hg => by obtain ⟨g0, e2, e3⟩ := hb a e; rw [e3] at hg; exact (h.out g0 e2).2 hg⟩
theorem Row.self {w W : World} {G1 G2 : Nat → Prop} {q : Option Addr} {n c : Nat} {L l : B} (h : Row w W G1 G2 (.slice q n c) L) : ArgOut G1 q l ∧ ArgOut G2 q l := by
  constructor
  · intro a e _ hg; subst e; exact (h.out a.block rfl).1 hg
  · intro a e _ hg; subst e; exact (h.out a.block rfl).2 hg
theorem Row.slok {w W : World} {G1 G2 : Nat → Prop} {q : Option Addr} {n c : Nat} {L : B} (h : Row w W G1 G2 (.slice q n c) L) : SlOk q n c L := ⟨slice_part h.own, h.own.cap, own_nil h.own, h.own.arg.plain⟩
/-- A row that grows, beside them. -/
theorem Two.grow {w W W' : World} {g1 g2 : Nat} {s1 s2 : BS} {c1 c2 : Option Addr} {G1 G2 : Nat → Prop} {v : Value} {L : B} (h : Two w W g1 g2 s1 s2 c1 c2 G1 G2) (r : Row w W G1 G2 v L) (hg : W.grownBy W' v.ownBlock) : Two w W' g1 g2 s1 s2 c1 c2 G1 G2 := by
  have og : Only (fun j => v.ownBlock = some j) W W' := Only.grown hg (fun j e => e)
  refine ⟨Two.low1 h.low og (fun k e => own_ge r.own e), h.r1.keep og (fun k hk e => (r.out k e).1 hk), h.r2.keep og (fun k hk e => (r.out k e).2 hk), h.d, fun k hk => ⟨(h.l1 k hk).1, Nat.lt_of_lt_of_le (h.l1 k hk).2 hg.size⟩, fun k hk => ⟨(h.l2 k hk).1, Nat.lt_of_lt_of_le (h.l2 k hk).2 hg.size⟩⟩
end Go.Proofs.YtllbdpiihiohoaaDoor
