/- The program's reader of bodies in memory. -/
import Derived.Test.YtllbdpiihiohoaaDoorBSpec
import Derived.Test.YtllbdpiihiohoaaDoorKSl
namespace Go.Proofs.YtllbdpiihiohoaaDoor
open Go.RowKit

def bdC (s : BS) (cp : Option Addr) : Array Value := #[.int .i64 (s.kind : Int), .int .i64 (s.room : Int), .pointer cp, .int .i64 (s.told : Int), .bool s.done, errOf s.err]
structure Cells6 (w : World) (g : Nat) (c0 c1 c2 c3 c4 c5 : Value) : Prop where
  a0 : w.cell? ⟨g, 0, none⟩ = some c0
  a1 : w.cell? ⟨g, 1, none⟩ = some c1
  a2 : w.cell? ⟨g, 2, none⟩ = some c2
  a3 : w.cell? ⟨g, 3, none⟩ = some c3
  a4 : w.cell? ⟨g, 4, none⟩ = some c4
  a5 : w.cell? ⟨g, 5, none⟩ = some c5
  z : ∀ j, w.frozen? ⟨g, j, none⟩ = false
theorem cells6 {w : World} {g : Nat} {c0 c1 c2 c3 c4 c5 : Value} {T : TypeId} (h : w.heap[g]? = some (.cells #[c0, c1, c2, c3, c4, c5] T (0, 0))) : Cells6 w g c0 c1 c2 c3 c4 c5 := by
  refine ⟨?_, ?_, ?_, ?_, ?_, ?_, fun j => by simp [World.frozen?, h]⟩ <;> simp [World.cell?, h]
theorem set6_0 {w : World} {g : Nat} {T : TypeId} {c0 c1 c2 c3 c4 c5 : Value} (h : w.heap[g]? = some (.cells #[c0, c1, c2, c3, c4, c5] T (0, 0))) (v : Value) : (w.setCell ⟨g, 0, none⟩ v).heap[g]? = some (.cells #[v, c1, c2, c3, c4, c5] T (0, 0)) := by
  simp [World.setCell, Array.getElem?_modify, h]
theorem set6_1 {w : World} {g : Nat} {T : TypeId} {c0 c1 c2 c3 c4 c5 : Value} (h : w.heap[g]? = some (.cells #[c0, c1, c2, c3, c4, c5] T (0, 0))) (v : Value) : (w.setCell ⟨g, 1, none⟩ v).heap[g]? = some (.cells #[c0, v, c2, c3, c4, c5] T (0, 0)) := by
  simp [World.setCell, Array.getElem?_modify, h]
theorem set6_2 {w : World} {g : Nat} {T : TypeId} {c0 c1 c2 c3 c4 c5 : Value} (h : w.heap[g]? = some (.cells #[c0, c1, c2, c3, c4, c5] T (0, 0))) (v : Value) : (w.setCell ⟨g, 2, none⟩ v).heap[g]? = some (.cells #[c0, c1, v, c3, c4, c5] T (0, 0)) := by
  simp [World.setCell, Array.getElem?_modify, h]
theorem set6_3 {w : World} {g : Nat} {T : TypeId} {c0 c1 c2 c3 c4 c5 : Value} (h : w.heap[g]? = some (.cells #[c0, c1, c2, c3, c4, c5] T (0, 0))) (v : Value) : (w.setCell ⟨g, 3, none⟩ v).heap[g]? = some (.cells #[c0, c1, c2, v, c4, c5] T (0, 0)) := by
  simp [World.setCell, Array.getElem?_modify, h]
theorem set6_4 {w : World} {g : Nat} {T : TypeId} {c0 c1 c2 c3 c4 c5 : Value} (h : w.heap[g]? = some (.cells #[c0, c1, c2, c3, c4, c5] T (0, 0))) (v : Value) : (w.setCell ⟨g, 4, none⟩ v).heap[g]? = some (.cells #[c0, c1, c2, c3, v, c5] T (0, 0)) := by
  simp [World.setCell, Array.getElem?_modify, h]
theorem set6_5 {w : World} {g : Nat} {T : TypeId} {c0 c1 c2 c3 c4 c5 : Value} (h : w.heap[g]? = some (.cells #[c0, c1, c2, c3, c4, c5] T (0, 0))) (v : Value) : (w.setCell ⟨g, 5, none⟩ v).heap[g]? = some (.cells #[c0, c1, c2, c3, c4, v] T (0, 0)) := by
  simp [World.setCell, Array.getElem?_modify, h]
/-- Where the chunks' reader lies, if there is one. -/
def ChAt (F : Nat → Prop) (w : World) (g : Nat) (s : BS) (cp : Option Addr) : Prop := (s.kind = 2 ∧ ∃ gk G, cp = some ⟨gk, 0, none⟩ ∧ RdAt G w gk s.ck ∧ ∀ k, G k → F k ∧ k ≠ g) ∨ (s.kind ≠ 2 ∧ cp = none)
/-- Block g is the reader s of a body; what is its own lies within F. -/
structure BdAt (F : Nat → Prop) (w : World) (g : Nat) (s : BS) (cp : Option Addr) : Prop where
  blk : w.heap[g]? = some (.cells (bdC s cp) 52 (0, 0))
  own : F g
  ch : ChAt F w g s cp
theorem ChAt.keep {F H : Nat → Prop} {w w' : World} {g : Nat} {s : BS} {cp : Option Addr} (h : ChAt F w g s cp) (ho : Only H w w') (hd : ∀ k, F k → ¬ H k ∨ k = g) : ChAt F w' g s cp := by
  rcases h with ⟨h1, gk, G, h2, h3, h4⟩ | h
  · refine .inl ⟨h1, gk, G, h2, h3.keep ho (fun k hk => ?_), h4⟩
    rcases hd k (h4 k hk).1 with h5 | h5
    · exact h5
    · exact absurd h5 (h4 k hk).2
  · exact .inr h
theorem BdAt.next {F : Nat → Prop} {w w' : World} {g : Nat} {s : BS} {cp : Option Addr} (h : BdAt F w g s cp) (hb : Below w.heap.size w w') : BdAt F w' g s cp := ⟨(hb.block g (lt_of_heap h.blk)).trans h.blk, h.own, h.ch.keep (H := fun _ => False) (Only.of_below hb) (fun _ _ => .inl id)⟩
theorem BdAt.keep {F H : Nat → Prop} {w w' : World} {g : Nat} {s : BS} {cp : Option Addr} (h : BdAt F w g s cp) (ho : Only H w w') (hd : ∀ k, F k → ¬ H k) : BdAt F w' g s cp := ⟨(ho.block g (lt_of_heap h.blk) (hd g h.own)).trans h.blk, h.own, h.ch.keep ho (fun k hk => .inl (hd k hk))⟩
theorem BdAt.cells {F : Nat → Prop} {w : World} {g : Nat} {s : BS} {cp : Option Addr} (h : BdAt F w g s cp) : Cells6 w g (.int .i64 (s.kind : Int)) (.int .i64 (s.room : Int)) (.pointer cp) (.int .i64 (s.told : Int)) (.bool s.done) (errOf s.err) := by
  have hb := h.blk
  unfold bdC at hb
  exact cells6 hb
theorem BdAt.wide {F G : Nat → Prop} {w : World} {g : Nat} {s : BS} {cp : Option Addr} (h : BdAt F w g s cp) (hs : ∀ k, F k → G k) : BdAt G w g s cp := by
  refine ⟨h.blk, hs g h.own, ?_⟩
  rcases h.ch with ⟨h1, gk, H, h2, h3, h4⟩ | h
  · exact .inl ⟨h1, gk, H, h2, h3, fun k hk => ⟨hs k (h4 k hk).1, (h4 k hk).2⟩⟩
  · exact .inr h
/-- Cells of the reader itself are written. -/
theorem BdAt.put {F : Nat → Prop} {w : World} {g : Nat} {s s' : BS} {cp : Option Addr} (h : BdAt F w g s cp) (j : Nat) (v : Value) (hc : (bdC s cp).setIfInBounds j v = bdC s' cp) (hk : s'.kind = s.kind) (hck : s'.ck = s.ck) : BdAt F (w.setCell ⟨g, j, none⟩ v) g s' cp := by
  have hb := h.blk
  refine ⟨?_, h.own, ?_⟩
  · rw [← hc]
    simp [World.setCell, Array.getElem?_modify, hb]
  · have ho : Only (fun k => k = g) w (w.setCell ⟨g, j, none⟩ v) := (Only.refl (fun k => k = g) w).set rfl v
    have := h.ch.keep ho (fun k _ => by by_cases e : k = g; exact .inr e; exact .inl e)
    unfold ChAt at this ⊢
    rw [hk, hck]
    exact this
theorem BdAt.lt {F : Nat → Prop} {w : World} {g : Nat} {s : BS} {cp : Option Addr} (h : BdAt F w g s cp) : g < w.heap.size := lt_of_heap h.blk
/-- The parts of F that are there. -/
theorem BdAt.trim {F : Nat → Prop} {w : World} {g : Nat} {s : BS} {cp : Option Addr} (h : BdAt F w g s cp) : BdAt (fun k => F k ∧ k < w.heap.size) w g s cp := by
  refine ⟨h.blk, ⟨h.own, h.lt⟩, ?_⟩
  rcases h.ch with ⟨h1, gk, H, h2, h3, h4⟩ | h
  · exact .inl ⟨h1, gk, _, h2, h3.trim, fun k hk => ⟨⟨(h4 k hk.1).1, hk.2⟩, (h4 k hk.1).2⟩⟩
  · exact .inr h
/-- The reader has become s', and nothing else has turned. -/
structure TurnX (F : Nat → Prop) (w w' : World) (g : Nat) (s' : BS) (G : Nat → Prop) (cp : Option Addr) : Prop where
  bd : BdAt G w' g s' cp
  only : Only F w w'
  sub : ∀ k, G k → F k ∨ w.heap.size ≤ k
  lt : ∀ k, G k → k < w'.heap.size
/-- .. and told bytes of its own. -/
structure FedXG (F : Nat → Prop) (w w' : World) (g : Nat) (s' : BS) (L : B) (G : Nat → Prop) (cp : Option Addr) (v : Value) : Prop where
  t : TurnX F w w' g s' G cp
  body : Own w' w.heap.size v L
  out : ∀ k, v.ownBlock = some k → ¬ G k
theorem TurnX.below {F G : Nat → Prop} {w w' : World} {g N : Nat} {s' : BS} {cp : Option Addr} (h : TurnX F w w' g s' G cp) (hF : ∀ k, F k → N ≤ k) (hN : N ≤ w.heap.size) : Below N w w' := h.only.below hF hN
theorem err_cases (k : Nat) : (k = 0 ∧ errOf k = .nilIface) ∨ (k ≠ 0 ∧ errOf k = .iface 47 (.int .i64 (k : Int))) := by
  by_cases h : k = 0
  · exact .inl ⟨h, by rw [h]; rfl⟩
  · exact .inr ⟨h, errOf_pos h⟩
theorem own_blk_ge {w : World} {b n c k : Nat} {p : Option Addr} {l : B} (h : Own w b (.slice p n c) l) (e : (Value.slice p n c).ownBlock = some k) : b ≤ k ∧ k < w.heap.size := ⟨own_ge h e, ys_lt (own_low0 h) e⟩
/-- A store into the reader. -/
theorem TurnX.put {F G : Nat → Prop} {w w' : World} {g : Nat} {s s' : BS} {cp : Option Addr} (h : TurnX F w w' g s G cp) (hF : F g) (j : Nat) (v : Value) (hc : (bdC s cp).setIfInBounds j v = bdC s' cp) (hk : s'.kind = s.kind) (hck : s'.ck = s.ck) : TurnX F w (w'.setCell ⟨g, j, none⟩ v) g s' G cp :=
  ⟨h.bd.put j v hc hk hck, h.only.set hF v, h.sub, fun k hk => by rw [size_set]; exact h.lt k hk⟩
theorem FedXG.put {F G : Nat → Prop} {w w' : World} {g : Nat} {s s' : BS} {L : B} {cp : Option Addr} {y : Value} (h : FedXG F w w' g s L G cp y) (hF : F g) (j : Nat) (v : Value) (hc : (bdC s cp).setIfInBounds j v = bdC s' cp) (hk : s'.kind = s.kind) (hck : s'.ck = s.ck) : FedXG F w (w'.setCell ⟨g, j, none⟩ v) g s' L G cp y :=
  ⟨h.t.put hF j v hc hk hck, own_only h.body ((Only.refl (fun k => k = g) w').set rfl v) (fun k e hk => by subst hk; exact h.out k e h.t.bd.own), h.out⟩
theorem FedXG.drew {F G : Nat → Prop} {w w' : World} {g : Nat} {s : BS} {L : B} {cp : Option Addr} {y : Value} (h : FedXG F w w' g s L G cp y) (q : Nat) : FedXG F w (w'.drewN q) g s L G cp y := by
  have hb : Below w'.heap.size w' (w'.drewN q) := below_drew (Below.refl _ _) q
  exact ⟨⟨h.t.bd.next hb, ⟨h.t.only.os, h.t.only.tape, h.t.only.output, h.t.only.size, h.t.only.block⟩, h.t.sub, h.t.lt⟩, h.body.keep hb, h.out⟩
end Go.Proofs.YtllbdpiihiohoaaDoor
