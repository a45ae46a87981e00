/- Two readers of bodies side by side, and rows of bytes beside them. -/
import Derived.Test.YtnlmjlfoeodleaaGreatDoorBLaw
import Derived.Test.YtnlmjlfoeodleaaGreatDoorKCut
import Derived.Test.YtnlmjlfoeodleaaGreatDoorRows
import Derived.OpenShut
import Derived.ChangeArms
import Derived.Shelf.Vars
import Derived.LaidMore
import Derived.LaidHandle
import Derived.Lib.LaidTab
import Derived.Stop.LaidErr
import Derived.LaidLaws
namespace Go.Proofs.YtnlmjlfoeodleaaGreatDoor
open Go.RowKit

theorem took_le (s : BS) (l : B) : tookX s l ≤ l.length := by
  unfold tookX
  split
  · exact Nat.zero_le _
  · split
    · exact fkN_le l s.ck
    · split
      · omega
      · split <;> omega
theorem said_le {s : BS} (hi : InvX s) (l : B) : (saidX s l).length ≤ l.length ∨ (saidX s l).length ≤ 1099511627776 := by
  rcases said_len (s := s) l with h | h
  · exact .inl h
  · refine .inr ?_
    unfold saidX
    split
    · simp
    · (try rw [if_pos h]); exact fk_small (hi.ck h).1 l
theorem feedx_as {F : Nat → Prop} {w : World} {g : Nat} {s : BS} {cp : Option Addr} (h : BdAt F w g s cp) (hi : InvX s) (l : B) (p : Option Addr) (n c : Nat) (hn : l.length = n) (hnc : n ≤ c) (hpc : p = none → c = 0) (ha : ArgAt w p l) (hp : ArgOut F p l) (hl : n ≤ 140737488355328) {T M : Nat} {X : B} {S : BS} {D : Bool} {E : Value} (h1 : tookX s l = T) (h2 : saidX s l = X) (h3 : X.length = M) (h4 : fedX s l = S) (h5 : S.done = D) (h6 : errOf S.err = E) :
    Calls Tryz.prog 10 #[.pointer (some ⟨g, 0, none⟩), .slice p n c] w fun e w' => ∃ q d G cp', e = .returned (.tuple #[.int .i64 (T : Int), .slice q M d, .bool D, E]) ∧ FedXG F w w' g S X G cp' (.slice q M d) := by
  refine (feedx_any h hi l p n c hn hnc hpc ha hp hl).mono ?_
  rintro e w' ⟨q, d, G, cp', rfl, hG⟩
  subst h1 h2 h3 h4 h5 h6
  exact ⟨q, d, G, cp', rfl, hG⟩
/-- Two readers that share nothing. -/
structure Two (w W : World) (g1 g2 : Nat) (s1 s2 : BS) (c1 c2 : Option Addr) (G1 G2 : Nat → Prop) : Prop where
  low : Below w.heap.size w W
  r1 : BdAt G1 W g1 s1 c1
  r2 : BdAt G2 W g2 s2 c2
  d : ∀ k, G1 k → ¬ G2 k
  l1 : ∀ k, G1 k → w.heap.size ≤ k ∧ k < W.heap.size
  l2 : ∀ k, G2 k → w.heap.size ≤ k ∧ k < W.heap.size
/-- Bytes of one's own beside them. -/
structure Row (w W : World) (G1 G2 : Nat → Prop) (v : Value) (L : B) : Prop where
  own : Own W w.heap.size v L
  out : ∀ k, v.ownBlock = some k → ¬ G1 k ∧ ¬ G2 k
theorem Two.next {w W W' : World} {g1 g2 : Nat} {s1 s2 : BS} {c1 c2 : Option Addr} {G1 G2 : Nat → Prop} (h : Two w W g1 g2 s1 s2 c1 c2 G1 G2) (hb : Below W.heap.size W W') : Two w W' g1 g2 s1 s2 c1 c2 G1 G2 :=
  ⟨below_out h.low hb, h.r1.next hb, h.r2.next hb, h.d, fun k hk => ⟨(h.l1 k hk).1, Nat.lt_of_lt_of_le (h.l1 k hk).2 hb.size⟩, fun k hk => ⟨(h.l2 k hk).1, Nat.lt_of_lt_of_le (h.l2 k hk).2 hb.size⟩⟩
theorem Row.next {w W W' : World} {G1 G2 : Nat → Prop} {v : Value} {L : B} (h : Row w W G1 G2 v L) (hb : Below W.heap.size W W') : Row w W' G1 G2 v L := ⟨h.own.keep hb, h.out⟩
theorem Two.low1 {w W W' : World} {G : Nat → Prop} (hl : Below w.heap.size w W) (ho : Only G W W') (h1 : ∀ k, G k → w.heap.size ≤ k) : Below w.heap.size w W' := hl.trans (ho.below h1 hl.size)
theorem Two.turn1 {w W W' : World} {g1 g2 : Nat} {s1 s2 s1' : BS} {c1 c2 c1' : Option Addr} {G1 G2 G1' : Nat → Prop} (h : Two w W g1 g2 s1 s2 c1 c2 G1 G2) (t : TurnX G1 W W' g1 s1' G1' c1') : Two w W' g1 g2 s1' s2 c1' c2 G1' G2 := by
  refine ⟨Two.low1 h.low t.only (fun k hk => (h.l1 k hk).1), t.bd, h.r2.keep t.only (fun k hk h9 => h.d k h9 hk), fun k hk h9 => ?_, fun k hk => ⟨?_, t.lt k hk⟩, fun k hk => ⟨(h.l2 k hk).1, Nat.lt_of_lt_of_le (h.l2 k hk).2 t.only.size⟩⟩
  · rcases t.sub k hk with h5 | h5
    · exact h.d k h5 h9
    · have := (h.l2 k h9).2; omega
  · rcases t.sub k hk with h5 | h5
    · exact (h.l1 k h5).1
    · exact Nat.le_trans h.low.size h5
theorem Two.turn2 {w W W' : World} {g1 g2 : Nat} {s1 s2 s2' : BS} {c1 c2 c2' : Option Addr} {G1 G2 G2' : Nat → Prop} (h : Two w W g1 g2 s1 s2 c1 c2 G1 G2) (t : TurnX G2 W W' g2 s2' G2' c2') : Two w W' g1 g2 s1 s2' c1 c2' G1 G2' := by
  refine ⟨Two.low1 h.low t.only (fun k hk => (h.l2 k hk).1), h.r1.keep t.only (fun k hk h9 => h.d k hk h9), t.bd, fun k hk h9 => ?_, fun k hk => ⟨(h.l1 k hk).1, Nat.lt_of_lt_of_le (h.l1 k hk).2 t.only.size⟩, fun k hk => ⟨?_, t.lt k hk⟩⟩
  · rcases t.sub k h9 with h5 | h5
    · exact h.d k hk h5
    · have := (h.l1 k hk).2; omega
  · rcases t.sub k hk with h5 | h5
    · exact (h.l2 k h5).1
    · exact Nat.le_trans h.low.size h5
theorem Row.turn1 {w W W' : World} {g1 : Nat} {s1' : BS} {c1' : Option Addr} {G1 G2 G1' : Nat → Prop} {v : Value} {L : B} (h : Row w W G1 G2 v L) (t : TurnX G1 W W' g1 s1' G1' c1') : Row w W' G1' G2 v L := by
  refine ⟨own_only h.own t.only (fun k e => (h.out k e).1), fun k e => ⟨fun h9 => ?_, (h.out k e).2⟩⟩
  rcases t.sub k h9 with h5 | h5
  · exact (h.out k e).1 h5
  · have := ys_lt (own_low0 h.own) e; omega
theorem Row.turn2 {w W W' : World} {g2 : Nat} {s2' : BS} {c2' : Option Addr} {G1 G2 G2' : Nat → Prop} {v : Value} {L : B} (h : Row w W G1 G2 v L) (t : TurnX G2 W W' g2 s2' G2' c2') : Row w W' G1 G2' v L := by
  refine ⟨own_only h.own t.only (fun k e => (h.out k e).2), fun k e => ⟨(h.out k e).1, fun h9 => ?_⟩⟩
  rcases t.sub k h9 with h5 | h5
  · exact (h.out k e).2 h5
  · have := ys_lt (own_low0 h.own) e; omega
theorem Row.told1 {w W W' : World} {g1 g2 : Nat} {s1 s2 s1' : BS} {c1 c2 c1' : Option Addr} {G1 G2 G1' : Nat → Prop} {v : Value} {L : B} (h : Two w W g1 g2 s1 s2 c1 c2 G1 G2) (f : FedXG G1 W W' g1 s1' L G1' c1' v) : Row w W' G1' G2 v L :=
  ⟨own_base f.body h.low.size, fun k e => ⟨f.out k e, fun h9 => by have := (h.l2 k h9).2; have := own_ge f.body e; omega⟩⟩
theorem Row.told2 {w W W' : World} {g1 g2 : Nat} {s1 s2 s2' : BS} {c1 c2 c2' : Option Addr} {G1 G2 G2' : Nat → Prop} {v : Value} {L : B} (h : Two w W g1 g2 s1 s2 c1 c2 G1 G2) (f : FedXG G2 W W' g2 s2' L G2' c2' v) : Row w W' G1 G2' v L :=
  ⟨own_base f.body h.low.size, fun k e => ⟨fun h9 => by have := (h.l1 k h9).2; have := own_ge f.body e; omega, f.out k e⟩⟩
/-- A fresh row. -/
theorem Row.fresh {w W W' : World} {g1 g2 : Nat} {s1 s2 : BS} {c1 c2 : Option Addr} {G1 G2 : Nat → Prop} {v : Value} {L : B} (h : Two w W g1 g2 s1 s2 c1 c2 G1 G2) (ho : Own W' W.heap.size v L) : Row w W' G1 G2 v L :=
  ⟨own_base ho h.low.size, fun k e => ⟨fun h9 => by have := (h.l1 k h9).2; have := own_ge ho e; omega, fun h9 => by have := (h.l2 k h9).2; have := own_ge ho e; omega⟩⟩
/-- What is handed to a reader lies outside of it. -/
theorem Row.out1 {w W : World} {G1 G2 : Nat → Prop} {q qa : Option Addr} {n c : Nat} {L l X : B} {k d i : Nat} (h : Row w W G1 G2 (.slice q n c) L) (P : Part q X qa k d i) : ArgOut G1 qa l ∧ ArgOut G2 qa l := by
  have hb : ∀ a, qa = some a → ∃ g0, (Value.slice q n c).ownBlock = some g0 ∧ a.block = g0 := fun a e => by
    obtain ⟨a0, e0, e1⟩ := P.blk a e
    subst e0
    exact ⟨a0.block, rfl, e1⟩
  exact ⟨fun a e _ hg => by obtain ⟨g0, e2, e3⟩ := hb a e; rw [e3] at hg; exact (h.out g0 e2).1 hg, fun a e _ hg => by obtain ⟨g0, e2, e3⟩ := hb a e; rw [e3] at hg; exact (h.out g0 e2).2 hg⟩
theorem Row.self {w W : World} {G1 G2 : Nat → Prop} {q : Option Addr} {n c : Nat} {L l : B} (h : Row w W G1 G2 (.slice q n c) L) : ArgOut G1 q l ∧ ArgOut G2 q l := by
  constructor
  · intro a e _ hg; subst e; exact (h.out a.block rfl).1 hg
  · intro a e _ hg; subst e; exact (h.out a.block rfl).2 hg
theorem Row.slok {w W : World} {G1 G2 : Nat → Prop} {q : Option Addr} {n c : Nat} {L : B} (h : Row w W G1 G2 (.slice q n c) L) : SlOk q n c L := ⟨slice_part h.own, h.own.cap, own_nil h.own, h.own.arg.plain⟩
/-- A row that grows, beside them. -/
theorem Two.grow {w W W' : World} {g1 g2 : Nat} {s1 s2 : BS} {c1 c2 : Option Addr} {G1 G2 : Nat → Prop} {v : Value} {L : B} (h : Two w W g1 g2 s1 s2 c1 c2 G1 G2) (r : Row w W G1 G2 v L) (hg : W.grownBy W' v.ownBlock) : Two w W' g1 g2 s1 s2 c1 c2 G1 G2 := by
  have og : Only (fun j => v.ownBlock = some j) W W' := Only.grown hg (fun j e => e)
  refine ⟨Two.low1 h.low og (fun k e => own_ge r.own e), h.r1.keep og (fun k hk e => (r.out k e).1 hk), h.r2.keep og (fun k hk e => (r.out k e).2 hk), h.d, fun k hk => ⟨(h.l1 k hk).1, Nat.lt_of_lt_of_le (h.l1 k hk).2 hg.size⟩, fun k hk => ⟨(h.l2 k hk).1, Nat.lt_of_lt_of_le (h.l2 k hk).2 hg.size⟩⟩
end Go.Proofs.YtnlmjlfoeodleaaGreatDoor
/- Appends to rows of one's own, in a region that draws its order. -/
namespace Go.Proofs.YtnlmjlfoeodleaaGreatDoor
open Go.RowKit

theorem wp_append_own_none {P : Program} {w : World} {o : Oper} {a : Act} {K : Act → World → Prop} {Q : Exit → Act → World → Prop} (s x : Operand) (t : TypeId)
    (ho : o.op = .call { callee := .builtin .append, args := #[s, x], argTypes := #[t, t] })
    (base : Nat) (e : TypeId) (i : TypeInfo) (size : Nat) (ht : P.underlying t = some (.slice e)) (hi : P.info? e = some i)
    (v : Value) (n : Nat) (xs : List Value) (hs : a.eval s = v) (hown : w.ownsRow base e size v n xs) (hx : a.eval x = .slice none 0 0)
    (h : K (a.put o.dst v) w) : o.wp P a w K Q := by
  have hrun := run_append_owned_none (P := P) (w := w) base t o.type e i size ht hi v n xs hown
  unfold Oper.wp
  simp [execOp, ho, resolve, invoke, builtin, hs, hx, hrun, Result.andThen]
  exact h
/-- Bytes of any slice laid behind a row of one's own. -/
theorem wp_append_any {w : World} {o : Oper} {a : Act} {K : Act → World → Prop} {Q : Exit → Act → World → Prop} (s x : Operand)
    (ho : o.op = .call { callee := .builtin .append, args := #[s, x], argTypes := #[32, 32] }) (base : Nat) (v : Value) (n : Nat) (acc L : B) (hs : a.eval s = v) (hown : Own w base v acc) (hacc : acc.length = n) (p : Option Addr) (m c : Nat) (hx : a.eval x = .slice p m c) (hm : L.length = m) (hA : ArgAt w p L) (hp : p = none → c = 0) (hl : n + m ≤ 140737488355328) (hbase : base ≤ w.heap.size)
    (h : ∀ q d w', Own w' base (.slice q (n + m) d) (acc ++ L) → w.grownBy w' v.ownBlock → ((Value.slice q (n + m) d).ownBlock = v.ownBlock ∨ (Value.slice q (n + m) d).ownBlock = some w.heap.size) → K (a.put o.dst (.slice q (n + m) d)) w') : o.wp Tryz.prog a w K Q := by
  obtain ⟨i0, hi0, hz0, hz1, hz2⟩ := info_parts infoB
  cases p with
  | none =>
    have hL : L = [] := by
      cases L with
      | nil => rfl
      | cons y r => obtain ⟨_, _, e, _⟩ := hA 0 y rfl; cases e
    subst hL
    obtain rfl : m = 0 := by simpa using hm.symm
    obtain rfl := hp rfl
    obtain ⟨q, d, rfl⟩ := own_slice hown
    rw [hacc] at hown hs
    have hown' : w.ownsRow base 5 1 (.slice q n d) n (Lib.byteCells acc) := by unfold Own at hown; rw [hacc] at hown; exact hown
    refine wp_append_own_none s x 32 ho base 5 i0 1 Tryz.underlying32 hi0 (.slice q n d) n (Lib.byteCells acc) hs hown' hx ?_
    have h9 := h q d w (by rw [List.append_nil]; exact hown) ⟨rfl, rfl, rfl, Nat.le_refl _, fun _ _ _ => rfl⟩ (.inl (by rw [hacc]; cases q <;> rfl))
    exact h9
  | some ad =>
    have hown' : w.ownsRow base 5 1 v n (Lib.byteCells acc) := by unfold Own at hown; rw [hacc] at hown; exact hown
    by_cases hL : L = []
    · subst hL
      obtain rfl : m = 0 := by simpa using hm.symm
      refine wp_append_own_at s x 32 ho base 5 i0 _ 1 1 Tryz.underlying32 hi0 hz0 hz1 hz2 rfl (by decide) v n (Lib.byteCells acc) hs hown' ad 0 c [] hx rfl (fun j u hj => by simp at hj) (fun u hu => by simp at hu) (by unfold maxLen; omega) (by omega) hbase ?_
      intro v' w' h1 h2 h4
      obtain ⟨q, d, rfl⟩ := own_slice h1
      exact h q d w' (by unfold Own; rw [List.append_nil, hacc]; simpa using h1) h2 h4
    · obtain ⟨g, o2, rfl⟩ := hA.plain ad rfl hL
      refine wp_append_own_at s x 32 ho base 5 i0 _ 1 1 Tryz.underlying32 hi0 hz0 hz1 hz2 rfl (by decide) v n (Lib.byteCells acc) hs hown' ⟨g, o2, none⟩ m c (Lib.byteCells L) hx (by simp only [Lib.byteCells, List.length_map, hm, Nat.mul_one]) (arg_news hA) (byte_one L) (by unfold maxLen; omega) (by omega) hbase ?_
      intro v' w' h1 h2 h4
      obtain ⟨q, d, rfl⟩ := own_slice h1
      exact h q d w' (Own.put (by rw [hacc]; exact h1) rfl hm) h2 h4
theorem wp_app_S {w : World} {o : Oper} {a : Act} {K : Act → World → Prop} {Q : Exit → Act → World → Prop} (sl x : Operand)
    (ho : o.op = .call { callee := .builtin .append, args := #[sl, x], argTypes := #[32, 9] }) (base : Nat) (v : Value) (n k m : Nat) (acc s : B) (hs : a.eval sl = v) (hown : Own w base v acc) (hacc : acc.length = n) (hk : s.length = k) (hm : n + k = m) (hx : a.eval x = .string (str s)) (hl : m ≤ 140737488355328) (hbase : base ≤ w.heap.size)
    (h : ∀ q d w', Own w' base (.slice q m d) (acc ++ s) → w.grownBy w' v.ownBlock → K (a.put o.dst (.slice q m d)) w') : o.wp Tryz.prog a w K Q := by
  obtain ⟨i0, hi0, hz0, hz1, hz2⟩ := info_parts infoB
  have hz : (str s).size = k := by rw [str_size, hk]
  refine wp_append_own_string sl x 32 9 ho base 5 i0 Tryz.underlying32 Tryz.underlying9 hi0 hz0 hz1 hz2 v n (Lib.byteCells acc) hs (by have h8 := hown; unfold Own at h8; rw [hacc] at h8; exact h8) (str s) hx (by rw [hz]; unfold maxLen; omega) (by rw [hz]; omega) hbase ?_
  intro v' w' hown' hgr
  have ho3 := Own.app hacc hown'
  rw [hz, hm] at hown'
  obtain ⟨q, d, rfl⟩ := own_slice hown'
  exact h q d w' ho3 hgr
end Go.Proofs.YtnlmjlfoeodleaaGreatDoor
/- What was handed in: bytes, framings; what the listed variables of the library hold. -/
namespace Go.Proofs.YtnlmjlfoeodleaaGreatDoor
open Go.RowKit Go.ChangeShapes Go.WideShapes

theorem u8_back {z : Int} (h : 0 ≤ z ∧ z ≤ 255) : (((UInt8.ofNat z.toNat).toNat : Nat) : Int) = z := by
  rw [UInt8.toNat_ofNat']
  omega
theorem bulk_lits {H : Type} : ∀ l : List Int, Rows.uptoBulkAll (lits (H := H) .u8 l) = l.length
  | [] => rfl
  | x :: l => by
    have e : lits (H := H) .u8 (x :: l) = .lit (.int .u8 x) :: lits .u8 l := rfl
    rw [e]
    simp only [Rows.uptoBulkAll, Rows.uptoBulk, List.length_cons]
    rw [bulk_lits l]
    omega
theorem bytesU8 : Tryz.prog.bytesOf 5 = 1 := by kernel_rfl
theorem open_bytesX {H : Type} {enc : TypeId × Value → H} {W : World} {sp : Nat → Bool} {held : Bool} (_hh : held = true) (fuel : Nat) (d : Value) (x : DataW H × List MemPlace) (h : DataW.trod enc Tryz.prog W 0 sp held fuel 32 [d] = some x) : ∃ (L : B) (p : Option Addr) (c : Nat), d = .slice p L.length c ∧ SlOk p L.length c L ∧ ArgAt W p L ∧ L.length + 1 ≤ Rows.uptoBulk x.1 := by
  have c1 : Tryz.prog.cellsOf 5 = 1 := by kernel_rfl
  rcases open_ints Tryz.underlying32 Tryz.underlying5 c1 h with ⟨hcs, hx0⟩ | ⟨a, len, cap, zs, hcs, h1, h2, h3, h4, h5, h6, h7⟩
  · simp only [List.cons.injEq, and_true] at hcs
    refine ⟨[], none, 0, hcs, ⟨rfl, Nat.zero_le _, fun _ => rfl, fun a e => by cases e⟩, fun i y hi => by simp at hi, ?_⟩
    rw [hx0]
    simp [Rows.uptoBulk]
  · simp only [List.cons.injEq, and_true] at hcs
    have hle : len ≤ zs.length := by rw [h4]; split <;> omega
    have hll : ((zs.take len).map (fun z => UInt8.ofNat z.toNat)).length = len := by rw [List.length_map, List.length_take, Nat.min_eq_left hle]
    have hA : ArgAt W (some a) ((zs.take len).map (fun z => UInt8.ofNat z.toNat)) := fun i y hi => by
      rw [List.getElem?_map] at hi
      cases hz : (zs.take len)[i]? with
      | none => rw [hz] at hi; cases hi
      | some z =>
        rw [hz] at hi
        obtain rfl := Option.some.inj hi
        rw [List.getElem?_take] at hz
        split at hz
        · have hlt : i < zs.length := (List.getElem?_eq_some_iff.1 hz).1
          have hc := h6 i hlt
          rw [List.getD_eq_getElem?_getD, hz] at hc
          have hsp : a.spot = none := World.cell?_spot (h6 0 (by omega))
          obtain ⟨g, off, spot⟩ := a
          simp only at hsp
          subst hsp
          refine ⟨g, off, rfl, ?_⟩
          rw [Go.WideShapes.add_plain] at hc
          rw [u8_back (bounds_u8 (h7 z (List.mem_of_getElem? hz)))]
          simpa using hc
        · cases hz
    refine ⟨_, some a, cap, by rw [hll]; exact hcs, ⟨rfl, by rw [hll]; omega, (fun e => by cases e), hA.plain⟩, hA, ?_⟩
    rw [hll, h5]
    simp only [Rows.uptoBulk]
    rw [bulk_lits, bulk_lits, List.length_take, List.length_drop]
    omega
theorem open_len {H : Type} {enc : TypeId × Value → H} {W : World} {fuel : Nat} {q : Option Addr} {n c : Nat} {y : DataW H × List MemPlace} (h : DataW.trod enc Tryz.prog W 0 (fun _ => true) true fuel 32 [.slice q n c] = some y) (hw : ∀ x ∈ y.1.weights Tryz.prog 32, x ≤ reachBytes) : n ≤ 140737488351232 := by
  rcases DataW.trod_slice Tryz.underlying32 h with ⟨e, rfl⟩ | ⟨a, len2, cap2, elems, rest, n2, rfl, e, rfl, _, hcp, _, hlen, hel, _, _⟩
  · simp only [List.cons.injEq, and_true, Value.slice.injEq] at e
    omega
  · simp only [List.cons.injEq, and_true, Value.slice.injEq] at e
    have hl := hw ((elems.length + rest.length) * Tryz.prog.bytesOf 5) (by
      simp only [DataW.weights, Tryz.underlying32, List.mem_cons, List.length_map]
      exact .inl trivial)
    rw [bytesU8] at hl
    have : (elems.length + rest.length) * 1 ≤ 140737488351232 := Nat.le_trans hl (by decide)
    omega
set_option maxHeartbeats 2000000 in
theorem open_frame {H : Type} {enc : TypeId × Value → H} {W : World} {sp : Nat → Bool} {held : Bool} (fuel : Nat) (cs : List Value) (x : DataW H × List MemPlace) (h : DataW.trod enc Tryz.prog W 0 sp held fuel 23 cs = some x) : ∃ (K N : Int), cs = [.int .i64 K, .int .i64 N] ∧ 1 ≤ Rows.uptoBulk x.1 := by
  obtain ⟨xs, n, rfl, rfl, hl, hx, hf⟩ := DataW.trod_struct Tryz.underlying23 h
  have c2 : Tryz.prog.cellsOf 23 = 2 := by kernel_rfl
  have c3 : Tryz.prog.cellsOf 3 = 1 := by kernel_rfl
  rw [c2] at hl
  have hx2 : xs.length = 2 := by rw [hx]; rfl
  rcases cs with _ | ⟨d0, _ | ⟨d1, _ | ⟨d2, r⟩⟩⟩ <;> simp at hl
  rcases xs with _ | ⟨y0, _ | ⟨y1, _ | ⟨y2, r⟩⟩⟩ <;> simp at hx2
  have f0 : DataW.trod enc Tryz.prog W 0 sp held n 3 (([d0, d1].drop 0).take (Tryz.prog.cellsOf 3)) = some y0 := hf 0 _ rfl
  rw [c3] at f0
  replace f0 : DataW.trod enc Tryz.prog W 0 sp held n 3 [d0] = some y0 := f0
  have f1 : DataW.trod enc Tryz.prog W 0 sp held n 3 (([d0, d1].drop 1).take (Tryz.prog.cellsOf 3)) = some y1 := hf 1 _ rfl
  rw [c3] at f1
  replace f1 : DataW.trod enc Tryz.prog W 0 sp held n 3 [d1] = some y1 := f1
  obtain ⟨s0, e0, rfl, _⟩ := DataW.trod_int Tryz.underlying3 f0
  obtain ⟨s1, e1, rfl, _⟩ := DataW.trod_int Tryz.underlying3 f1
  simp only [List.cons.injEq, and_true] at e0 e1
  subst e0 e1
  refine ⟨s0, s1, rfl, ?_⟩
  simp [Rows.uptoBulk, Rows.uptoBulkAll]
  try omega
theorem gErr : Tryz.prog.globalNamed "errors.errorType" = some 0 := by kernel_rfl
theorem rtyp : (Tryz.prog.cutTypes.find? (·.1 == "internal/reflectlite.rtype")).map (·.2) = some 148 := by kernel_rfl
theorem oneRow : ((List.range 236).filter fun t => Tryz.prog.rowNamed t [101, 114, 114, 111, 114]) = [29] := by kernel_rfl
theorem typesSize : Tryz.prog.types.size = 236 := by kernel_rfl
set_option maxRecDepth 100000 in
theorem env_of {W : World} (h : handlesMet Tryz.prog [("errors.errorType", Rows.laid_errors_errorType)] W) : EnvE W := by
  obtain ⟨name, u, ty, e1, e2, e3, e4, e5⟩ := h _ (List.mem_singleton.2 rfl)
  have en : name = [101, 114, 114, 111, 114] := (Option.some.inj e1).symm
  subst en
  obtain rfl := Option.some.inj (rtyp.symm.trans e2)
  have hm : ty ∈ (List.range 236).filter fun t => Tryz.prog.rowNamed t [101, 114, 114, 111, 114] := List.mem_filter.2 ⟨List.mem_range.2 (by rw [← typesSize]; exact e3), e4⟩
  rw [oneRow] at hm
  obtain rfl := List.mem_singleton.1 hm
  have hh : typeHandle Tryz.prog 29 = .pointer (some ⟨7, 29, none⟩) := by kernel_rfl
  rw [hh] at e5
  unfold EnvE
  simpa using World.var?_cell gErr e5 0
theorem gPow : Tryz.prog.globalNamed "internal/strconv.uint64pow10" = some 1 := by kernel_rfl
theorem tPow : (Tryz.prog.globals[1]?).map (·.type) = some 193 := by kernel_rfl
theorem env_pow {W : World} (h : laidMet Tryz.prog [("internal/strconv.uint64pow10", Lib.tabData .u64 Lib.pow10Tab)] W) : EnvP W :=
  Lib.tabIs_of_head gPow tPow Tryz.underlying193 Tryz.underlying126 (by kernel_rfl) (by kernel_rfl) h
end Go.Proofs.YtnlmjlfoeodleaaGreatDoor
