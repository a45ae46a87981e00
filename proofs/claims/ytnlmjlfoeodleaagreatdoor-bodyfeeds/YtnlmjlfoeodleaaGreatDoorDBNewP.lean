/- The document's reader of bodies: how it goes with the program's; its box. -/
import Derived.Test.YtnlmjlfoeodleaaGreatDoorDFeed
import Derived.Test.YtnlmjlfoeodleaaGreatDoorBOpen
namespace Go.Proofs.YtnlmjlfoeodleaaGreatDoor
open Go.RowKit

theorem step_err_st {s : KS} {c : UInt8} (h : (stepK s c).2 ≠ 0) : (stepK s c).1.st = s.st := by
  have h1 := (cnt_st s c).1
  unfold stepK at h ⊢
  split
  · exact h1
  · rename_i hh
    rw [if_neg hh] at h
    unfold judgeK at h ⊢
    have h2 := (next_st (cntK s c) c).1
    rw [h1] at h2
    split
    · exact h2
    · rename_i h5
      rw [if_neg h5] at h
      split
      · exact h2
      · rename_i h6
        rw [if_neg h6] at h
        exact absurd rfl h
theorem fk_11 : ∀ (l : B) {s : KS}, (s.st = 11 → s.err = 0) → ((feedK s l).st = 11 → (feedK s l).err = 0)
  | [], s, h => h
  | c :: l, s, h => by
    cases hn : endedK s with
    | true => rw [(fk_ended hn _).1]; exact h
    | false =>
      rw [(fk_cons hn c l).1]
      refine fk_11 l (fun h11 => ?_)
      obtain ⟨he, h1⟩ := ended_parts hn
      unfold byteK at h11 ⊢
      split
      · exact he
      · rename_i h3
        rw [if_neg h3] at h11
        dsimp only at h11 ⊢
        by_cases h5 : (stepK s c).2 = 0
        · exact h5
        · exact absurd ((step_err_st h5).symm.trans h11) h1
/-- How the document's reader of bodies stands to the program's. -/
structure RelB (K N m : Int) (s : BS) (d : DK) : Prop where
  k : K = (s.kind : Int)
  k1 : s.kind = 1 → N = (s.told : Int) + (s.room : Int) ∧ (s.done = false → 0 < s.room)
  k3 : s.kind = 3 → (m = -1 ∧ s.told + s.room = 9223372036854775807) ∨ m = (s.told : Int) + (s.room : Int)
  rel : s.kind = 2 → RelD s.ck d
  part : s.kind = 2 → s.ck.st < 6 → s.ck.part = []
  e11 : s.kind = 2 → s.ck.st = 11 → s.ck.err = 0
  ok : s.kind = 2 → (d.st ≤ 7 → OkD d) ∧ d.st ≤ 9 ∧ (d.st ≤ 5 → d.line = [] ∧ d.tr = [])
  nl : s.kind ≠ 2 → d.line = [] ∧ d.tr = []
def newDK (K m : Int) : DK := if K = 2 then newD (min (topX m) 1099511627776) else newD 0
theorem rel_newB {K N m : Int} (h : newE K N m = 0) : RelB K N m (newX K N m) (newDK K m) := by
  obtain ⟨hk, hm, hN⟩ := new_parts h
  have hk := of_decide_eq_true hk
  have hK : K = 0 ∨ K = 1 ∨ K = 2 ∨ K = 3 := by omega
  rcases hK with rfl | rfl | rfl | rfl
  · exact ⟨rfl, (fun e => by cases e), (fun e => by cases e), (fun e => by cases e), (fun e => by cases e), (fun e => by cases e), (fun e => by cases e), fun _ => ⟨rfl, rfl⟩⟩
  · refine ⟨rfl, fun _ => ⟨?_, fun hd => ?_⟩, (fun e => by cases e), (fun e => by cases e), (fun e => by cases e), (fun e => by cases e), (fun e => by cases e), fun _ => ⟨rfl, rfl⟩⟩
    · show N = ((0 : Nat) : Int) + ((if (1 : Int) = 1 then N.toNat else if (1 : Int) = 3 then topX m else 0 : Nat) : Int)
      rw [if_pos rfl]; omega
    · show 0 < (if (1 : Int) = 1 then N.toNat else if (1 : Int) = 3 then topX m else 0)
      rw [if_pos rfl]
      have hd : decide ((1 : Int) = 0 ∨ ((1 : Int) = 1 ∧ N = 0)) = false := hd
      have := of_decide_eq_false hd
      omega
  · have hn : newDK 2 m = newD (min (topX m) 1099511627776) := by unfold newDK; rw [if_pos rfl]
    rw [hn]
    refine ⟨rfl, (fun e => by cases e), (fun e => by cases e), fun _ => relD_new _, fun _ _ => rfl, fun _ _ => rfl, fun _ => ⟨fun _ => okD_new _ (by omega), by simp [newD], fun _ => ⟨rfl, rfl⟩⟩, fun e => absurd rfl e⟩
  · refine ⟨rfl, (fun e => by cases e), fun _ => ?_, (fun e => by cases e), (fun e => by cases e), (fun e => by cases e), (fun e => by cases e), fun _ => ⟨rfl, rfl⟩⟩
    show (m = -1 ∧ 0 + (if (3 : Int) = 1 then N.toNat else if (3 : Int) = 3 then topX m else 0) = 9223372036854775807) ∨ m = ((0 : Nat) : Int) + ((if (3 : Int) = 1 then N.toNat else if (3 : Int) = 3 then topX m else 0 : Nat) : Int)
    rw [if_neg (by decide), if_pos rfl]
    unfold topX
    by_cases h1 : m = -1
    · rw [if_pos h1]; exact .inl ⟨h1, rfl⟩
    · rw [if_neg h1]; right; omega
/-- What the document's reader of chunks becomes. -/
def fedDK (s : BS) (d : DK) (l : B) : DK := if overX s = false ∧ s.kind = 2 then (feedD d l).1 else d
theorem rel_fedB {K N m : Int} {s : BS} {d : DK} (h : RelB K N m s d) (hi : InvX s) (l : B) : RelB K N m (fedX s l) (fedDK s d l) := by
  unfold fedDK
  cases hn : overX s with
  | true => rw [(over_yes hn l).1, if_neg (by simp)]; exact h
  | false =>
    by_cases e2 : s.kind = 2
    · rw [if_pos ⟨rfl, e2⟩, (fed_2 hn e2 l).1]
      obtain ⟨o1, o2, o3⟩ := h.ok e2
      have hr := rel_feed l (h.rel e2) (hi.ck e2).1 (h.part e2)
      refine ⟨h.k, fun e => ?_, fun e => ?_, fun _ => hr.1, fun _ => part_nil l s.ck (h.part e2), fun _ => fk_11 l (h.e11 e2), fun _ => feedD_inv l o1 o2 o3, fun e => absurd e2 e⟩
      · have e : s.kind = 1 := e
        omega
      · have e : s.kind = 3 := e
        omega
    · rw [if_neg (fun h9 => e2 h9.2)]
      by_cases e1 : s.kind = 1
      · rw [(fed_1 hn e1 l).1]
        obtain ⟨k1, k2⟩ := h.k1 e1
        refine ⟨h.k, fun _ => ⟨?_, fun hd => ?_⟩, fun e => ?_, fun e => absurd e e2, fun e => absurd e e2, fun e => absurd e e2, fun e => absurd e e2, h.nl⟩
        · show N = ((s.told + min l.length s.room : Nat) : Int) + ((s.room - l.length : Nat) : Int)
          omega
        · have hd : decide (s.room ≤ l.length) = false := hd
          have := of_decide_eq_false hd
          show 0 < s.room - l.length
          omega
        · have e : s.kind = 3 := e
          omega
      · rw [(fed_3 hn e2 e1 l).1]
        refine ⟨h.k, fun e => absurd e e1, fun e => ?_, fun e => absurd e e2, fun e => absurd e e2, fun e => absurd e e2, fun e => absurd e e2, h.nl⟩
        show (m = -1 ∧ s.told + min l.length s.room + (s.room - l.length) = 9223372036854775807) ∨ m = ((s.told + min l.length s.room : Nat) : Int) + ((s.room - l.length : Nat) : Int)
        rcases h.k3 e with ⟨h1, h2⟩ | h1
        · exact .inl ⟨h1, by omega⟩
        · right; omega
theorem rel_shutB {K N m : Int} {s : BS} {d : DK} (h : RelB K N m s d) : RelB K N m (shutX s) d := by
  cases hn : overX s with
  | true => rw [shut_over hn]; exact h
  | false =>
    by_cases e3 : s.kind = 3
    · rw [shut_3 hn e3]
      exact ⟨h.k, fun e => by have e : s.kind = 1 := e; omega, h.k3, h.rel, h.part, h.e11, h.ok, h.nl⟩
    · rw [shut_no hn e3]
      exact ⟨h.k, h.k1, h.k3, h.rel, h.part, h.e11, h.ok, h.nl⟩
/-- Errors and ends of chunked bodies agree. -/
theorem rel_ends {s : KS} {d : DK} (h : RelD s d) (hi : InvK s) (h11 : s.st = 11 → s.err = 0) : d.e = s.err ∧ decide (d.st = 8) = decide (s.st = 11) := by
  by_cases he : s.err = 0
  · obtain ⟨h1, hS⟩ := h.ok he
    refine ⟨by rw [h1, he], decide_eq_decide.2 ?_⟩
    have hst := hi.st
    unfold StD at hS
    have : s.st = 0 ∨ s.st = 1 ∨ s.st = 2 ∨ s.st = 3 ∨ s.st = 4 ∨ s.st = 5 ∨ s.st = 6 ∨ s.st = 7 ∨ s.st = 8 ∨ s.st = 9 ∨ s.st = 10 ∨ s.st = 11 := by omega
    rcases this with e | e | e | e | e | e | e | e | e | e | e | e <;> simp only [e] at hS <;> first | (have h9 := hS.1; simp [e, h9]) | simp [e, hS]
  · obtain ⟨h1, h2⟩ := h.bad he
    refine ⟨h2, decide_eq_decide.2 ⟨fun e => by omega, fun e => absurd (h11 e) he⟩⟩
def bdV (K N m : Int) (s : BS) (d : DK) (lv tv : Value) : Array Value := #[.int .i64 K, .int .i64 N, .int .i64 m, .int .i64 (s.told : Int), .bool s.done, .int .i64 (s.err : Int), .int .i64 (d.most : Int), .int .i64 (d.len : Int), .int .i64 (d.st : Int), .int .i64 (d.e : Int), .int .i64 (d.digits : Int), .int .i64 (d.size : Int), .int .i64 (d.more : Int), lv, .int .i64 (d.bytes : Int), tv]
def zzB : Array Value := #[.int .i64 0, .int .i64 0, .int .i64 0, .int .i64 0, .bool false, .int .i64 0, .int .i64 0, .int .i64 0, .int .i64 0, .int .i64 0, .int .i64 0, .int .i64 0, .int .i64 0, .slice none 0 0, .int .i64 0, .slice none 0 0]
structure Cells16 (w : World) (g : Nat) (c0 c1 c2 c3 c4 c5 c6 c7 c8 c9 c10 c11 c12 c13 c14 c15 : Value) : Prop where
  a0 : w.cell? ⟨g, 0, none⟩ = some c0
  a1 : w.cell? ⟨g, 1, none⟩ = some c1
  a2 : w.cell? ⟨g, 2, none⟩ = some c2
  a3 : w.cell? ⟨g, 3, none⟩ = some c3
  a4 : w.cell? ⟨g, 4, none⟩ = some c4
  a5 : w.cell? ⟨g, 5, none⟩ = some c5
  a6 : w.cell? ⟨g, 6, none⟩ = some c6
  a7 : w.cell? ⟨g, 7, none⟩ = some c7
  a8 : w.cell? ⟨g, 8, none⟩ = some c8
  a9 : w.cell? ⟨g, 9, none⟩ = some c9
  a10 : w.cell? ⟨g, 10, none⟩ = some c10
  a11 : w.cell? ⟨g, 11, none⟩ = some c11
  a12 : w.cell? ⟨g, 12, none⟩ = some c12
  a13 : w.cell? ⟨g, 13, none⟩ = some c13
  a14 : w.cell? ⟨g, 14, none⟩ = some c14
  a15 : w.cell? ⟨g, 15, none⟩ = some c15
  z : ∀ j, w.frozen? ⟨g, j, none⟩ = false
theorem cells16 {w : World} {g : Nat} {c0 c1 c2 c3 c4 c5 c6 c7 c8 c9 c10 c11 c12 c13 c14 c15 : Value} {T : TypeId} (h : w.heap[g]? = some (.cells #[c0, c1, c2, c3, c4, c5, c6, c7, c8, c9, c10, c11, c12, c13, c14, c15] T (0, 0))) : Cells16 w g c0 c1 c2 c3 c4 c5 c6 c7 c8 c9 c10 c11 c12 c13 c14 c15 := by
  refine ⟨?_, ?_, ?_, ?_, ?_, ?_, ?_, ?_, ?_, ?_, ?_, ?_, ?_, ?_, ?_, ?_, fun j => by simp [World.frozen?, h]⟩ <;> simp [World.cell?, h]
theorem bd_size : (Tryz.prog.info? 37).map (·.size) = some 16 := by kernel_rfl
theorem loadBd (w : World) (g : Nat) (t : TypeId) (cs : Array Value) (fr : Nat × Nat) (hg : w.heap[g]? = some (.cells cs t fr)) (hs : cs.size = 16) : (loadVar 37 ⟨g, 0, none⟩).run Tryz.prog w = .ok (.agg cs) w := run_loadVar_row (P := Tryz.prog) w g t 37 cs fr _ hg Tryz.underlying37 rfl (by rw [bd_size, hs])
theorem results_bd2 {fn : Func} {p u : Tmp} (h : fn.results = #[.cell p 37, .tmp u]) (tmps : Array Value) (w : World) (g : Nat) (t : TypeId) (cs : Array Value) (fr : Nat × Nat)
    (hp : tmps.getD p undef = .pointer (some ⟨g, 0, none⟩)) (hg : w.heap[g]? = some (.cells cs t fr)) (hs : cs.size = 16) : (results fn tmps).run Tryz.prog w = .ok (.tuple #[.agg cs, tmps.getD u undef]) w := by
  have hl := loadBd w g t cs fr hg hs
  have hp2 : tmps[p]?.getD undef = .pointer (some ⟨g, 0, none⟩) := by simpa using hp
  simp [results, h, hp2, asAddr, Result.andThen, hl]
theorem results_bd3 {fn : Func} {p u v : Tmp} (h : fn.results = #[.cell p 37, .tmp u, .tmp v]) (tmps : Array Value) (w : World) (g : Nat) (t : TypeId) (cs : Array Value) (fr : Nat × Nat)
    (hp : tmps.getD p undef = .pointer (some ⟨g, 0, none⟩)) (hg : w.heap[g]? = some (.cells cs t fr)) (hs : cs.size = 16) : (results fn tmps).run Tryz.prog w = .ok (.tuple #[.agg cs, tmps.getD u undef, tmps.getD v undef]) w := by
  have hl := loadBd w g t cs fr hg hs
  have hp2 : tmps[p]?.getD undef = .pointer (some ⟨g, 0, none⟩) := by simpa using hp
  simp [results, h, hp2, asAddr, Result.andThen, hl]
theorem wpList_store_bd {w : World} {ops : Array Oper} {rest : List Oper} {o : Oper} {a : Act} {Q : Exit → Act → World → Prop} (hgd : o.guard = none) (x y : Operand) (ho : o.op = .store 37 x y) (g : Nat) (hx : a.eval x = .pointer (some ⟨g, 0, none⟩)) (z0 z1 z2 z3 : Int) (z4 : Bool) (z5 z6 z7 z8 z9 z10 z11 z12 z14 : Int) (a1 a2 : Option Addr) (n1 n2 k1 k2 : Nat) (hy : a.eval y = .agg #[.int .i64 z0, .int .i64 z1, .int .i64 z2, .int .i64 z3, .bool z4, .int .i64 z5, .int .i64 z6, .int .i64 z7, .int .i64 z8, .int .i64 z9, .int .i64 z10, .int .i64 z11, .int .i64 z12, .slice a1 n1 k1, .int .i64 z14, .slice a2 n2 k2])
    {x0 x1 x2 x3 x4 x5 x6 x7 x8 x9 x10 x11 x12 x13 x14 x15 : Value} {T : TypeId} (hb : w.heap[g]? = some (.cells #[x0, x1, x2, x3, x4, x5, x6, x7, x8, x9, x10, x11, x12, x13, x14, x15] T (0, 0)))
    (h : ∀ U, U.heap[g]? = some (.cells #[.int .i64 z0, .int .i64 z1, .int .i64 z2, .int .i64 z3, .bool z4, .int .i64 z5, .int .i64 z6, .int .i64 z7, .int .i64 z8, .int .i64 z9, .int .i64 z10, .int .i64 z11, .int .i64 z12, .slice a1 n1 k1, .int .i64 z14, .slice a2 n2 k2] T (0, 0)) → Only (fun k => k = g) w U → U.heap.size = w.heap.size → wpList Tryz.prog ops Q rest (a.put o.dst undef) U) : wpList Tryz.prog ops Q (o :: rest) a w := by
  obtain ⟨b0, b1, b2, b3, b4, b5, b6, b7, b8, b9, b10, b11, b12, b13, b14, b15, bz⟩ := cells16 hb
  have bz0 := bz 0
  have bz1 := bz 1
  have bz2 := bz 2
  have bz3 := bz 3
  have bz4 := bz 4
  have bz5 := bz 5
  have bz6 := bz 6
  have bz7 := bz 7
  have bz8 := bz 8
  have bz9 := bz 9
  have bz10 := bz 10
  have bz11 := bz 11
  have bz12 := bz 12
  have bz13 := bz 13
  have bz14 := bz 14
  have bz15 := bz 15
  have h1 : ((((((((((((((((w.setCell ⟨g, 0, none⟩ (.int .i64 z0)).setCell ⟨g, 1, none⟩ (.int .i64 z1)).setCell ⟨g, 2, none⟩ (.int .i64 z2)).setCell ⟨g, 3, none⟩ (.int .i64 z3)).setCell ⟨g, 4, none⟩ (.bool z4)).setCell ⟨g, 5, none⟩ (.int .i64 z5)).setCell ⟨g, 6, none⟩ (.int .i64 z6)).setCell ⟨g, 7, none⟩ (.int .i64 z7)).setCell ⟨g, 8, none⟩ (.int .i64 z8)).setCell ⟨g, 9, none⟩ (.int .i64 z9)).setCell ⟨g, 10, none⟩ (.int .i64 z10)).setCell ⟨g, 11, none⟩ (.int .i64 z11)).setCell ⟨g, 12, none⟩ (.int .i64 z12)).setCell ⟨g, 13, none⟩ (.slice a1 n1 k1)).setCell ⟨g, 14, none⟩ (.int .i64 z14)).setCell ⟨g, 15, none⟩ (.slice a2 n2 k2)).heap[g]? = some (.cells #[.int .i64 z0, .int .i64 z1, .int .i64 z2, .int .i64 z3, .bool z4, .int .i64 z5, .int .i64 z6, .int .i64 z7, .int .i64 z8, .int .i64 z9, .int .i64 z10, .int .i64 z11, .int .i64 z12, .slice a1 n1 k1, .int .i64 z14, .slice a2 n2 k2] T (0, 0)) := by simp [World.setCell, Array.getElem?_modify, hb]
  have h2 : Only (fun k => k = g) w ((((((((((((((((w.setCell ⟨g, 0, none⟩ (.int .i64 z0)).setCell ⟨g, 1, none⟩ (.int .i64 z1)).setCell ⟨g, 2, none⟩ (.int .i64 z2)).setCell ⟨g, 3, none⟩ (.int .i64 z3)).setCell ⟨g, 4, none⟩ (.bool z4)).setCell ⟨g, 5, none⟩ (.int .i64 z5)).setCell ⟨g, 6, none⟩ (.int .i64 z6)).setCell ⟨g, 7, none⟩ (.int .i64 z7)).setCell ⟨g, 8, none⟩ (.int .i64 z8)).setCell ⟨g, 9, none⟩ (.int .i64 z9)).setCell ⟨g, 10, none⟩ (.int .i64 z10)).setCell ⟨g, 11, none⟩ (.int .i64 z11)).setCell ⟨g, 12, none⟩ (.int .i64 z12)).setCell ⟨g, 13, none⟩ (.slice a1 n1 k1)).setCell ⟨g, 14, none⟩ (.int .i64 z14)).setCell ⟨g, 15, none⟩ (.slice a2 n2 k2)) := by
    iterate 16 refine Only.set (F := fun k => k = g) ?_ rfl _
    exact Only.refl _ _
  have h3 : ((((((((((((((((w.setCell ⟨g, 0, none⟩ (.int .i64 z0)).setCell ⟨g, 1, none⟩ (.int .i64 z1)).setCell ⟨g, 2, none⟩ (.int .i64 z2)).setCell ⟨g, 3, none⟩ (.int .i64 z3)).setCell ⟨g, 4, none⟩ (.bool z4)).setCell ⟨g, 5, none⟩ (.int .i64 z5)).setCell ⟨g, 6, none⟩ (.int .i64 z6)).setCell ⟨g, 7, none⟩ (.int .i64 z7)).setCell ⟨g, 8, none⟩ (.int .i64 z8)).setCell ⟨g, 9, none⟩ (.int .i64 z9)).setCell ⟨g, 10, none⟩ (.int .i64 z10)).setCell ⟨g, 11, none⟩ (.int .i64 z11)).setCell ⟨g, 12, none⟩ (.int .i64 z12)).setCell ⟨g, 13, none⟩ (.slice a1 n1 k1)).setCell ⟨g, 14, none⟩ (.int .i64 z14)).setCell ⟨g, 15, none⟩ (.slice a2 n2 k2)).heap.size = w.heap.size := by simp
  replace h := h _ h1 h2 h3
  refine wpList_plain hgd fun K hK => ?_
  clear h1 h2 h3
  unfold Oper.wp execOp
  simp only [ho, hx, hy]
  go_simp
  exact hK _ _ h
theorem wpList_store_dk6 {w : World} {ops : Array Oper} {rest : List Oper} {o : Oper} {a : Act} {Q : Exit → Act → World → Prop} (hgd : o.guard = none) (x y : Operand) (ho : o.op = .store 35 x y) (g : Nat) (hx : a.eval x = .pointer (some ⟨g, 6, none⟩)) (z6 z7 z8 z9 z10 z11 z12 z14 : Int) (a1 a2 : Option Addr) (n1 n2 k1 k2 : Nat) (hy : a.eval y = .agg #[.int .i64 z6, .int .i64 z7, .int .i64 z8, .int .i64 z9, .int .i64 z10, .int .i64 z11, .int .i64 z12, .slice a1 n1 k1, .int .i64 z14, .slice a2 n2 k2])
    {x0 x1 x2 x3 x4 x5 x6 x7 x8 x9 x10 x11 x12 x13 x14 x15 : Value} {T : TypeId} (hb : w.heap[g]? = some (.cells #[x0, x1, x2, x3, x4, x5, x6, x7, x8, x9, x10, x11, x12, x13, x14, x15] T (0, 0)))
    (h : ∀ U, U.heap[g]? = some (.cells #[x0, x1, x2, x3, x4, x5, .int .i64 z6, .int .i64 z7, .int .i64 z8, .int .i64 z9, .int .i64 z10, .int .i64 z11, .int .i64 z12, .slice a1 n1 k1, .int .i64 z14, .slice a2 n2 k2] T (0, 0)) → Only (fun k => k = g) w U → U.heap.size = w.heap.size → wpList Tryz.prog ops Q rest (a.put o.dst undef) U) : wpList Tryz.prog ops Q (o :: rest) a w := by
  obtain ⟨b0, b1, b2, b3, b4, b5, b6, b7, b8, b9, b10, b11, b12, b13, b14, b15, bz⟩ := cells16 hb
  have bz0 := bz 0
  have bz1 := bz 1
  have bz2 := bz 2
  have bz3 := bz 3
  have bz4 := bz 4
  have bz5 := bz 5
  have bz6 := bz 6
  have bz7 := bz 7
  have bz8 := bz 8
  have bz9 := bz 9
  have bz10 := bz 10
  have bz11 := bz 11
  have bz12 := bz 12
  have bz13 := bz 13
  have bz14 := bz 14
  have bz15 := bz 15
  have h1 : ((((((((((w.setCell ⟨g, 6, none⟩ (.int .i64 z6)).setCell ⟨g, 7, none⟩ (.int .i64 z7)).setCell ⟨g, 8, none⟩ (.int .i64 z8)).setCell ⟨g, 9, none⟩ (.int .i64 z9)).setCell ⟨g, 10, none⟩ (.int .i64 z10)).setCell ⟨g, 11, none⟩ (.int .i64 z11)).setCell ⟨g, 12, none⟩ (.int .i64 z12)).setCell ⟨g, 13, none⟩ (.slice a1 n1 k1)).setCell ⟨g, 14, none⟩ (.int .i64 z14)).setCell ⟨g, 15, none⟩ (.slice a2 n2 k2)).heap[g]? = some (.cells #[x0, x1, x2, x3, x4, x5, .int .i64 z6, .int .i64 z7, .int .i64 z8, .int .i64 z9, .int .i64 z10, .int .i64 z11, .int .i64 z12, .slice a1 n1 k1, .int .i64 z14, .slice a2 n2 k2] T (0, 0)) := by simp [World.setCell, Array.getElem?_modify, hb]
  have h2 : Only (fun k => k = g) w ((((((((((w.setCell ⟨g, 6, none⟩ (.int .i64 z6)).setCell ⟨g, 7, none⟩ (.int .i64 z7)).setCell ⟨g, 8, none⟩ (.int .i64 z8)).setCell ⟨g, 9, none⟩ (.int .i64 z9)).setCell ⟨g, 10, none⟩ (.int .i64 z10)).setCell ⟨g, 11, none⟩ (.int .i64 z11)).setCell ⟨g, 12, none⟩ (.int .i64 z12)).setCell ⟨g, 13, none⟩ (.slice a1 n1 k1)).setCell ⟨g, 14, none⟩ (.int .i64 z14)).setCell ⟨g, 15, none⟩ (.slice a2 n2 k2)) := by
    iterate 10 refine Only.set (F := fun k => k = g) ?_ rfl _
    exact Only.refl _ _
  have h3 : ((((((((((w.setCell ⟨g, 6, none⟩ (.int .i64 z6)).setCell ⟨g, 7, none⟩ (.int .i64 z7)).setCell ⟨g, 8, none⟩ (.int .i64 z8)).setCell ⟨g, 9, none⟩ (.int .i64 z9)).setCell ⟨g, 10, none⟩ (.int .i64 z10)).setCell ⟨g, 11, none⟩ (.int .i64 z11)).setCell ⟨g, 12, none⟩ (.int .i64 z12)).setCell ⟨g, 13, none⟩ (.slice a1 n1 k1)).setCell ⟨g, 14, none⟩ (.int .i64 z14)).setCell ⟨g, 15, none⟩ (.slice a2 n2 k2)).heap.size = w.heap.size := by simp
  replace h := h _ h1 h2 h3
  refine wpList_plain hgd fun K hK => ?_
  clear h1 h2 h3
  unfold Oper.wp execOp
  simp only [ho, hx, hy]
  go_simp
  exact hK _ _ h
theorem wpList_store_b3 {w : World} {ops : Array Oper} {rest : List Oper} {o : Oper} {a : Act} {Q : Exit → Act → World → Prop} (hgd : o.guard = none) (x y : Operand) (ho : o.op = .store 3 x y) (g : Nat) (hx : a.eval x = .pointer (some ⟨g, 3, none⟩)) (v : Int) (hy : a.eval y = .int .i64 v)
    {x0 x1 x2 x3 x4 x5 x6 x7 x8 x9 x10 x11 x12 x13 x14 x15 : Value} {T : TypeId} (hb : w.heap[g]? = some (.cells #[x0, x1, x2, x3, x4, x5, x6, x7, x8, x9, x10, x11, x12, x13, x14, x15] T (0, 0)))
    (h : ∀ U, U.heap[g]? = some (.cells #[x0, x1, x2, .int .i64 v, x4, x5, x6, x7, x8, x9, x10, x11, x12, x13, x14, x15] T (0, 0)) → Only (fun k => k = g) w U → U.heap.size = w.heap.size → wpList Tryz.prog ops Q rest (a.put o.dst undef) U) : wpList Tryz.prog ops Q (o :: rest) a w := by
  obtain ⟨b0, b1, b2, b3, b4, b5, b6, b7, b8, b9, b10, b11, b12, b13, b14, b15, bz⟩ := cells16 hb
  have bz3 := bz 3
  have h1 : (w.setCell ⟨g, 3, none⟩ (.int .i64 v)).heap[g]? = some (.cells #[x0, x1, x2, .int .i64 v, x4, x5, x6, x7, x8, x9, x10, x11, x12, x13, x14, x15] T (0, 0)) := by simp [World.setCell, Array.getElem?_modify, hb]
  replace h := h _ h1 ((Only.refl (fun k => k = g) w).set rfl _) (size_set _ _ _)
  refine wpList_plain hgd fun K hK => ?_
  clear h1
  unfold Oper.wp execOp
  simp only [ho, hx, hy]
  go_simp
  exact hK _ _ h
theorem wpList_store_b4 {w : World} {ops : Array Oper} {rest : List Oper} {o : Oper} {a : Act} {Q : Exit → Act → World → Prop} (hgd : o.guard = none) (x y : Operand) (ho : o.op = .store 4 x y) (g : Nat) (hx : a.eval x = .pointer (some ⟨g, 4, none⟩)) (v : Bool) (hy : a.eval y = .bool v)
    {x0 x1 x2 x3 x4 x5 x6 x7 x8 x9 x10 x11 x12 x13 x14 x15 : Value} {T : TypeId} (hb : w.heap[g]? = some (.cells #[x0, x1, x2, x3, x4, x5, x6, x7, x8, x9, x10, x11, x12, x13, x14, x15] T (0, 0)))
    (h : ∀ U, U.heap[g]? = some (.cells #[x0, x1, x2, x3, .bool v, x5, x6, x7, x8, x9, x10, x11, x12, x13, x14, x15] T (0, 0)) → Only (fun k => k = g) w U → U.heap.size = w.heap.size → wpList Tryz.prog ops Q rest (a.put o.dst undef) U) : wpList Tryz.prog ops Q (o :: rest) a w := by
  obtain ⟨b0, b1, b2, b3, b4, b5, b6, b7, b8, b9, b10, b11, b12, b13, b14, b15, bz⟩ := cells16 hb
  have bz4 := bz 4
  have h1 : (w.setCell ⟨g, 4, none⟩ (.bool v)).heap[g]? = some (.cells #[x0, x1, x2, x3, .bool v, x5, x6, x7, x8, x9, x10, x11, x12, x13, x14, x15] T (0, 0)) := by simp [World.setCell, Array.getElem?_modify, hb]
  replace h := h _ h1 ((Only.refl (fun k => k = g) w).set rfl _) (size_set _ _ _)
  refine wpList_plain hgd fun K hK => ?_
  clear h1
  unfold Oper.wp execOp
  simp only [ho, hx, hy]
  go_simp
  exact hK _ _ h
theorem wpList_store_b5 {w : World} {ops : Array Oper} {rest : List Oper} {o : Oper} {a : Act} {Q : Exit → Act → World → Prop} (hgd : o.guard = none) (x y : Operand) (ho : o.op = .store 3 x y) (g : Nat) (hx : a.eval x = .pointer (some ⟨g, 5, none⟩)) (v : Int) (hy : a.eval y = .int .i64 v)
    {x0 x1 x2 x3 x4 x5 x6 x7 x8 x9 x10 x11 x12 x13 x14 x15 : Value} {T : TypeId} (hb : w.heap[g]? = some (.cells #[x0, x1, x2, x3, x4, x5, x6, x7, x8, x9, x10, x11, x12, x13, x14, x15] T (0, 0)))
    (h : ∀ U, U.heap[g]? = some (.cells #[x0, x1, x2, x3, x4, .int .i64 v, x6, x7, x8, x9, x10, x11, x12, x13, x14, x15] T (0, 0)) → Only (fun k => k = g) w U → U.heap.size = w.heap.size → wpList Tryz.prog ops Q rest (a.put o.dst undef) U) : wpList Tryz.prog ops Q (o :: rest) a w := by
  obtain ⟨b0, b1, b2, b3, b4, b5, b6, b7, b8, b9, b10, b11, b12, b13, b14, b15, bz⟩ := cells16 hb
  have bz5 := bz 5
  have h1 : (w.setCell ⟨g, 5, none⟩ (.int .i64 v)).heap[g]? = some (.cells #[x0, x1, x2, x3, x4, .int .i64 v, x6, x7, x8, x9, x10, x11, x12, x13, x14, x15] T (0, 0)) := by simp [World.setCell, Array.getElem?_modify, hb]
  replace h := h _ h1 ((Only.refl (fun k => k = g) w).set rfl _) (size_set _ _ _)
  refine wpList_plain hgd fun K hK => ?_
  clear h1
  unfold Oper.wp execOp
  simp only [ho, hx, hy]
  go_simp
  exact hK _ _ h
/-- The rows of a reader stay where a body's own block is written. -/
theorem dk_only {w U : World} {g : Nat} {d : DK} {lp tp : Option Addr} {lc tc : Nat} (h : DkAt w d lp lc tp tc) (ho : Only (fun k => k = g) w U) (hp : ArgOut (fun k => k = g) lp d.line) (hf : ∀ a, tp = some a → d.tr ≠ [] → a.block ≠ g) : DkAt U d lp lc tp tc := by
  refine ⟨h.line.only ho hp, h.lcap, h.lnil, fun j f hj => ?_, h.tnil, h.g.next ho.size⟩
  obtain ⟨b, o, e, h1, h2⟩ := h.tr j f hj
  have hne : ¬ (b = g) := hf _ e (by rintro e9; rw [e9] at hj; simp at hj)
  exact ⟨b, o, e, cell_only ho hne h1, cell_only ho hne h2⟩
/-- A block that holds no byte and no text is none of a reader's rows. -/
theorem dk_apart {w : World} {g : Nat} {d : DK} {lp tp : Option Addr} {lc tc : Nat} (h : DkAt w d lp lc tp tc) (h1 : ∀ k n, w.cell? ⟨g, k, none⟩ ≠ some (.int .u8 n)) (h2 : ∀ k s, w.cell? ⟨g, k, none⟩ ≠ some (.string s)) : ArgOut (fun k => k = g) lp d.line ∧ ∀ a, tp = some a → d.tr ≠ [] → a.block ≠ g := by
  constructor
  · intro a e hl hg
    cases hd : d.line with
    | nil => exact hl hd
    | cons y r =>
      obtain ⟨b, o, e2, hc⟩ := h.line 0 y (by rw [hd]; rfl)
      have hg : a.block = g := hg
      rw [e] at e2
      obtain rfl := Option.some.inj e2
      dsimp only at hg
      subst hg
      exact h1 _ _ hc
  · intro a e ht hg
    cases hd : d.tr with
    | nil => exact ht hd
    | cons y r =>
      obtain ⟨b, o, e2, hc, _⟩ := h.tr 0 y (by rw [hd]; rfl)
      rw [e] at e2
      obtain rfl := Option.some.inj e2
      dsimp only at hg
      subst hg
      exact h2 _ _ hc
theorem dk_any {w U : World} {d : DK} {lp tp : Option Addr} {lc tc : Nat} (h : DkAt w d lp lc tp tc) (hn : d.line = [] ∧ d.tr = []) (hs : w.heap.size ≤ U.heap.size) : DkAt U d lp lc tp tc :=
  ⟨fun i y hi => by rw [hn.1] at hi; simp at hi, h.lcap, h.lnil, fun j f hj => by rw [hn.2] at hj; simp at hj, h.tnil, h.g.next hs⟩
theorem box_free {w : World} {g : Nat} {T : TypeId} {z0 z1 z2 z3 z5 z6 z7 z8 z9 z10 z11 z12 z14 : Int} {z4 : Bool} {a1 a2 : Option Addr} {n1 n2 k1 k2 : Nat} (hz : w.heap[g]? = some (.cells #[.int .i64 z0, .int .i64 z1, .int .i64 z2, .int .i64 z3, .bool z4, .int .i64 z5, .int .i64 z6, .int .i64 z7, .int .i64 z8, .int .i64 z9, .int .i64 z10, .int .i64 z11, .int .i64 z12, .slice a1 n1 k1, .int .i64 z14, .slice a2 n2 k2] T (0, 0))) : (∀ k n, w.cell? ⟨g, k, none⟩ ≠ some (.int .u8 n)) ∧ ∀ k s, w.cell? ⟨g, k, none⟩ ≠ some (.string s) := by
  constructor <;> intro k n e
  · simp only [World.cell?, hz] at e
    simp at e
    have h9 := List.mem_of_getElem? e
    simp at h9
  · simp only [World.cell?, hz] at e
    simp at e
    have h9 := List.mem_of_getElem? e
    simp at h9
end Go.Proofs.YtnlmjlfoeodleaaGreatDoor
/- The document's reader of bodies: a fresh one. -/
namespace Go.Proofs.YtnlmjlfoeodleaaGreatDoor
open Go.RowKit

theorem b_two (w : World) (o1 : Obj) (C : Array Value) : ((w.alloc o1).alloc (.cells C 37 (0, 0))).heap[w.heap.size]? = some o1 ∧ ((w.alloc o1).alloc (.cells C 37 (0, 0))).heap[w.heap.size + 1]? = some (.cells C 37 (0, 0)) ∧ Below w.heap.size w ((w.alloc o1).alloc (.cells C 37 (0, 0))) := ⟨one_new _ _ _, two_new _ _ _, below_twoD _ _ _⟩
end Go.Proofs.YtnlmjlfoeodleaaGreatDoor
/- The document's reader of bodies: Feed. -/
namespace Go.Proofs.YtnlmjlfoeodleaaGreatDoor
open Go.RowKit

/-- The box, the answer's box, the rows, what was told. -/
structure BFS (w wr : World) (C : Array Value) (d : DK) (lp : Option Addr) (lc : Nat) (tp : Option Addr) (tc : Nat) (v : Value) (X : B) : Prop where
  low : Below w.heap.size w wr
  b1 : wr.heap[w.heap.size]? = some (.cells C 37 (0, 0))
  b2 : wr.heap[w.heap.size + 1]? = some (.cells zzB 37 (0, 0))
  sz : w.heap.size + 2 ≤ wr.heap.size
  rows : DkAt wr d lp lc tp tc
  out : Own wr (w.heap.size + 2) v X
theorem BFS.start {w : World} (C : Array Value) {d : DK} {lp tp : Option Addr} {lc tc : Nat} (h : DkAt w d lp lc tp tc) : BFS w ((w.alloc (.cells C 37 (0, 0))).alloc (.cells zzB 37 (0, 0))) C d lp lc tp tc (.slice none 0 0) [] :=
  ⟨below_twoD _ _ _, one_new _ _ _, two_new _ _ _, by simp, h.next (below_twoD _ _ _), Own.nil _ _⟩
/-- What the document's Feed of a body answers. -/
def DFedB (K N m : Int) (s : BS) (d : DK) (l : B) (w : World) (e : Ending) (w' : World) : Prop :=
  ∃ lp ln lc tp tn tc q dd, e = .returned (.tuple #[.agg (bdV K N m (fedX s l) (fedDK s d l) (.slice lp ln lc) (.slice tp tn tc)), .int .i64 (tookX s l : Int), .slice q (saidX s l).length dd]) ∧ (fedDK s d l).line.length = ln ∧ (fedDK s d l).tr.length = tn ∧ DkAt w' (fedDK s d l) lp lc tp tc ∧ Own w' w.heap.size (.slice q (saidX s l).length dd) (saidX s l) ∧ Below w.heap.size w w'
/-- The answer's box is written last. -/
theorem bfs_out {w wr U : World} {C C2 : Array Value} {d : DK} {lp tp q : Option Addr} {lc tc n dd : Nat} {X : B} (h : BFS w wr C d lp lc tp tc (.slice q n dd) X) (ho : Only (fun k => k = w.heap.size + 1) wr U) (hf : (∀ k n, wr.cell? ⟨w.heap.size + 1, k, none⟩ ≠ some (.int .u8 n)) ∧ ∀ k s, wr.cell? ⟨w.heap.size + 1, k, none⟩ ≠ some (.string s)) (_hC : C = C2) : DkAt U d lp lc tp tc ∧ Own U w.heap.size (.slice q n dd) X ∧ Below w.heap.size w U := by
  obtain ⟨a1, a2⟩ := dk_apart h.rows hf.1 hf.2
  refine ⟨dk_only h.rows ho a1 a2, own_base (own_only h.out ho (fun k e hk => ?_)) (by omega), h.low.trans (ho.below (fun k hk => by have e : k = w.heap.size + 1 := hk; omega) h.low.size)⟩
  have e2 : k = w.heap.size + 1 := hk
  have := own_ge h.out e
  omega
theorem zz_free {w wr : World} {C : Array Value} {d : DK} {lp tp : Option Addr} {lc tc : Nat} {v : Value} {X : B} (h : BFS w wr C d lp lc tp tc v X) : (∀ k n, wr.cell? ⟨w.heap.size + 1, k, none⟩ ≠ some (.int .u8 n)) ∧ ∀ k s, wr.cell? ⟨w.heap.size + 1, k, none⟩ ≠ some (.string s) := box_free (show wr.heap[w.heap.size + 1]? = some (.cells #[.int .i64 0, .int .i64 0, .int .i64 0, .int .i64 0, .bool false, .int .i64 0, .int .i64 0, .int .i64 0, .int .i64 0, .int .i64 0, .int .i64 0, .int .i64 0, .int .i64 0, .slice none 0 0, .int .i64 0, .slice none 0 0] 37 (0, 0)) from h.b2)
theorem BFS.box {w wr U : World} {C C2 : Array Value} {d : DK} {lp tp : Option Addr} {lc tc : Nat} {v : Value} {X : B} (h : BFS w wr C d lp lc tp tc v X) (hU : U.heap[w.heap.size]? = some (.cells C2 37 (0, 0))) (ho : Only (fun k => k = w.heap.size) wr U) (hr : DkAt U d lp lc tp tc) : BFS w U C2 d lp lc tp tc v X := by
  refine ⟨h.low.trans (ho.below (fun k hk => by have e : k = w.heap.size := hk; omega) h.low.size), hU, (ho.block _ (lt_of_heap h.b2) (fun e => by have e2 : w.heap.size + 1 = w.heap.size := e; omega)).trans h.b2, Nat.le_trans h.sz ho.size, hr, own_only h.out ho (fun k e hk => ?_)⟩
  have e2 : k = w.heap.size := hk
  have := own_ge h.out e
  omega
theorem BFS.grow {w wr w9 : World} {C : Array Value} {d : DK} {lp tp q : Option Addr} {lc tc m dd : Nat} {v' : Value} {X : B} {y : UInt8} {o : Obj} (h : BFS w wr C d lp lc tp tc (.slice q m dd) X) (hnl : d.line = [] ∧ d.tr = []) (hm : X.length = m) (hgr : (wr.alloc o).grownBy w9 (Value.slice q m dd).ownBlock) (hown : w9.ownsRow (w.heap.size + 2) 5 1 v' (m + 1) (Lib.byteCells X ++ [.int .u8 (y.toNat : Int)])) : BFS w w9 C d lp lc tp tc v' (X ++ [y]) := by
  have hb : Below (w.heap.size + 2) (wr.alloc o) w9 := Own.below (h.out.keep (below_new wr o)) (Nat.le_trans h.sz (by simp)) hgr
  have hb0 : Below (w.heap.size + 2) wr w9 := ((below_new wr o).mono h.sz).trans hb
  refine ⟨h.low.trans (hb0.mono (by omega)), (hb0.block _ (by omega)).trans h.b1, (hb0.block _ (by omega)).trans h.b2, Nat.le_trans h.sz hb0.size, dk_any h.rows hnl hb0.size, ?_⟩
  unfold Own
  rw [List.length_append, hm, cells_app]
  exact hown
theorem BFS.next {w wr wr' : World} {C : Array Value} {d : DK} {lp tp : Option Addr} {lc tc : Nat} {v : Value} {X : B} (h : BFS w wr C d lp lc tp tc v X) (hb : Below wr.heap.size wr wr') : BFS w wr' C d lp lc tp tc v X := ⟨below_out h.low hb, blk_nextD h.b1 hb, blk_nextD h.b2 hb, Nat.le_trans h.sz hb.size, h.rows.next hb, h.out.keep hb⟩
theorem dbf_fin {K N m : Int} {s : BS} {d : DK} {l : B} {w U : World} {lp tp q : Option Addr} {ln lc tn tc dd M : Nat} {Tv : Int} {C : Array Value} {X : B} (r1 : DkAt U d lp lc tp tc) (r2 : Own U w.heap.size (.slice q M dd) X) (r3 : Below w.heap.size w U) (hl : d.line.length = ln) (ht : d.tr.length = tn) (hdk : fedDK s d l = d) (hC : bdV K N m (fedX s l) d (.slice lp ln lc) (.slice tp tn tc) = C) (hT : (tookX s l : Int) = Tv) (hS : saidX s l = X) : DFedB K N m s d l w (.returned (.tuple #[.agg C, .int .i64 Tv, .slice q M dd])) U := by
  unfold DFedB
  have hm := slice_part r2
  rw [hdk]
  refine ⟨lp, ln, lc, tp, tn, tc, q, dd, ?_, hl, ht, r1, ?_, r3⟩
  · rw [hC, hT, hS, hm]
  · rw [hS, hm]; exact r2
end Go.Proofs.YtnlmjlfoeodleaaGreatDoor
