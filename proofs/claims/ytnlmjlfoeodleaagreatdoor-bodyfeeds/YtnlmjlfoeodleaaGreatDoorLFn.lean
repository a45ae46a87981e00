/- The law of feeding bodies: what is carried along. -/
import Derived.Test.YtnlmjlfoeodleaaGreatDoorDBNew
import Derived.Test.YtnlmjlfoeodleaaGreatDoorDBFeedX
import Derived.Test.YtnlmjlfoeodleaaGreatDoorDBEnd
import Derived.Test.YtnlmjlfoeodleaaGreatDoorBOpen
import Derived.Deep.Strs
import Derived.OpenShut
namespace Go.Proofs.YtnlmjlfoeodleaaGreatDoor
open Go.RowKit

theorem endz_as {F : Nat → Prop} {w : World} {g : Nat} {s : BS} {cp : Option Addr} {E : Value} (h : BdAt F w g s cp) (hE : errOf (shutX s).err = E) : Calls Tryz.prog 14 #[.pointer (some ⟨g, 0, none⟩)] w fun e w' => e = .returned E ∧ TurnX F w w' g (shutX s) (fun k => F k ∧ k < w.heap.size) cp := by
  refine (end_any h).mono ?_
  rintro e w' ⟨rfl, ht⟩
  exact ⟨by rw [hE], ht⟩
theorem trz_as {F : Nat → Prop} {w : World} {g tn : Nat} {s : BS} {cp : Option Addr} (h : BdAt F w g s cp) (hi : InvX s) (hn : (trX s).length = tn) : Calls Tryz.prog 17 #[.pointer (some ⟨g, 0, none⟩)] w fun e w' => ∃ q d, e = .returned (.slice q tn d) ∧ OwnF w' w.heap.size (.slice q tn d) (trX s) ∧ Below w.heap.size w w' := by
  have h9 := trailersx_any h hi
  rw [hn] at h9
  exact h9
theorem trz_len {s : BS} (hi : InvX s) : (trX s).length ≤ 64 := by
  unfold trX
  split
  · rename_i h; exact (hi.ck h.2).1.tr
  · simp
theorem newz_as {K N m : Int} (h9 : m ≤ 9223372036854775807) (h0 : newE K N m = 0) {S : BS} (hS : newX K N m = S) {w : World} (hE : EnvP w) : Calls Tryz.prog 6 #[.agg #[.int .i64 K, .int .i64 N], .int .i64 m] w fun e w' => ∃ g cp, e = .returned (.tuple #[.pointer (some ⟨g, 0, none⟩), .nilIface]) ∧ BdAt (fun k => w.heap.size ≤ k ∧ k < w'.heap.size) w' g S cp ∧ Below w.heap.size w w' := by
  refine (new_any K N m h9 w hE).mono ?_
  subst hS
  rintro e w' (⟨h1, _⟩ | ⟨_, h⟩)
  · exact absurd h0 h1
  · exact h
theorem newz_bad {K N m : Int} (h9 : m ≤ 9223372036854775807) (h0 : newE K N m ≠ 0) {w : World} (hE : EnvP w) : Calls Tryz.prog 6 #[.agg #[.int .i64 K, .int .i64 N], .int .i64 m] w fun e w' => e = .returned (.tuple #[.pointer none, .iface 72 (.int .i64 (newE K N m : Int))]) ∧ Below w.heap.size w w' := by
  refine (new_any K N m h9 w hE).mono ?_
  rintro e w' (⟨_, rfl, hb⟩ | ⟨h1, _⟩)
  · rw [errOf_pos h0]; exact ⟨rfl, hb⟩
  · exact absurd h1 h0
/-- No step turns what a reader's rows keep away from. -/
theorem ite_gh {c : Prop} [Decidable c] {a b : DK} {F : Nat → Prop} (ha : a.gh = F) (hb : b.gh = F) : (if c then a else b).gh = F := by
  by_cases h : c
  · rw [if_pos h]; exact ha
  · rw [if_neg h]; exact hb
theorem trailD_gh (d : DK) (c : UInt8) : (trailD d c).gh = d.gh := by
  unfold trailD
  repeat' (first | exact rfl | apply ite_gh)
theorem stepD_gh (d : DK) (c : UInt8) : (stepD d c).gh = d.gh := by
  unfold stepD
  repeat' (first | exact rfl | exact trailD_gh d c | exact sizeD_gh d c | apply ite_gh)
theorem feedD_gh : ∀ (l : B) (d : DK), (feedD d l).1.gh = d.gh
  | [], _ => rfl
  | c :: l, d => by
    unfold feedD
    split
    · rfl
    · exact (feedD_gh l (stepD d c)).trans (stepD_gh d c)
theorem fedDK_gh (s : BS) (d : DK) (l : B) : (fedDK s d l).gh = d.gh := by
  unfold fedDK
  split
  · exact feedD_gh l d
  · rfl
theorem relB_gh {K N m : Int} {s : BS} {d : DK} (h : RelB K N m s d) (G : Nat → Prop) : RelB K N m s { d with gh := G } :=
  ⟨h.k, h.k1, h.k3, fun e => have r := h.rel e; ⟨r.most, r.len, r.tr, r.bad, r.ok⟩, h.part, h.e11, fun e => ⟨fun e2 => have o := (h.ok e).1 e2; ⟨o.st, o.most, o.len, o.size, o.d1, o.m0, o.m1, o.s3, o.b6, o.b7, o.line, o.tr, o.trl, o.has⟩, (h.ok e).2⟩, h.nl⟩
/-- Rows lie in blocks that are there. -/
theorem arg_block {w : World} {p : Option Addr} {l : B} (h : ArgAt w p l) (hl : l ≠ []) {a : Addr} (e : p = some a) : a.block < w.heap.size := by
  cases l with
  | nil => exact absurd rfl hl
  | cons y r =>
    obtain ⟨b, o, e2, hc⟩ := h 0 y rfl
    rw [e] at e2
    obtain rfl := Option.some.inj e2
    exact lt_of_cell hc
theorem fat_block {w : World} {p : Option Addr} {l : List (B × B)} (h : FAt w p l) (hl : l ≠ []) {a : Addr} (e : p = some a) : a.block < w.heap.size := by
  cases l with
  | nil => exact absurd rfl hl
  | cons y r =>
    obtain ⟨b, o, e2, hc, _⟩ := h 0 y rfl
    rw [e] at e2
    obtain rfl := Option.some.inj e2
    exact lt_of_cell hc
/-- The rows stay where the other reader turns. -/
theorem dk_turn {F G : Nat → Prop} {W W' : World} {d : DK} {lp tp : Option Addr} {lc tc g : Nat} {s' : BS} {cp : Option Addr} (h : DkAt W d lp lc tp tc) (hF : d.gh = F) (t : TurnX F W W' g s' G cp) : DkAt W' { d with gh := G } lp lc tp tc := by
  subst hF
  refine ⟨h.line.only t.only h.g.lo, h.lcap, h.lnil, fun j f hj => ?_, h.tnil, ⟨fun a e hl hg => ?_, fun a e hl hg => ?_, t.lt⟩⟩
  · obtain ⟨b, o, e, h1, h2⟩ := h.tr j f hj
    have hne : ¬ d.gh b := h.g.to _ e (by rintro e9; dsimp only at hj; rw [e9] at hj; simp at hj)
    exact ⟨b, o, e, cell_only t.only hne h1, cell_only t.only hne h2⟩
  · rcases t.sub _ hg with h5 | h5
    · exact h.g.lo a e hl h5
    · have := arg_block h.line hl e; omega
  · rcases t.sub _ hg with h5 | h5
    · exact h.g.to a e hl h5
    · have := fat_block h.tr hl e; omega
/-- The program's reader, the document's in its box, what was handed in. -/
structure LFS (w W : World) (X : Array Value) (K N m : Int) (s1 s2 : BS) (d : DK) (lp : Option Addr) (ln lc : Nat) (tp : Option Addr) (tn tc : Nat) (g gB : Nat) (cp : Option Addr) : Prop where
  low : Below w.heap.size w W
  bx : W.heap[w.heap.size]? = some (.cells X 26 (0, 0))
  bb : W.heap[gB]? = some (.cells (bdV K N m s2 d (.slice lp ln lc) (.slice tp tn tc)) 37 (0, 0))
  r : BdAt d.gh W g s1 cp
  rows : DkAt W d lp lc tp tc
  g1 : ∀ k, d.gh k → w.heap.size < k ∧ k ≠ gB
  gb : w.heap.size < gB
  hl : d.line.length = ln
  ht : d.tr.length = tn
theorem LFS.next {w W W' : World} {X : Array Value} {K N m : Int} {s1 s2 : BS} {d : DK} {lp tp cp : Option Addr} {ln lc tn tc g gB : Nat} (h : LFS w W X K N m s1 s2 d lp ln lc tp tn tc g gB cp) (hb : Below W.heap.size W W') : LFS w W' X K N m s1 s2 d lp ln lc tp tn tc g gB cp :=
  ⟨below_out h.low hb, blk_nextD h.bx hb, blk_nextD h.bb hb, h.r.next hb, h.rows.next hb, h.g1, h.gb, h.hl, h.ht⟩
theorem LFS.turn {w W W' : World} {X : Array Value} {K N m : Int} {s1 s1' s2 : BS} {d : DK} {lp tp cp cp' : Option Addr} {ln lc tn tc g gB : Nat} {G : Nat → Prop} (h : LFS w W X K N m s1 s2 d lp ln lc tp tn tc g gB cp) (t : TurnX d.gh W W' g s1' G cp') : LFS w W' X K N m s1' s2 { d with gh := G } lp ln lc tp tn tc g gB cp' := by
  refine ⟨Two.low1 h.low t.only (fun k hk => Nat.le_of_lt (h.g1 k hk).1), (t.only.block _ (lt_of_heap h.bx) (fun hk => by have := (h.g1 _ hk).1; omega)).trans h.bx, (t.only.block _ (lt_of_heap h.bb) (fun hk => (h.g1 _ hk).2 rfl)).trans h.bb, t.bd, dk_turn h.rows rfl t, fun k hk => ?_, h.gb, h.hl, h.ht⟩
  rcases t.sub k hk with h5 | h5
  · exact h.g1 k h5
  · have h6 := lt_of_heap h.bx
    have h7 := lt_of_heap h.bb
    exact ⟨by omega, by omega⟩
/-- The document's answer is laid into its box. -/
theorem LFS.put {w W U : World} {X : Array Value} {K N m : Int} {s1 s2 s2' : BS} {d d' : DK} {lp tp cp lp' tp' : Option Addr} {ln lc tn tc g gB ln' lc' tn' tc' : Nat} (h : LFS w W X K N m s1 s2 d lp ln lc tp tn tc g gB cp) (hr : DkAt W d' lp' lc' tp' tc') (hg : d'.gh = d.gh) (hl : d'.line.length = ln') (ht : d'.tr.length = tn') (hb : U.heap[gB]? = some (.cells (bdV K N m s2' d' (.slice lp' ln' lc') (.slice tp' tn' tc')) 37 (0, 0))) (ho : Only (fun k => k = gB) W U) : LFS w U X K N m s1 s2' d' lp' ln' lc' tp' tn' tc' g gB cp := by
  have hf := box_free (show W.heap[gB]? = some (.cells #[.int .i64 K, .int .i64 N, .int .i64 m, .int .i64 (s2.told : Int), .bool s2.done, .int .i64 (s2.err : Int), .int .i64 (d.most : Int), .int .i64 (d.len : Int), .int .i64 (d.st : Int), .int .i64 (d.e : Int), .int .i64 (d.digits : Int), .int .i64 (d.size : Int), .int .i64 (d.more : Int), .slice lp ln lc, .int .i64 (d.bytes : Int), .slice tp tn tc] 37 (0, 0)) from h.bb)
  obtain ⟨a1, a2⟩ := dk_apart hr hf.1 hf.2
  have hgb := h.gb
  refine ⟨Two.low1 h.low ho (fun k hk => by have e : k = gB := hk; omega), (ho.block _ (lt_of_heap h.bx) (fun e => by have e2 : w.heap.size = gB := e; omega)).trans h.bx, hb, ?_, dk_only hr ho a1 a2, fun k hk => h.g1 k (by rw [← hg]; exact hk), h.gb, hl, ht⟩
  rw [hg]
  exact h.r.keep ho (fun k hk e => (h.g1 k hk).2 e)
/-- What is told grows no faster than what is fed. -/
theorem told_fed {s : BS} (h2 : s.kind ≠ 2) (l : B) : (fedX s l).told ≤ s.told + l.length := by
  cases hn : overX s with
  | true => rw [(over_yes hn l).1]; omega
  | false =>
    by_cases h1 : s.kind = 1
    · rw [(fed_1 hn h1 l).1]; dsimp only; omega
    · rw [(fed_3 hn h2 h1 l).1]; dsimp only; omega
theorem fed_kind (s : BS) (l : B) : (fedX s l).kind = s.kind := by
  unfold fedX
  (repeat' split) <;> rfl
theorem shut_kind (s : BS) : (shutX s).kind = s.kind := by
  unfold shutX
  (repeat' split) <;> rfl
/-- All pieces ahead are fed: a body with no bound has room for one more. -/
theorem room_fed {K N m : Int} {s : BS} {d : DK} {i n : Nat} (hR : RelB K N m s d) (ht : s.kind = 3 → s.told ≤ i * 140737488355328) (hi : i < 60) (hn : n ≤ 140737488355328) : m = -1 → s.kind = 3 → n ≤ s.room := by
  intro e h3
  have h5 := ht h3
  rcases hR.k3 h3 with ⟨_, h6⟩ | h6
  · have : i * 140737488355328 ≤ 60 * 140737488355328 := Nat.mul_le_mul_right _ (by omega)
    omega
  · omega
/-- Pieces that were handed in. -/
def PcsX (w : World) (p : Option Addr) (ls : List B) : Prop := ∀ j l, ls[j]? = some l → ∃ g o q cc, p = some ⟨g, o, none⟩ ∧ w.cell? ⟨g, o + j, none⟩ = some (.slice q l.length cc) ∧ SlOk q l.length cc l ∧ ArgAt w q l ∧ l.length ≤ 140737488351232
theorem PcsX.next {w w' : World} {p : Option Addr} {ls : List B} (h : PcsX w p ls) (hb : Below w.heap.size w w') : PcsX w' p ls := by
  intro j l hj
  obtain ⟨g, o, q, cc, e, h1, h2, h3, h4⟩ := h j l hj
  exact ⟨g, o, q, cc, e, cell_keep hb h1, h2, h3.next hb, h4⟩
end Go.Proofs.YtnlmjlfoeodleaaGreatDoor
/- BodyFeeds where there is no reader: both say so. -/
namespace Go.Proofs.YtnlmjlfoeodleaaGreatDoor
open Go.RowKit

theorem five5 {W : World} {g : Nat} {a0 a1 a2 a3 a4 : Value} {T : TypeId} {fr : Nat × Nat} (h : W.heap[g]? = some (.cells #[a0, a1, a2, a3, a4] T fr)) : W.cell? ⟨g, 0, none⟩ = some a0 ∧ W.cell? ⟨g, 1, none⟩ = some a1 ∧ W.cell? ⟨g, 2, none⟩ = some a2 ∧ W.cell? ⟨g, 3, none⟩ = some a3 ∧ W.cell? ⟨g, 4, none⟩ = some a4 := by
  refine ⟨?_, ?_, ?_, ?_, ?_⟩ <;> simp [World.cell?, h]
set_option maxRecDepth 20000 in
set_option maxHeartbeats 8000000 in
theorem bfeeds_n (K N m : Int) (h9 : m ≤ 9223372036854775807) (p : Option Addr) (n c : Nat) (E : Bool) (w : World) (hE : EnvP w) (hEe : EnvE w) (h0 : newE K N m ≠ 0) :
    Calls Tryz.prog 3 #[.agg #[.int .i64 K, .int .i64 N, .int .i64 m, .slice p n c, .bool E]] w fun e w' => e = .returned (.bool true) ∧ Below w.heap.size w w' := by
  have HB0 := hid (below_new w (.cells #[.int .i64 K, .int .i64 N, .int .i64 m, .slice p n c, .bool E] 26 (0, 0)))
  have HX0 := hid (heap_alloc_new w (.cells #[.int .i64 K, .int .i64 N, .int .i64 m, .slice p n c, .bool E] 26 (0, 0)))
  have HNp := hid (fun (W : World) (hb : Below w.heap.size w W) => newz_bad (K := K) (N := N) (m := m) h9 h0 (hE.next hb))
  have HNd := hid (show ∀ W : World, Calls Tryz.prog 7 #[.agg #[.int .i64 K, .int .i64 N], .int .i64 m] W fun e w' => e = .returned (.tuple #[.agg zzB, .int .i64 (newE K N m : Int)]) ∧ Below W.heap.size W w' from fun W => (dnew_any K N m h9 W).mono (by
    rintro e w' (⟨_, rfl, hb2⟩ | ⟨h1, _⟩)
    · exact ⟨rfl, hb2⟩
    · exact absurd h1 h0))
  unfold zzB at HNd
  obtain ⟨k, hk⟩ : ∃ k : Int, (newE K N m : Int) = k := ⟨_, rfl⟩
  have hk0 : (k != 0) = true := by simp; omega
  rw [hk] at HNp HNd
  have HNm := hid (fun (W : World) (hb : Below w.heap.size w W) => num_err k W (hEe.next hb))
  have HSu := hid (fun (W : World) (hb : Below w.heap.size w W) => sure_any W (hE.next hb))
  clear hE hEe h0 hk h9
  go_enter Tryz.func3, Tryz.ntmps3
  go_wp2_with (first | (go_at_call 6; (with_reducible refine (HNp.out _ HB0.out).mono ?_); rintro e w1 ⟨rfl, hb⟩; have HB1 := hid (below_out HB0.out hb); obtain ⟨b0, b1, b2, b3, b4⟩ := five5 (blk_nextD HX0.out hb); clear hb HNp) | (go_at_call 7; (with_reducible refine (HNd.out _).mono ?_); rintro e w2 ⟨rfl, hb⟩; have HB2 := hid (below_out (below_out HB1.out hb) (below_new w2 (.cells #[.int .i64 0, .int .i64 0, .int .i64 0, .int .i64 0, .bool false, .int .i64 0, .int .i64 0, .int .i64 0, .int .i64 0, .int .i64 0, .int .i64 0, .int .i64 0, .int .i64 0, .slice none 0 0, .int .i64 0, .slice none 0 0] 37 (0, 0)))); clear hb HNd b0 b1 b2 b3 b4) | (go_at_call 8; (with_reducible refine (HNm.out _ HB2.out).mono ?_); rintro e w3 ⟨rfl, hb⟩; have HB3 := hid (below_out HB2.out hb); clear hb HNm) | (go_at_call 9; (with_reducible refine (HSu.out _ HB3.out).mono ?_); rintro e w4 ⟨rfl, hb⟩; have HB4 := hid (below_out HB3.out hb); clear hb HSu))
  go_ret
  exact ⟨rfl, HB4.out⟩
end Go.Proofs.YtnlmjlfoeodleaaGreatDoor
/- What is fed: the struct that the law BodyFeeds is handed. -/
namespace Go.Proofs.YtnlmjlfoeodleaaGreatDoor
open Go.RowKit Go.ChangeShapes Go.WideShapes Go.Deep

theorem weights_memP {H : Type} {e : TypeId} {d : DataW H} : ∀ {l : List (DataW H)}, d ∈ l → ∀ x ∈ d.weights Tryz.prog e, x ∈ DataW.weightsAll Tryz.prog e l
  | [], hd, _, _ => by simp at hd
  | c :: r, hd, x, hx => by
    simp only [DataW.weightsAll, List.mem_append]
    rcases List.mem_cons.1 hd with rfl | hd
    · exact .inl hx
    · exact .inr (weights_memP hd x hx)
theorem bytesSl : Tryz.prog.bytesOf 32 = 24 := by kernel_rfl
theorem cellsSl : Tryz.prog.cellsOf 32 = 1 := by kernel_rfl
theorem open_piece {H : Type} {enc : TypeId × Value → H} {W : World} {fuel : Nat} {v : Value} {y : DataW H × List MemPlace} (h : DataW.trod enc Tryz.prog W 0 (fun _ => true) true fuel 32 [v] = some y) (hw : ∀ x ∈ y.1.weights Tryz.prog 32, x ≤ reachBytes) :
    ∃ (l : B) (q : Option Addr) (cc : Nat), v = .slice q l.length cc ∧ (SlOk q l.length cc l ∧ ArgAt W q l) ∧ l.length ≤ 140737488351232 := by
  obtain ⟨l, q, cc, rfl, hs, ha, _⟩ := open_bytesX rfl fuel _ _ h
  exact ⟨l, q, cc, rfl, ⟨hs, ha⟩, open_len h hw⟩
set_option maxRecDepth 100000 in
theorem open_pieces {H : Type} {enc : TypeId × Value → H} {W : World} {fuel : Nat} {v : Value} {y : DataW H × List MemPlace} (h : DataW.trod enc Tryz.prog W 0 (fun _ => true) true fuel 24 [v] = some y) (hw : ∀ x ∈ y.1.weights Tryz.prog 24, x ≤ reachBytes) :
    ∃ (ls : List B) (p : Option Addr) (n c : Nat), v = .slice p n c ∧ ls.length = n ∧ PcsX W p ls ∧ n ≤ 140737488355328 := by
  rcases DataW.trod_slice Tryz.underlying24 h with ⟨e, rfl⟩ | ⟨a, len, cap, elems, rest, n2, rfl, e, rfl, h1, h2, h3, h4, h5, h6, h7⟩
  · simp only [List.cons.injEq, and_true] at e
    exact ⟨[], none, 0, 0, e, rfl, fun j l hj => by simp at hj, by omega⟩
  · simp only [List.cons.injEq, and_true] at e
    subst e
    have hone : ∀ k (hk : k < len), ∃ (l : B) (q : Option Addr) (cc : Nat), W.cell? (a.add k) = some (.slice q l.length cc) ∧ (SlOk q l.length cc l ∧ ArgAt W q l) ∧ l.length ≤ 140737488351232 := by
      intro k hk
      have h8 := h5 k hk
      rw [cellsSl, Nat.mul_one] at h8
      obtain ⟨y, hy⟩ : ∃ y, elems[k]? = some y := ⟨_, List.getElem?_eq_getElem (by omega)⟩
      rw [hy, Option.bind_eq_some_iff] at h8
      obtain ⟨cs, hc, ht⟩ := h8
      obtain ⟨_, hcl, hcell⟩ := World.cells?_some hc
      rcases cs with _ | ⟨x, _ | ⟨x1, r⟩⟩ <;> simp at hcl
      have hx := hcell 0 (by omega)
      have hadd0 : (a.add k).add 0 = a.add k := by unfold Addr.add; split <;> split <;> simp_all
      rw [hadd0] at hx
      have hwt : ∀ z ∈ y.1.weights Tryz.prog 32, z ≤ reachBytes := by
        intro z hz
        refine hw z ?_
        simp only [DataW.weights, Tryz.underlying24, List.mem_cons, List.mem_append]
        right; left
        exact weights_memP (List.mem_map.2 ⟨_, List.mem_of_getElem? hy, rfl⟩) z hz
      obtain ⟨l, q, cc, rfl, ha, hl⟩ := open_piece ht hwt
      exact ⟨l, q, cc, by simpa using hx, ha, hl⟩
    have hln : len ≤ 140737488355328 := by
      have hl := hw ((elems.length + rest.length) * Tryz.prog.bytesOf 32) (by
        simp only [DataW.weights, Tryz.underlying24, List.mem_cons, List.length_map]
        exact .inl trivial)
      rw [bytesSl] at hl
      have : (elems.length + rest.length) * 24 ≤ 140737488355328 := Nat.le_trans hl (by decide)
      omega
    obtain ⟨f, hf⟩ : ∃ f : Nat → B, ∀ k, k < len → ∃ (q : Option Addr) (cc : Nat), W.cell? (a.add k) = some (.slice q (f k).length cc) ∧ (SlOk q (f k).length cc (f k) ∧ ArgAt W q (f k)) ∧ (f k).length ≤ 140737488351232 := by
      refine Classical.axiomOfChoice (r := fun k l => k < len → ∃ (q : Option Addr) (cc : Nat), W.cell? (a.add k) = some (.slice q (List.length l) cc) ∧ (SlOk q (List.length l) cc l ∧ ArgAt W q l) ∧ List.length l ≤ 140737488351232) (fun k => ?_)
      by_cases hk : k < len
      · obtain ⟨l, q, cc, k1, k2, k3⟩ := hone k hk
        exact ⟨l, fun _ => ⟨q, cc, k1, k2, k3⟩⟩
      · exact ⟨[], fun h => absurd h hk⟩
    refine ⟨(List.range len).map f, some a, len, cap, rfl, by simp, fun j l hj => ?_, hln⟩
    have hjl : j < len := by have := (List.getElem?_eq_some_iff.1 hj).1; simpa using this
    have hl' : f j = l := by
      have := (List.getElem?_eq_some_iff.1 hj).2
      simpa using this
    obtain ⟨q, cc, k1, k2, k3⟩ := hf j hjl
    rw [hl'] at k1 k2 k3
    have hsp : a.spot = none := by
      obtain ⟨_, _, k0, _⟩ := hf 0 (by omega)
      exact World.cell?_spot k0
    obtain ⟨g, off, spot⟩ := a
    simp only at hsp
    subst hsp
    rw [add_plain] at k1
    exact ⟨g, off, q, cc, rfl, k1, k2.1, k2.2, k3⟩
set_option maxHeartbeats 2000000 in
theorem open_fed {H : Type} {enc : TypeId × Value → H} {W : World} (fuel : Nat) (cs : List Value) (x : DataW H × List MemPlace) (h : DataW.trod enc Tryz.prog W 0 (fun _ => true) true fuel 26 cs = some x) (hw : ∀ z ∈ x.1.weights Tryz.prog 26, z ≤ reachBytes) :
    ∃ (K N m : Int) (ls : List B) (p : Option Addr) (n c : Nat) (E : Bool), cs = [.int .i64 K, .int .i64 N, .int .i64 m, .slice p n c, .bool E] ∧ m ≤ 9223372036854775807 ∧ ls.length = n ∧ PcsX W p ls ∧ n ≤ 140737488355328 := by
  obtain ⟨xs, n, rfl, rfl, hl, hx, hf⟩ := DataW.trod_struct Tryz.underlying26 h
  have c5 : Tryz.prog.cellsOf 26 = 5 := by kernel_rfl
  have cF : Tryz.prog.cellsOf 23 = 2 := by kernel_rfl
  have cI : Tryz.prog.cellsOf 3 = 1 := by kernel_rfl
  have cP : Tryz.prog.cellsOf 24 = 1 := by kernel_rfl
  have cB : Tryz.prog.cellsOf 4 = 1 := by kernel_rfl
  rw [c5] at hl
  have hx4 : xs.length = 4 := by rw [hx]; rfl
  rcases cs with _ | ⟨d0, _ | ⟨d1, _ | ⟨d2, _ | ⟨d3, _ | ⟨d4, _ | ⟨d5, r⟩⟩⟩⟩⟩⟩ <;> simp at hl
  rcases xs with _ | ⟨y0, _ | ⟨y1, _ | ⟨y2, _ | ⟨y3, _ | ⟨y4, r⟩⟩⟩⟩⟩ <;> simp at hx4
  have f0 : DataW.trod enc Tryz.prog W 0 (fun _ => true) true n 23 (([d0, d1, d2, d3, d4].drop 0).take (Tryz.prog.cellsOf 23)) = some y0 := hf 0 _ rfl
  have f1 : DataW.trod enc Tryz.prog W 0 (fun _ => true) true n 3 (([d0, d1, d2, d3, d4].drop 2).take (Tryz.prog.cellsOf 3)) = some y1 := hf 1 _ rfl
  have f2 : DataW.trod enc Tryz.prog W 0 (fun _ => true) true n 24 (([d0, d1, d2, d3, d4].drop 3).take (Tryz.prog.cellsOf 24)) = some y2 := hf 2 _ rfl
  have f3 : DataW.trod enc Tryz.prog W 0 (fun _ => true) true n 4 (([d0, d1, d2, d3, d4].drop 4).take (Tryz.prog.cellsOf 4)) = some y3 := hf 3 _ rfl
  rw [cF] at f0
  rw [cI] at f1
  rw [cP] at f2
  rw [cB] at f3
  replace f0 : DataW.trod enc Tryz.prog W 0 (fun _ => true) true n 23 [d0, d1] = some y0 := f0
  replace f1 : DataW.trod enc Tryz.prog W 0 (fun _ => true) true n 3 [d2] = some y1 := f1
  replace f2 : DataW.trod enc Tryz.prog W 0 (fun _ => true) true n 24 [d3] = some y2 := f2
  replace f3 : DataW.trod enc Tryz.prog W 0 (fun _ => true) true n 4 [d4] = some y3 := f3
  obtain ⟨K, N, e0, _⟩ := open_frame n _ _ f0
  obtain ⟨m, e1, _, hm⟩ := DataW.trod_int Tryz.underlying3 f1
  obtain ⟨E, e3, _⟩ := DataW.trod_bool Tryz.underlying4 f3
  have hw2 : ∀ z ∈ y2.1.weights Tryz.prog 24, z ≤ reachBytes := by
    intro z hz
    refine hw z ?_
    simp only [DataW.weights, Tryz.underlying26, DataW.weightsEach, List.map_cons, List.map_nil, List.mem_append]
    simp [hz]
  obtain ⟨ls, p, k, c, e2, hk, hP, hnn⟩ := open_pieces f2 hw2
  simp only [List.cons.injEq, and_true] at e0 e1 e2 e3
  obtain ⟨e00, e01⟩ := e0
  subst e00 e01 e1 e2 e3
  exact ⟨K, N, m, ls, p, k, c, E, rfl, (bounds_i64 hm).2, hk, hP, hnn⟩
end Go.Proofs.YtnlmjlfoeodleaaGreatDoor
