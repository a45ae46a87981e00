/- The calls of package ring that copy bytes: New, Peek, Write, Clone. -/
import Derived.Test.YtfiiiefhchbhlaaRing
import Derived.Deep.RegionHeld3
import Derived.OwnWalk
namespace Go.Proofs.Ytfiiiefhchbhlaa
open Go.RowKit

theorem hid {p : Prop} (h : p) : Hid p := h

/-- Block g holds the bytes A now, and nothing else has turned. -/
structure Copied (g : Nat) (A : List Int) (w w' : World) : Prop where
  row : w'.heap[g]? = some (.cells (A.map (Value.int .u8)).toArray 5 (0, 0))
  other : ∀ k, k ≠ g → w'.heap[k]? = w.heap[k]?
  os : w'.os = w.os
  tape : w'.tape = w.tape
  output : w'.output = w.output
  size : w'.heap.size = w.heap.size
theorem oneCell_bytes (cs : List Int) : ∀ v ∈ cs.map (Value.int .u8), v.oneCell' = true := by
  intro v hv
  obtain ⟨x, _, rfl⟩ := List.mem_map.1 hv
  rfl
/-- 'copy' of bytes, as a step of a region that draws its order. -/
theorem step_copy_bytes {ops : Array Oper} {o : Oper} {a : Act} {w : World} {K : Act → World → Prop} {Q : Exit → Act → World → Prop} {E : Prop} (hgd : o.guard = none) (d s : Operand)
    (ho : o.op = .call { callee := .builtin .copy, args := #[d, s], argTypes := #[28, 28] })
    (dp sp : Option Addr) (dLen dCap sLen sCap : Nat) (hd : a.eval d = .slice dp dLen dCap) (hs : a.eval s = .slice sp sLen sCap)
    (g off : Nat) (cur : List Int) (hg : w.heap[g]? = some (.cells (cur.map (Value.int .u8)).toArray 5 (0, 0))) (cs : List Int) (hn : cs.length = Nat.min sLen dLen)
    (hpos : 0 < cs.length → dp = some ⟨g, off, none⟩ ∧ ∃ b q, sp = some ⟨b, q, none⟩ ∧ ∀ j v, cs[j]? = some v → w.cell? ⟨b, q + j, none⟩ = some (.int .u8 v))
    (hfit : off + cs.length ≤ cur.length) (N : Nat) (hN : cs.length = N)
    (h : ∀ w', Copied g (splice cur off cs) w w' → K (a.put o.dst (.int .i64 N)) w') :
    if Region.wanted o (yielded ops a.tmps) = true then Oper.wp Try.prog o a w K Q else E := by
  subst hN
  have hw : Region.wanted o (yielded ops a.tmps) = true := by simp [Region.wanted, hgd]
  rw [if_pos hw]
  have hu : Try.prog.underlying 28 = some (.slice 5) := by kernel_rfl
  have hsz : (Try.prog.info? 5).map (·.size) = some 1 := by kernel_rfl
  by_cases h0 : cs.length = 0
  · obtain rfl : cs = [] := List.eq_nil_of_length_eq_zero h0
    have hrun := run_copy_none (P := Try.prog) w 28 28 o.type 5 dp sp dLen dCap sLen sCap hu hsz (by simpa using hn.symm)
    unfold Oper.wp
    simp [execOp, ho, resolve, invoke, builtin, hd, hs, hrun, Result.andThen]
    exact h w ⟨by rw [splice_nil]; exact hg, fun _ _ => rfl, rfl, rfl, rfl, rfl⟩
  · obtain ⟨rfl, b, q, rfl, hsrc⟩ := hpos (by omega)
    have hrun := run_copy_row (P := Try.prog) w 28 28 o.type 5 g off dLen dCap ⟨b, q, none⟩ sLen sCap (cur.map (Value.int .u8)).toArray 5 (cs.map (Value.int .u8)) hu hsz hg (by simpa using hn)
      (by
        intro j v hj
        simp only [List.getElem?_map, Option.map_eq_some_iff] at hj
        obtain ⟨x, hx, rfl⟩ := hj
        have hplain : (⟨b, q, none⟩ : Addr).add j = ⟨b, q + j, none⟩ := by unfold Addr.add; split <;> simp_all
        rw [hplain]
        exact hsrc j x hx) (by simpa using hfit) (oneCell_bytes cs)
    unfold Oper.wp
    simp [execOp, ho, resolve, invoke, builtin, hd, hs, hrun, Result.andThen]
    refine h _ ⟨?_, fun k hk => setRow_other w g k _ hk, rfl, rfl, rfl, by simp [World.setRow]⟩
    have := setRow_heap w g _ (splice (cur.map (Value.int .u8)) off (cs.map (Value.int .u8))).toArray 5 (0, 0) hg
    rw [splice_map] at this
    simpa [splice] using this

set_option maxHeartbeats 400000 in
theorem new_no (n : Int) (w : World) (hn : n < 1 ∨ 1048576 < n) :
    Calls Try.prog 6 #[.int .i64 n] w fun e w' => e = .returned (.tuple #[.pointer none, .iface 54 (.int .i64 1)]) ∧ w' = w := by
  rcases hn with hn | hn
  · go_enter Try.func6, Try.ntmps6
    go_wp2
    go_ret2
    exact ⟨rfl, rfl⟩
  · have hn' : ¬ n < 1 := by omega
    go_enter Try.func6, Try.ntmps6
    go_wp2
    go_ret2
    exact ⟨rfl, rfl⟩
theorem info5 : (Try.prog.info? 5).map (fun i => (i.zero, i.size, i.bytes)) = some (some (.int .u8 0), 1, 1) := by kernel_rfl
def zeroRow (n : Nat) : Array Value := ((List.replicate n (0 : Int)).map (Value.int .u8)).toArray
theorem make_bytes (n : Nat) (h : n ≤ 1048576) (w : World) : (Instr.makeSlice 28 (.int .i64 n) (.int .i64 n)).run Try.prog w = .ok (.slice (some ⟨w.heap.size, 0, none⟩) n n) (w.alloc (.cells (zeroRow n) 5)) := by
  obtain ⟨i, h2, h3, h4, h5⟩ := info_parts info5
  have := run_make (P := Try.prog) w 28 5 i (.int .u8 0) (by kernel_rfl) h2 h3 .i64 .i64 n n (by omega) (by omega) (by rw [h5]; omega) (by omega)
  rw [this]
  simp only [Int.toNat_natCast, h4, Nat.mul_one]
  congr 4
  apply Array.toList_inj.1
  apply List.ext_getElem
  · simp [madeCells, zeroRow]
  · intro j _ _
    simp [madeCells, zeroRow, Value.cells, Nat.mod_one]
/-- A ring that lies in new blocks. -/
structure Fresh (w w' : World) (r g S F C : Nat) (L : List Int) : Prop where
  below : Below w.heap.size w w'
  rlo : w.heap.size ≤ r
  glo : w.heap.size ≤ g
  ring : RingAt w' r g S F C L
theorem heap_new (w : World) (o : Obj) : (w.alloc o).heap[w.heap.size]? = some o := heap_alloc_new w o
theorem heap_old (w : World) (o : Obj) (k : Nat) (h : k < w.heap.size) : (w.alloc o).heap[k]? = w.heap[k]? := Below.heap_alloc w o k h
theorem fresh_new (w : World) (S : Nat) (h1 : 1 ≤ S) (h2 : S ≤ 1048576) : Fresh w ((w.alloc (.cells (zeroRow S) 5)).alloc (.cells #[.slice (some ⟨w.heap.size, 0, none⟩) S S, .int .i64 0, .int .i64 0] 56)) (w.heap.size + 1) w.heap.size S 0 0 (List.replicate S 0) := by
  refine ⟨((Below.refl _ _).alloc (Nat.le_refl _) _).alloc (by simp) _, by omega, Nat.le_refl _, ?_, ?_, by simp, by omega, by omega, h2, by omega⟩
  · have := heap_new (w.alloc (.cells (zeroRow S) 5)) (.cells #[.slice (some ⟨w.heap.size, 0, none⟩) S S, .int .i64 0, .int .i64 0] 56)
    simp only [World.size_alloc] at this
    exact this
  · rw [heap_old _ _ _ (by simp), heap_new]
    rfl
set_option maxHeartbeats 400000 in
theorem new_any (S : Nat) (w : World) (h1 : 1 ≤ S) (h2 : S ≤ 1048576) :
    Calls Try.prog 6 #[.int .i64 S] w fun e w' => ∃ r, e = .returned (.tuple #[.pointer (some ⟨r, 0, none⟩), .nilIface]) ∧ ∃ g, Fresh w w' r g S 0 0 (List.replicate S 0) := by
  have h1' : ¬ (S : Int) < 1 := by omega
  have h2' : ¬ (S : Int) > 1048576 := by omega
  have hmk := make_bytes S h2
  have hfr := fresh_new w S h1 h2
  go_enter Try.func6, Try.ntmps6
  go_wp2
  go_ret2
  exact ⟨w.heap.size + 1, rfl, w.heap.size, hfr⟩

/-- A slice of bytes. -/
def BytesAt (B : Nat) (w : World) (v : Value) (xs : List Int) : Prop :=
  (v = .slice none 0 0 ∧ xs = []) ∨ ∃ b, B ≤ b ∧ v = .slice (some ⟨b, 0, none⟩) xs.length xs.length ∧ w.heap[b]? = some (.cells (xs.map (Value.int .u8)).toArray 5 (0, 0))
theorem Copied.below {B g : Nat} {A : List Int} {w0 w w' : World} (h : Copied g A w w') (hb : Below B w0 w) (hB : B ≤ g) : Below B w0 w' :=
  hb.trans ⟨h.os, h.tape, h.output, by rw [h.size]; exact Nat.le_refl _, fun k hk => h.other k (by omega)⟩
theorem RingAt.away {w w' : World} {r g S F C z : Nat} {L A : List Int} (h : RingAt w r g S F C L) (hc : Copied z A w w') (hr : r ≠ z) (hg : g ≠ z) : RingAt w' r g S F C L :=
  h.of_heap (hc.other r hr) (hc.other g hg)
theorem RingAt.drew {w : World} {r g S F C : Nat} {L : List Int} (h : RingAt w r g S F C L) : RingAt w.drew r g S F C L := h.of_heap rfl rfl
theorem RingAt.src {w : World} {r g S F C : Nat} {L : List Int} (h : RingAt w r g S F C L) (q k : Nat) : ∀ j v, ((L.drop q).take k)[j]? = some v → w.cell? ⟨g, q + j, none⟩ = some (.int .u8 v) := by
  intro j v hj
  rw [List.getElem?_take] at hj
  split at hj
  · rw [List.getElem?_drop] at hj
    simp [World.cell?, h.room, hj]
  · simp at hj
set_option maxHeartbeats 1000000 in
theorem peek_any {w : World} {r g S F C : Nat} {L : List Int} (h : RingAt w r g S F C L) (n : Int) :
    Calls Try.prog 14 #[.pointer (some ⟨r, 0, none⟩), .int .i64 n] w fun e w' => ∃ v, e = .returned v ∧ BytesAt w.heap.size w' v ((view L F C).take (held n C)) ∧ Below w.heap.size w w' := by
  have hk := held_le n C
  have hS := h.most
  have hC := h.count
  have hF := h.first
  obtain ⟨k, HK⟩ : ∃ k, Hid (held n C = k) := ⟨_, rfl⟩
  rw [HK.out] at hk
  by_cases h0 : k = 0
  · subst h0
    go_enter Try.func14, Try.ntmps14
    go_wp2_with (go_at_call 30; refine (within_any h n).mono ?_; rintro e w' ⟨rfl, rfl⟩; rw [HK.out])
    go_ret
    exact ⟨_, rfl, .inl ⟨rfl, by rw [HK.out]; rfl⟩, Below.refl _ _⟩
  · have hne : ¬ (k : Int) = 0 := by omega
    have hmk := make_bytes k (by omega)
    have hw1 : RingAt (w.alloc (.cells (zeroRow k) 5)) r g S F C L := h.below ((Below.refl _ _).alloc (Nat.le_refl _) _)
    have hrow : (w.alloc (.cells (zeroRow k) 5)).heap[w.heap.size]? = some (.cells ((List.replicate k (0 : Int)).map (Value.int .u8)).toArray 5 (0, 0)) := heap_new w _
    have HB : Hid (Below w.heap.size w (w.alloc (.cells (zeroRow k) 5))) := (Below.refl _ _).alloc (Nat.le_refl _) _
    obtain ⟨X, HX⟩ : ∃ X, Hid (X = (L.drop F).take k) := ⟨_, rfl⟩
    obtain ⟨d, HD⟩ : ∃ d, Hid (X.length = d) := ⟨_, rfl⟩
    obtain ⟨Y, HY⟩ : ∃ Y, Hid (Y = L.take (k - d)) := ⟨_, rfl⟩
    have hdv : d = min k (S - F) := by rw [← HD.out, HX.out]; simp [h.len]
    have HDV := hid hdv
    have hdk : d ≤ k := by omega
    have HYl : Hid (Y.length = k - d) := by show _ = _; rw [HY.out]; simp [h.len]; omega
    have HXs : Hid (∀ j v, X[j]? = some v → (w.alloc (.cells (zeroRow k) 5)).cell? ⟨g, F + j, none⟩ = some (.int .u8 v)) := by show ∀ j v, _; rw [HX.out]; exact hw1.src F k
    have c0 := hw1.c0
    have c1 := hw1.c1
    have hF0 : (0 : Int) ≤ F := by omega
    have hF1 : (F : Int) ≤ S := by omega
    have hrz : r ≠ w.heap.size := Nat.ne_of_lt h.rlt
    have hgz : g ≠ w.heap.size := Nat.ne_of_lt h.glt
    have HRZ : Hid (r ≠ w.heap.size ∧ g ≠ w.heap.size) := ⟨hrz, hgz⟩
    have HR := hid hrow
    have H1 := hid hw1
    have HH := hid h
    clear hdv hrow hw1 hrz hgz
    go_enter Try.func14, Try.ntmps14
    go_wp2_with (go_at_call 30; refine (within_any HH.out n).mono ?_; rintro e w' ⟨rfl, rfl⟩; rw [HK.out])
    go_region_held3 (fun w2 => w2.cell? ⟨r, 0, none⟩ = some (.slice (some ⟨g, 0, none⟩) S S) ∧ w2.cell? ⟨r, 1, none⟩ = some (.int .i64 F)) (exact ⟨by assumption, by assumption⟩)
      ((refine step_copy_bytes rfl _ _ rfl _ _ _ _ _ _ rfl rfl w'.heap.size 0 (List.replicate k 0) HR.out X (by rw [HD.out, HDV.out]; exact Nat.min_comm _ _) (fun _ => ⟨rfl, g, F, if_neg (by omega), HXs.out⟩) (by rw [HD.out]; simp; omega) d HD.out ?_; intro w2 hc2; have h2 := H1.out.drew.away hc2 HRZ.out.1 HRZ.out.2; have c02 := h2.c0; have c12 := h2.c1))
    go_wp2
    have hdk0 : (0 : Int) ≤ d := by omega
    have hdk1 : (d : Int) ≤ k := by omega
    go_region_held3 (fun w3 => w3.cell? ⟨r, 0, none⟩ = some (.slice (some ⟨g, 0, none⟩) S S)) (assumption)
      ((refine step_copy_bytes rfl _ _ rfl _ _ _ _ _ _ rfl rfl w'.heap.size d (splice (List.replicate k 0) 0 X) hc2.row Y (by rw [HYl.out]; simp only [Nat.min_def]; split <;> omega) (fun hp => ⟨if_neg (by have := HYl.out; omega), g, 0, rfl, by rw [HY.out]; exact h2.src 0 _⟩) (by rw [HYl.out, length_splice _ _ _ (by rw [HD.out]; simp; omega)]; simp; omega) (k - d) HYl.out ?_; intro w3 hc3; have h3 := h2.drew.away hc3 HRZ.out.1 HRZ.out.2; have c03 := h3.c0))
    go_wp2
    all_goals
      go_ret
      refine ⟨_, rfl, ?_, ?_⟩
      · have hrow := hc3.row
        have hl := HH.out.len
        have e1 : splice (splice (List.replicate k 0) 0 X) d Y = X ++ Y := by rw [← HD.out]; exact splice_two _ _ _ (by rw [HD.out, HYl.out]; simp; omega)
        have e2 : X ++ Y = (view L F C).take k := by
          rw [HY.out, ← HD.out, HX.out]
          exact view_whole L F C k (by omega) (by omega) hk
        have e3 : ((view L F C).take k).length = k := by rw [List.length_take, view_length _ _ _ (by omega) (by omega)]; omega
        rw [e1, e2] at hrow
        rw [HK.out]
        refine .inr ⟨_, Nat.le_refl _, ?_, hrow⟩
        rw [e3]
        first
          | rfl
          | (rw [show k = d by assumption]; rfl)
      · exact hc3.below (hc2.below HB.out.drew (Nat.le_refl _)).drew (Nat.le_refl _)

/-- The ring at block r, whose room is block g, of size S, holds the bytes q. -/
def Holds (w : World) (r g S : Nat) (q : List Int) : Prop := ∃ F L, RingAt w r g S F q.length L ∧ view L F q.length = q
theorem Holds.of_ring {w : World} {r g S F C : Nat} {L : List Int} (h : RingAt w r g S F C L) : Holds w r g S (view L F C) := by
  have hl := view_length L F C (by rw [h.len]; exact h.first) (by rw [h.len]; exact h.count)
  exact ⟨F, L, by rw [hl]; exact h, by rw [hl]⟩
theorem Holds.of_heap {w w' : World} {r g S : Nat} {q : List Int} (h : Holds w r g S q) (hr : w'.heap[r]? = w.heap[r]?) (hg : w'.heap[g]? = w.heap[g]?) : Holds w' r g S q := by
  obtain ⟨F, L, h1, h2⟩ := h
  exact ⟨F, L, h1.of_heap hr hg, h2⟩
theorem Holds.rlt {w : World} {r g S : Nat} {q : List Int} (h : Holds w r g S q) : r < w.heap.size := by obtain ⟨F, L, h1, _⟩ := h; exact h1.rlt
theorem Holds.glt {w : World} {r g S : Nat} {q : List Int} (h : Holds w r g S q) : g < w.heap.size := by obtain ⟨F, L, h1, _⟩ := h; exact h1.glt
theorem Holds.le {w : World} {r g S : Nat} {q : List Int} (h : Holds w r g S q) : q.length ≤ S := by obtain ⟨F, L, h1, _⟩ := h; exact h1.count
theorem Holds.most {w : World} {r g S : Nat} {q : List Int} (h : Holds w r g S q) : S ≤ 1048576 := by obtain ⟨F, L, h1, _⟩ := h; exact h1.most
theorem Holds.below {w w' : World} {r g S : Nat} {q : List Int} (h : Holds w r g S q) (hb : Below w.heap.size w w') : Holds w' r g S q := h.of_heap (hb.block r h.rlt) (hb.block g h.glt)
theorem Holds.other {w w' : World} {r g S r2 g2 : Nat} {q : List Int} (h : Holds w r g S q) (ht : Turn r2 g2 w w') (h1 : r ≠ r2) (h2 : r ≠ g2) (h3 : g ≠ r2) (h4 : g ≠ g2) : Holds w' r g S q :=
  h.of_heap (ht.block r h.rlt h1 h2) (ht.block g h.glt h3 h4)
theorem BytesAt.of_heap {B : Nat} {w w' : World} {v : Value} {xs : List Int} (h : BytesAt B w v xs) (hb : ∀ k, B ≤ k → k < w.heap.size → w'.heap[k]? = w.heap[k]?) : BytesAt B w' v xs := by
  rcases h with h | ⟨b, h1, h2, h3⟩
  · exact .inl h
  · exact .inr ⟨b, h1, h2, (hb b h1 (lt_of_heap h3)).trans h3⟩
theorem BytesAt.turn {B r g : Nat} {w w' : World} {v : Value} {xs : List Int} (h : BytesAt B w v xs) (ht : Turn r g w w') (hr : r < B) (hg : g < B) : BytesAt B w' v xs :=
  h.of_heap fun k hk hz => ht.block k hz (by omega) (by omega)
theorem BytesAt.below {B : Nat} {w w' : World} {v : Value} {xs : List Int} (h : BytesAt B w v xs) (hb : Below w.heap.size w w') : BytesAt B w' v xs :=
  h.of_heap fun k _ hz => hb.block k hz

theorem hlen_any {w : World} {r g S : Nat} {q : List Int} (h : Holds w r g S q) :
    Calls Try.prog 19 #[.pointer (some ⟨r, 0, none⟩)] w fun e w' => e = .returned (.int .i64 q.length) ∧ w' = w := by
  obtain ⟨F, L, h1, h2⟩ := h
  exact len_any h1
theorem hsize_any {w : World} {r g S : Nat} {q : List Int} (h : Holds w r g S q) :
    Calls Try.prog 27 #[.pointer (some ⟨r, 0, none⟩)] w fun e w' => e = .returned (.int .i64 S) ∧ w' = w := by
  obtain ⟨F, L, h1, h2⟩ := h
  exact size_any h1
theorem hroom_any {w : World} {r g S : Nat} {q : List Int} (h : Holds w r g S q) :
    Calls Try.prog 21 #[.pointer (some ⟨r, 0, none⟩)] w fun e w' => e = .returned (.int .i64 ((S - q.length : Nat) : Int)) ∧ w' = w := by
  obtain ⟨F, L, h1, h2⟩ := h
  exact room_any h1
theorem hpeek_any {w : World} {r g S : Nat} {q : List Int} (h : Holds w r g S q) (n : Int) :
    Calls Try.prog 14 #[.pointer (some ⟨r, 0, none⟩), .int .i64 n] w fun e w' => ∃ v, e = .returned v ∧ BytesAt w.heap.size w' v (q.take (held n q.length)) ∧ Below w.heap.size w w' := by
  obtain ⟨F, L, h1, h2⟩ := h
  have := peek_any h1 n
  rw [h2] at this
  exact this
theorem hskip_any {w : World} {r g S : Nat} {q : List Int} (h : Holds w r g S q) (n : Int) :
    Calls Try.prog 15 #[.pointer (some ⟨r, 0, none⟩), .int .i64 n] w fun e w' => e = .returned (.int .i64 (held n q.length)) ∧ Turn r g w w' ∧ w'.heap.size = w.heap.size ∧ Holds w' r g S (q.drop (held n q.length)) := by
  obtain ⟨F, L, h1, h2⟩ := h
  refine (skip_any h1 n).mono ?_
  rintro e w' ⟨rfl, ht, hz, F', hr, hv⟩
  rw [h2] at hv
  exact ⟨rfl, ht, hz, by rw [← hv]; exact Holds.of_ring hr⟩
theorem hclear_any {w : World} {r g S : Nat} {q : List Int} (h : Holds w r g S q) :
    Calls Try.prog 25 #[.pointer (some ⟨r, 0, none⟩)] w fun e w' => e = .returned (.int .i64 q.length) ∧ Turn r g w w' ∧ w'.heap.size = w.heap.size ∧ Holds w' r g S [] := by
  obtain ⟨F, L, h1, h2⟩ := h
  refine (clear_any h1).mono ?_
  rintro e w' ⟨rfl, ht, hz, F', hr⟩
  refine ⟨rfl, ht, hz, ?_⟩
  have := Holds.of_ring hr
  rwa [view_zero] at this
theorem hnew_any (S : Nat) (w : World) (h1 : 1 ≤ S) (h2 : S ≤ 1048576) :
    Calls Try.prog 6 #[.int .i64 S] w fun e w' => ∃ r, e = .returned (.tuple #[.pointer (some ⟨r, 0, none⟩), .nilIface]) ∧ ∃ g, Below w.heap.size w w' ∧ w.heap.size ≤ r ∧ w.heap.size ≤ g ∧ Holds w' r g S [] := by
  refine (new_any S w h1 h2).mono ?_
  rintro e w' ⟨r, rfl, g, hf⟩
  refine ⟨r, rfl, g, hf.below, hf.rlo, hf.glo, ?_⟩
  have := Holds.of_ring hf.ring
  rwa [view_zero] at this
set_option maxHeartbeats 400000 in
theorem hread_any {w : World} {r g S : Nat} {q : List Int} (h : Holds w r g S q) (n : Int) :
    Calls Try.prog 18 #[.pointer (some ⟨r, 0, none⟩), .int .i64 n] w fun e w' => ∃ v, e = .returned v ∧ BytesAt w.heap.size w' v (q.take (held n q.length)) ∧ Turn r g w w' ∧ Holds w' r g S (q.drop (held n q.length)) := by
  obtain ⟨k, HK⟩ : ∃ k, Hid (held n q.length = k) := ⟨_, rfl⟩
  have HH := hid h
  go_enter Try.func18, Try.ntmps18
  go_wp2_with (first
    | (go_at_call 14; refine (hpeek_any HH.out n).mono ?_; rintro e w1 ⟨v, rfl, hv, hb⟩)
    | (go_at_call 15; refine (hskip_any (HH.out.below hb) n).mono ?_; rintro e w2 ⟨rfl, ht, hz, hr⟩))
  go_ret
  exact ⟨v, rfl, hv.turn ht h.rlt h.glt, (Turn.of_below hb).trans ht, hr⟩
end Go.Proofs.Ytfiiiefhchbhlaa
