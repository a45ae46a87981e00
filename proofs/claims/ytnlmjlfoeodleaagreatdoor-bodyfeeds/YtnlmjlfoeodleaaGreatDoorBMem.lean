/- Which framings may be: the program asks frame.Fields of no fields, the document Valid. -/
import Derived.Test.YtnlmjlfoeodleaaGreatDoorKCalls
import Derived.Test.YtnlmjlfoeodleaaGreatDoorShelf
import Derived.Lib.AppendIntMem
import Derived.Laws.AppendOwnNone
import Derived.Test.YtnlmjlfoeodleaaGreatDoorKSl
namespace Go.Proofs.YtnlmjlfoeodleaaGreatDoor
open Go.RowKit

def okFr (K N : Int) : Bool := decide (0 ≤ K ∧ K ≤ 3 ∧ 0 ≤ N ∧ N ≤ 1099511627776 ∧ (K = 1 ∨ N = 0))
structure Cells2 (w : World) (g : Nat) (c0 c1 : Value) : Prop where
  a0 : w.cell? ⟨g, 0, none⟩ = some c0
  a1 : w.cell? ⟨g, 1, none⟩ = some c1
  z0 : w.frozen? ⟨g, 0, none⟩ = false
  z1 : w.frozen? ⟨g, 1, none⟩ = false
theorem cells2 {w : World} {g : Nat} {c0 c1 : Value} {T : TypeId} (h : w.heap[g]? = some (.cells #[c0, c1] T (0, 0))) : Cells2 w g c0 c1 := by
  refine ⟨?_, ?_, by simp [World.frozen?, h], by simp [World.frozen?, h]⟩ <;> simp [World.cell?, h]
theorem app_belowL {w wr w1 : World} {o : Obj} {v : Value} {e : TypeId} {size k : Nat} {xs : List Value} (hbel : Below w.heap.size w wr) (hown : wr.ownsRow w.heap.size e size v k xs) (hg : (wr.alloc o).grownBy w1 v.ownBlock) : Below w.heap.size w w1 :=
  (hbel.alloc hbel.size o).grown hg (by have h1 := hbel.size; have h2 : wr.heap.size ≤ (wr.alloc o).heap.size := by simp
                                        omega) (fun k hk => (hown.lt k hk).1)
abbrev frmO (K N : Int) : Obj := .cells #[.int .i64 K, .int .i64 N] 23 (0, 0)
theorem blk_next {W W' : World} {g : Nat} {o : Obj} (h : W.heap[g]? = some o) (hb : Below W.heap.size W W') : W'.heap[g]? = some o := (hb.block _ (lt_of_heap h)).trans h
set_option maxRecDepth 20000 in
set_option maxHeartbeats 8000000 in
theorem mayf_any (K N : Int) (w : World) : Calls Tryz.prog 63 #[.agg #[.int .i64 K, .int .i64 N]] w fun e w' => e = .returned (.bool (okFr K N)) ∧ Below w.heap.size w w' := by
  obtain ⟨R, hR⟩ : ∃ R, okFr K N = R := ⟨_, rfl⟩
  have HR := hid hR
  rw [hR]
  clear hR
  by_cases k1 : K = 1
  · subst k1
    by_cases n0 : 0 ≤ N
    · have HT := hid (show R = decide (N ≤ 1099511627776) from by rw [← HR.out]; unfold okFr; exact decide_eq_decide.2 (by omega))
      go_enter Tryz.func63, Tryz.ntmps63
      go_wp2
      (try simp only [Exit.inBlock, Exit.then])
      go_ret
      exact ⟨(by rw [HT.out]; rfl), below_new _ _⟩
    · have HT := hid (show R = false from by rw [← HR.out]; unfold okFr; exact decide_eq_false (by omega))
      go_enter Tryz.func63, Tryz.ntmps63
      go_wp2
      (try simp only [Exit.inBlock, Exit.then])
      go_ret
      exact ⟨(by rw [HT.out]; rfl), below_new _ _⟩
  by_cases k0 : K = 0
  · subst k0
    have HT := hid (show R = (N == 0) from by rw [← HR.out]; unfold okFr; rw [Bool.eq_iff_iff]; simp; omega)
    go_enter Tryz.func63, Tryz.ntmps63
    go_wp2
    (try simp only [Exit.inBlock, Exit.then])
    go_ret
    exact ⟨(by rw [HT.out]; rfl), below_new _ _⟩
  by_cases k2 : K = 2
  · subst k2
    have HT := hid (show R = (N == 0) from by rw [← HR.out]; unfold okFr; rw [Bool.eq_iff_iff]; simp; omega)
    go_enter Tryz.func63, Tryz.ntmps63
    go_wp2
    (try simp only [Exit.inBlock, Exit.then])
    go_ret
    exact ⟨(by rw [HT.out]; rfl), below_new _ _⟩
  by_cases k3 : K = 3
  · subst k3
    have HT := hid (show R = (N == 0) from by rw [← HR.out]; unfold okFr; rw [Bool.eq_iff_iff]; simp; omega)
    go_enter Tryz.func63, Tryz.ntmps63
    go_wp2
    (try simp only [Exit.inBlock, Exit.then])
    go_ret
    exact ⟨(by rw [HT.out]; rfl), below_new _ _⟩
  have j1 : (K == 1) = false := by simpa using k1
  have j0 : (K == 0) = false := by simpa using k0
  have j2 : (K == 2) = false := by simpa using k2
  have j3 : (K == 3) = false := by simpa using k3
  have HT := hid (show R = false from by rw [← HR.out]; unfold okFr; exact decide_eq_false (by omega))
  go_enter Tryz.func63, Tryz.ntmps63
  go_wp2
  (try simp only [Exit.inBlock, Exit.then])
  go_ret
  exact ⟨(by rw [HT.out]; rfl), below_new _ _⟩
set_option maxRecDepth 20000 in
set_option maxHeartbeats 8000000 in
theorem valid_any (K N : Int) (w : World) : Calls Tryz.prog 29 #[.agg #[.int .i64 K, .int .i64 N]] w fun e w' => e = .returned (.bool (okFr K N)) ∧ Below w.heap.size w w' := by
  obtain ⟨R, hR⟩ : ∃ R, okFr K N = R := ⟨_, rfl⟩
  have HR := hid hR
  rw [hR]
  clear hR
  by_cases k0 : 0 ≤ K
  · by_cases k3 : K ≤ 3
    · by_cases n0 : 0 ≤ N
      · by_cases nM : N ≤ 1099511627776
        · have HNM := hid nM
          have hd : decide (N ≤ 1099511627776) = true := decide_eq_true nM
          by_cases k1 : K = 1
          · subst k1
            have HT := hid (show R = true from by rw [← HR.out]; unfold okFr; exact decide_eq_true (by omega))
            clear nM
            go_enter Tryz.func29, Tryz.ntmps29
            go_wp2
            go_ret
            exact ⟨(by rw [HT.out]; rfl), below_new _ _⟩
          · have j1 : (K == 1) = false := by simpa using k1
            have HT := hid (show R = (N == 0) from by rw [← HR.out]; unfold okFr; rw [Bool.eq_iff_iff]; simp; omega)
            clear nM
            go_enter Tryz.func29, Tryz.ntmps29
            go_wp2
            go_ret
            exact ⟨(by rw [HT.out]; rfl), below_new _ _⟩
        · have hd : decide (N ≤ 1099511627776) = false := decide_eq_false nM
          have HT := hid (show R = false from by rw [← HR.out]; unfold okFr; exact decide_eq_false (by omega))
          clear nM
          go_enter Tryz.func29, Tryz.ntmps29
          go_wp2
          go_ret
          exact ⟨(by rw [HT.out]; rfl), below_new _ _⟩
      · have HT := hid (show R = false from by rw [← HR.out]; unfold okFr; exact decide_eq_false (by omega))
        go_enter Tryz.func29, Tryz.ntmps29
        go_wp2
        go_ret
        exact ⟨(by rw [HT.out]; rfl), below_new _ _⟩
    · have HT := hid (show R = false from by rw [← HR.out]; unfold okFr; exact decide_eq_false (by omega))
      go_enter Tryz.func29, Tryz.ntmps29
      go_wp2
      go_ret
      exact ⟨(by rw [HT.out]; rfl), below_new _ _⟩
  · have HT := hid (show R = false from by rw [← HR.out]; unfold okFr; exact decide_eq_false (by omega))
    go_enter Tryz.func29, Tryz.ntmps29
    go_wp2
    go_ret
    exact ⟨(by rw [HT.out]; rfl), below_new _ _⟩
/-- What the walks ask of the library's table of powers of ten. -/
def EnvP (w : World) : Prop := Lib.TabIs Tryz.prog w "internal/strconv.uint64pow10" .u64 Lib.pow10Tab
theorem EnvP.next {w w' : World} (h : EnvP w) (hb : Below w.heap.size w w') : EnvP w' := Lib.tabBelow_of_tabIs h _ hb
set_option maxRecDepth 20000 in
set_option maxHeartbeats 8000000 in
theorem textv_any (k : Nat) (hk : k < 9223372036854775808) (w : World) (hE : EnvP w) : Calls Tryz.prog 43 #[.int .i64 (k : Int)] w fun e w' => ∃ V, e = .returned (.string V) ∧ Below w.heap.size w w' := by
  have HC := hid (Tryz.strconv_Itoa (k : Int) (by omega) (by omega) w hE)
  go_enter Tryz.func43, Tryz.ntmps43
  go_wp2_with (go_at_call 81; (with_reducible refine HC.out.mono ?_); rintro e w' ⟨rfl, k, os, rfl⟩)
  go_ret
  exact ⟨_, rfl, Lib.below_grow _ _ (Nat.le_refl _) _ _⟩
set_option maxRecDepth 20000 in
set_option maxHeartbeats 8000000 in
theorem unframed0 (w : World) : Calls Tryz.prog 64 #[.slice none 0 0] w fun e w' => e = .returned (.slice none 0 0) ∧ Below w.heap.size w w' := by
  go_enter Tryz.func64, Tryz.ntmps64
  go_wp2
  go_loopg [3, 8] 1 (fun gk s3 s8 wr => s3 = .slice none 0 0 ∧ s8 = .int .i64 0 ∧ gk = 1 ∧ Below w.heap.size w wr)
  case atStart => exact ⟨rfl, rfl, rfl, Below.refl _ _⟩
  case round =>
    obtain ⟨rfl, rfl, rfl, hb⟩ := hrel
    have HB := hid hb
    clear hb
    go_wp2
    go_ret
    exact ⟨rfl, HB.out⟩
set_option maxRecDepth 20000 in
set_option maxHeartbeats 8000000 in
theorem flds0 (K N : Int) (w : World) (hE : EnvP w) :
    Calls Tryz.prog 27 #[.slice none 0 0, .agg #[.int .i64 K, .int .i64 N]] w fun e w' => ∃ v, e = .returned (.tuple #[v, errOf (if okFr K N = true then 0 else 1)]) ∧ Below w.heap.size w w' := by
  obtain ⟨i0, hi0, hz0, hz1, hz2⟩ := info_parts infoF
  have HMa := hid (show ∀ W : World, _ from fun W => mayf_any K N W)
  have HU := hid (show ∀ W : World, _ from fun W => unframed0 W)
  have HEv := hid hE
  have HX0 := hid (heap_alloc_new w (frmO K N))
  have HB0 := hid (below_new w (frmO K N))
  clear hE
  cases hok : okFr K N with
  | false =>
    rw [if_neg (by decide), errOf_pos (by decide)]
    rw [hok] at HMa
    clear hok
    go_enter Tryz.func27, Tryz.ntmps27
    go_wp2_with (go_at_call 63; (with_reducible refine (HMa.out _).mono ?_); rintro e w1 ⟨rfl, hb⟩; have HB1 := hid (below_out HB0.out hb); clear hb HMa)
    go_ret2
    first | exact ⟨⟨_, rfl⟩, HB1.out⟩ | exact ⟨_, rfl, HB1.out⟩
  | true =>
    rw [if_pos rfl, errOf_zero]
    have HOk := hid (of_decide_eq_true hok)
    rw [hok] at HMa
    clear hok
    by_cases k1 : K = 1
    · subst k1
      have hN0 : (0 : Int) ≤ N := HOk.out.2.2.1
      have hNM : N ≤ 1099511627776 := HOk.out.2.2.2.1
      obtain ⟨t, ht⟩ : ∃ t : Nat, N = (t : Int) := ⟨N.toNat, by omega⟩
      have htk : t ≤ 9223372036854775807 := by omega
      have HTk := hid htk
      subst ht
      have HTx := hid (show ∀ W : World, Below w.heap.size w W → _ from fun W hb => textv_any t (Nat.lt_succ_of_le HTk.out) W (HEv.out.next hb))
      clear htk hN0 hNM
      go_enter Tryz.func27, Tryz.ntmps27
      go_wp2_with (first | (go_at_call 63; (with_reducible refine (HMa.out _).mono ?_); rintro e w1 ⟨rfl, hb⟩; have HB1 := hid (below_out HB0.out hb); have HX1 := hid (blk_next HX0.out hb); clear hb HMa) | (go_at_call 64; (with_reducible refine (HU.out _).mono ?_); rintro e w2 ⟨rfl, hb⟩; have HB2 := hid (below_out HB1.out hb); have HO2 := hid (OwnF.nil w2 w.heap.size); obtain ⟨y0, y1, _, _⟩ := cells2 (blk_next HX1.out hb); clear hb HU) | (go_at_call 43; (with_reducible refine (HTx.out _ HB2.out).mono ?_); rintro e w3 ⟨V, rfl, hb⟩; have HB3 := hid (below_out HB2.out hb); have HO3 := hid (HO2.out.keep hb); clear hb HTx) | (at_builtin; refine wpList_append_own_at _ rfl (.tmp 17) (.tmp 22) 33 rfl w.heap.size 88 i0 _ 2 32 Tryz.underlying33 hi0 hz0 hz1 hz2 rfl (by decide) (.slice none 0 0) 0 (fldC []) (by go_simp) (by have h9 := HO3.out.alloc (.cells #[.string ⟨#[67, 111, 110, 116, 101, 110, 116, 45, 76, 101, 110, 103, 116, 104]⟩, .string V] 88 (0, 0)); exact h9) ⟨w3.heap.size, 0, none⟩ 1 1 [.string ⟨#[67, 111, 110, 116, 101, 110, 116, 45, 76, 101, 110, 103, 116, 104]⟩, .string V] (by go_simp) rfl (cells_new w3 _ _) (by simp [Value.oneCell']) (by unfold maxLen; omega) (by omega) (Nat.le_trans HB3.out.size (below_new _ _).size) ?_; intro v' w9 hown' hgrow _ _; have HB9 := hid (app_belowL HB3.out HO3.out hgrow); obtain ⟨q', d', rfl⟩ := own_slice hown'; have HO9 := hid hown'; clear hown' hgrow))
      (try simp only [Exit.inBlock, Exit.then])
      go_ret2
      first | exact ⟨⟨_, rfl⟩, HB9.out⟩ | exact ⟨_, rfl, HB9.out⟩
    by_cases k2 : K = 2
    · subst k2
      go_enter Tryz.func27, Tryz.ntmps27
      go_wp2_with (first | (go_at_call 63; (with_reducible refine (HMa.out _).mono ?_); rintro e w1 ⟨rfl, hb⟩; have HB1 := hid (below_out HB0.out hb); have HX1 := hid (blk_next HX0.out hb); clear hb HMa) | (go_at_call 64; (with_reducible refine (HU.out _).mono ?_); rintro e w2 ⟨rfl, hb⟩; have HB2 := hid (below_out HB1.out hb); have HO2 := hid (OwnF.nil w2 w.heap.size); obtain ⟨y0, y1, _, _⟩ := cells2 (blk_next HX1.out hb); clear hb HU) | (at_builtin; refine wpList_append_own_at _ rfl (.tmp 26) (.tmp 28) 33 rfl w.heap.size 88 i0 _ 2 32 Tryz.underlying33 hi0 hz0 hz1 hz2 rfl (by decide) (.slice none 0 0) 0 (fldC []) (by go_simp) (by have h9 := HO2.out.alloc (.cells #[.string ⟨#[84, 114, 97, 110, 115, 102, 101, 114, 45, 69, 110, 99, 111, 100, 105, 110, 103]⟩, .string ⟨#[99, 104, 117, 110, 107, 101, 100]⟩] 88 (0, 0)); exact h9) ⟨w2.heap.size, 0, none⟩ 1 1 [.string ⟨#[84, 114, 97, 110, 115, 102, 101, 114, 45, 69, 110, 99, 111, 100, 105, 110, 103]⟩, .string ⟨#[99, 104, 117, 110, 107, 101, 100]⟩] (by go_simp) rfl (cells_new w2 _ _) (by simp [Value.oneCell']) (by unfold maxLen; omega) (by omega) (Nat.le_trans HB2.out.size (below_new _ _).size) ?_; intro v' w9 hown' hgrow _ _; have HB9 := hid (app_belowL HB2.out HO2.out hgrow); obtain ⟨q', d', rfl⟩ := own_slice hown'; have HO9 := hid hown'; clear hown' hgrow))
      (try simp only [Exit.inBlock, Exit.then])
      go_ret2
      first | exact ⟨⟨_, rfl⟩, HB9.out⟩ | exact ⟨_, rfl, HB9.out⟩
    have j1 : (K == 1) = false := by simpa using k1
    have j2 : (K == 2) = false := by simpa using k2
    go_enter Tryz.func27, Tryz.ntmps27
    go_wp2_with (first | (go_at_call 63; (with_reducible refine (HMa.out _).mono ?_); rintro e w1 ⟨rfl, hb⟩; have HB1 := hid (below_out HB0.out hb); have HX1 := hid (blk_next HX0.out hb); clear hb HMa) | (go_at_call 64; (with_reducible refine (HU.out _).mono ?_); rintro e w2 ⟨rfl, hb⟩; have HB2 := hid (below_out HB1.out hb); have HO2 := hid (OwnF.nil w2 w.heap.size); obtain ⟨y0, y1, _, _⟩ := cells2 (blk_next HX1.out hb); clear hb HU))
    (try simp only [Exit.inBlock, Exit.then])
    go_ret2
    first | exact ⟨⟨_, rfl⟩, HB2.out⟩ | exact ⟨_, rfl, HB2.out⟩
end Go.Proofs.YtnlmjlfoeodleaaGreatDoor
/- Bodies read, in plain words: what a reader is behind each feed, and that cuts change nothing. -/
namespace Go.Proofs.YtnlmjlfoeodleaaGreatDoor
open Go.RowKit

structure BS where
  kind : Nat
  room : Nat
  told : Nat
  done : Bool
  err : Nat
  ck : KS
def overX (s : BS) : Bool := s.done || decide (s.err ≠ 0)
/-- A reader fed with bytes: what it has become; how many it took; what they say. -/
def fedX (s : BS) (l : B) : BS :=
  if overX s = true then s
  else if s.kind = 2 then { s with told := s.told + (feedB s.ck l).length, done := decide ((feedK s.ck l).st = 11), err := (feedK s.ck l).err, ck := feedK s.ck l }
  else if s.kind = 1 then { s with room := s.room - l.length, told := s.told + min l.length s.room, done := decide (s.room ≤ l.length), err := 0 }
  else { s with room := s.room - l.length, told := s.told + min l.length s.room, done := false, err := if s.room < l.length then 33 else 0 }
def tookX (s : BS) (l : B) : Nat :=
  if overX s = true then 0 else if s.kind = 2 then feedN s.ck l else if s.kind = 1 then min l.length s.room else if s.room < l.length then s.room + 1 else l.length
def saidX (s : BS) (l : B) : B :=
  if overX s = true then [] else if s.kind = 2 then feedB s.ck l else l.take s.room
def shutX (s : BS) : BS := if overX s = true then s else if s.kind = 3 then { s with done := true } else { s with err := 32 }
def topX (m : Int) : Nat := if m = -1 then 9223372036854775807 else m.toNat
def newE (K N m : Int) : Nat := if ¬ (okFr K N = true ∧ -1 ≤ m) then 1 else if (topX m : Int) < N then 33 else 0
def newX (K N m : Int) : BS := ⟨K.toNat, if K = 1 then N.toNat else if K = 3 then topX m else 0, 0, decide (K = 0 ∨ (K = 1 ∧ N = 0)), 0, newK (min (topX m) 1099511627776)⟩
/-- What a reader always is. -/
structure InvX (s : BS) : Prop where
  kind : s.kind ≤ 3
  k0 : s.kind = 0 → s.done = true
  ck : s.kind = 2 → InvK s.ck ∧ s.told = s.ck.told
  room : s.kind ≠ 2 → s.told + s.room ≤ 9223372036854775807
theorem over_yes {s : BS} (h : overX s = true) (l : B) : fedX s l = s ∧ tookX s l = 0 ∧ saidX s l = [] := by
  unfold fedX tookX saidX
  simp only [if_pos h, and_self]
theorem over_no {s : BS} (h : overX s = false) : s.done = false ∧ s.err = 0 := by
  unfold overX at h
  simpa using h
theorem fed_2 {s : BS} (h : overX s = false) (h2 : s.kind = 2) (l : B) : fedX s l = { s with told := s.told + (feedB s.ck l).length, done := decide ((feedK s.ck l).st = 11), err := (feedK s.ck l).err, ck := feedK s.ck l } ∧ tookX s l = feedN s.ck l ∧ saidX s l = feedB s.ck l := by
  have hn : ¬ overX s = true := by rw [h]; decide
  unfold fedX tookX saidX
  simp only [if_neg hn, if_pos h2, and_self]
theorem fed_1 {s : BS} (h : overX s = false) (h1 : s.kind = 1) (l : B) : fedX s l = { s with room := s.room - l.length, told := s.told + min l.length s.room, done := decide (s.room ≤ l.length), err := 0 } ∧ tookX s l = min l.length s.room ∧ saidX s l = l.take s.room := by
  have hn : ¬ overX s = true := by rw [h]; decide
  have h2 : ¬ s.kind = 2 := by omega
  unfold fedX tookX saidX
  simp only [if_neg hn, if_neg h2, if_pos h1, and_self]
theorem fed_3 {s : BS} (h : overX s = false) (h2 : s.kind ≠ 2) (h1 : s.kind ≠ 1) (l : B) : fedX s l = { s with room := s.room - l.length, told := s.told + min l.length s.room, done := false, err := if s.room < l.length then 33 else 0 } ∧ tookX s l = (if s.room < l.length then s.room + 1 else l.length) ∧ saidX s l = l.take s.room := by
  have hn : ¬ overX s = true := by rw [h]; decide
  unfold fedX tookX saidX
  simp only [if_neg hn, if_neg h2, if_neg h1, and_self]
theorem over_ck {s : BS} (h : overX s = false) (h2 : s.kind = 2) (l : B) : overX (fedX s l) = endedK (feedK s.ck l) := by
  rw [(fed_2 h h2 l).1]
  unfold overX endedK
  simp only
  rw [Bool.or_comm]
/-- However cut, the same. -/
theorem cut_over {s : BS} {a : B} (h : overX (fedX s a) = true) (b : B) : fedX s (a ++ b) = fedX s a ∧ tookX s (a ++ b) = tookX s a ∧ saidX s (a ++ b) = saidX s a := by
  cases hn : overX s with
  | true =>
    obtain ⟨h1, h2, h3⟩ := over_yes hn (a ++ b)
    obtain ⟨k1, k2, k3⟩ := over_yes hn a
    rw [h1, h2, h3, k1, k2, k3]
    exact ⟨rfl, rfl, rfl⟩
  | false =>
    by_cases e2 : s.kind = 2
    · rw [over_ck hn e2] at h
      obtain ⟨h1, h2, h3⟩ := fed_2 hn e2 (a ++ b)
      obtain ⟨k1, k2, k3⟩ := fed_2 hn e2 a
      obtain ⟨f1, f2, f3⟩ := fk_app a b s.ck
      obtain ⟨g1, g2, g3⟩ := fk_ended h b
      rw [g1] at f1
      rw [g2, Nat.add_zero] at f2
      rw [g3, List.append_nil] at f3
      rw [h1, h2, h3, k1, k2, k3, f1, f2, f3]
      exact ⟨rfl, rfl, rfl⟩
    · by_cases e1 : s.kind = 1
      · obtain ⟨h1, h2, h3⟩ := fed_1 hn e1 (a ++ b)
        obtain ⟨k1, k2, k3⟩ := fed_1 hn e1 a
        rw [k1] at h
        have hr : s.room ≤ a.length := by unfold overX at h; simpa using h
        rw [h1, h2, h3, k1, k2, k3, List.length_append]
        have e : decide (s.room ≤ a.length + b.length) = decide (s.room ≤ a.length) := decide_eq_decide.2 (by omega)
        refine ⟨?_, by omega, List.take_append_of_le_length hr⟩
        rw [e, show s.room - (a.length + b.length) = s.room - a.length from by omega, show min (a.length + b.length) s.room = min a.length s.room from by omega]
      · obtain ⟨h1, h2, h3⟩ := fed_3 hn e2 e1 (a ++ b)
        obtain ⟨k1, k2, k3⟩ := fed_3 hn e2 e1 a
        rw [k1] at h
        have hr : s.room < a.length := by unfold overX at h; simpa using h
        rw [h1, h2, h3, k1, k2, k3, List.length_append, if_pos hr, if_pos (show s.room < a.length + b.length from by omega), if_pos hr, if_pos (show s.room < a.length + b.length from by omega)]
        refine ⟨?_, rfl, List.take_append_of_le_length (by omega)⟩
        rw [show s.room - (a.length + b.length) = s.room - a.length from by omega, show min (a.length + b.length) s.room = min a.length s.room from by omega]
theorem cut_on {s : BS} {a : B} (h : overX (fedX s a) = false) (b : B) : fedX s (a ++ b) = fedX (fedX s a) b ∧ tookX s (a ++ b) = tookX s a + tookX (fedX s a) b ∧ saidX s (a ++ b) = saidX s a ++ saidX (fedX s a) b := by
  cases hn : overX s with
  | true =>
    rw [(over_yes hn a).1, hn] at h
    cases h
  | false =>
    by_cases e2 : s.kind = 2
    · have hk := over_ck hn e2 a
      rw [h] at hk
      obtain ⟨h1, h2, h3⟩ := fed_2 hn e2 (a ++ b)
      obtain ⟨k1, k2, k3⟩ := fed_2 hn e2 a
      obtain ⟨f1, f2, f3⟩ := fk_app a b s.ck
      obtain ⟨g1, g2, g3⟩ := fed_2 h (by rw [k1]; exact e2) b
      rw [g1, g2, g3, h1, h2, h3, k2, k3, k1, f1, f2, f3]
      simp only [List.length_append, Nat.add_assoc, and_self]
    · by_cases e1 : s.kind = 1
      · obtain ⟨h1, h2, h3⟩ := fed_1 hn e1 (a ++ b)
        obtain ⟨k1, k2, k3⟩ := fed_1 hn e1 a
        obtain ⟨g1, g2, g3⟩ := fed_1 h (by rw [k1]; exact e1) b
        rw [k1] at h
        have hr : a.length < s.room := by unfold overX at h; simpa using h
        rw [g1, g2, g3, h1, h2, h3, k2, k3, k1]
        simp only [List.length_append]
        refine ⟨?_, by omega, ?_⟩
        · have e : decide (s.room ≤ a.length + b.length) = decide (s.room - a.length ≤ b.length) := decide_eq_decide.2 (by omega)
          rw [e, show s.room - (a.length + b.length) = s.room - a.length - b.length from by omega, show s.told + min (a.length + b.length) s.room = s.told + min a.length s.room + min b.length (s.room - a.length) from by omega]
        · rw [List.take_append, List.take_of_length_le (l := a) (by omega)]
      · obtain ⟨h1, h2, h3⟩ := fed_3 hn e2 e1 (a ++ b)
        obtain ⟨k1, k2, k3⟩ := fed_3 hn e2 e1 a
        obtain ⟨g1, g2, g3⟩ := fed_3 h (by rw [k1]; exact e2) (by rw [k1]; exact e1) b
        rw [k1] at h
        have hr : ¬ s.room < a.length := by unfold overX at h; simpa using h
        rw [g1, g2, g3, h1, h2, h3, k2, k3, k1]
        simp only [List.length_append, if_neg hr]
        refine ⟨?_, ?_, ?_⟩
        · have e : (if s.room < a.length + b.length then 33 else 0) = (if s.room - a.length < b.length then 33 else 0) := by
            by_cases hh : s.room < a.length + b.length
            · rw [if_pos hh, if_pos (by omega)]
            · rw [if_neg hh, if_neg (by omega)]
          rw [e, show s.room - (a.length + b.length) = s.room - a.length - b.length from by omega, show s.told + min (a.length + b.length) s.room = s.told + min a.length s.room + min b.length (s.room - a.length) from by omega]
        · by_cases hh : s.room < a.length + b.length
          · rw [if_pos hh, if_pos (by omega)]; omega
          · rw [if_neg hh, if_neg (by omega)]
        · rw [List.take_append, List.take_of_length_le (l := a) (by omega)]
theorem said_len {s : BS} (l : B) : (saidX s l).length ≤ l.length ∨ s.kind = 2 := by
  by_cases e2 : s.kind = 2
  · exact .inr e2
  · refine .inl ?_
    unfold saidX
    split
    · simp
    · (try rw [if_neg e2]); rw [List.length_take]; omega
theorem new_parts {K N m : Int} (h : newE K N m = 0) : okFr K N = true ∧ -1 ≤ m ∧ N ≤ (topX m : Int) := by
  unfold newE at h
  by_cases h0 : okFr K N = true ∧ -1 ≤ m
  · rw [if_neg (fun h9 => h9 h0)] at h
    refine ⟨h0.1, h0.2, ?_⟩
    by_cases h1 : (topX m : Int) < N
    · rw [if_pos h1] at h; cases h
    · omega
  · rw [if_pos h0] at h; cases h
theorem top_le {m : Int} (h : m ≤ 9223372036854775807) : topX m ≤ 9223372036854775807 := by unfold topX; split <;> omega
theorem inv_new {K N m : Int} (h : newE K N m = 0) (h9 : m ≤ 9223372036854775807) : InvX (newX K N m) := by
  obtain ⟨hk, hm, hN⟩ := new_parts h
  have hk := of_decide_eq_true hk
  have hi : InvK (newK (min (topX m) 1099511627776)) := invK_new (by omega)
  have ht := top_le h9
  refine ⟨?_, ?_, ?_, ?_⟩
  · show K.toNat ≤ 3
    omega
  · intro e
    have e : K.toNat = 0 := e
    show decide _ = true
    exact decide_eq_true (.inl (by omega))
  · intro e
    exact ⟨hi, rfl⟩
  · intro e
    show 0 + (if K = 1 then N.toNat else if K = 3 then topX m else 0) ≤ 9223372036854775807
    split
    · omega
    · split <;> omega
theorem inv_fed {s : BS} (h : InvX s) (l : B) : InvX (fedX s l) := by
  cases hn : overX s with
  | true => rw [(over_yes hn l).1]; exact h
  | false =>
    by_cases e2 : s.kind = 2
    · rw [(fed_2 hn e2 l).1]
      obtain ⟨c1, c2⟩ := h.ck e2
      refine ⟨h.kind, fun e => ?_, fun _ => ⟨feed_inv l c1, ?_⟩, fun e => absurd e2 e⟩
      · have e : s.kind = 0 := e
        omega
      · show s.told + (feedB s.ck l).length = (feedK s.ck l).told
        have := fk_told l s.ck
        omega
    · have hd := (over_no hn).1
      have hr := h.room e2
      by_cases e1 : s.kind = 1
      · rw [(fed_1 hn e1 l).1]
        refine ⟨h.kind, fun e => ?_, fun e => absurd e e2, fun _ => ?_⟩
        · have e : s.kind = 0 := e
          omega
        · show s.told + min l.length s.room + (s.room - l.length) ≤ 9223372036854775807
          omega
      · rw [(fed_3 hn e2 e1 l).1]
        refine ⟨h.kind, fun e => ?_, fun e => absurd e e2, fun _ => ?_⟩
        · have := h.k0 e
          rw [hd] at this
          cases this
        · show s.told + min l.length s.room + (s.room - l.length) ≤ 9223372036854775807
          omega
theorem inv_shut {s : BS} (h : InvX s) : InvX (shutX s) := by
  unfold shutX
  split
  · exact h
  · split
    · exact ⟨h.kind, fun _ => rfl, h.ck, h.room⟩
    · exact ⟨h.kind, h.k0, h.ck, h.room⟩
end Go.Proofs.YtnlmjlfoeodleaaGreatDoor
/- The program's reader of bodies in memory. -/
namespace Go.Proofs.YtnlmjlfoeodleaaGreatDoor
open Go.RowKit

def bdC (s : BS) (cp : Option Addr) : Array Value := #[.int .i64 (s.kind : Int), .int .i64 (s.room : Int), .pointer cp, .int .i64 (s.told : Int), .bool s.done, errOf s.err]
structure Cells6 (w : World) (g : Nat) (c0 c1 c2 c3 c4 c5 : Value) : Prop where
  a0 : w.cell? ⟨g, 0, none⟩ = some c0
  a1 : w.cell? ⟨g, 1, none⟩ = some c1
  a2 : w.cell? ⟨g, 2, none⟩ = some c2
  a3 : w.cell? ⟨g, 3, none⟩ = some c3
  a4 : w.cell? ⟨g, 4, none⟩ = some c4
  a5 : w.cell? ⟨g, 5, none⟩ = some c5
  z : ∀ j, w.frozen? ⟨g, j, none⟩ = false
theorem cells6 {w : World} {g : Nat} {c0 c1 c2 c3 c4 c5 : Value} {T : TypeId} (h : w.heap[g]? = some (.cells #[c0, c1, c2, c3, c4, c5] T (0, 0))) : Cells6 w g c0 c1 c2 c3 c4 c5 := by
  refine ⟨?_, ?_, ?_, ?_, ?_, ?_, fun j => by simp [World.frozen?, h]⟩ <;> simp [World.cell?, h]
theorem set6_0 {w : World} {g : Nat} {T : TypeId} {c0 c1 c2 c3 c4 c5 : Value} (h : w.heap[g]? = some (.cells #[c0, c1, c2, c3, c4, c5] T (0, 0))) (v : Value) : (w.setCell ⟨g, 0, none⟩ v).heap[g]? = some (.cells #[v, c1, c2, c3, c4, c5] T (0, 0)) := by
  simp [World.setCell, Array.getElem?_modify, h]
theorem set6_1 {w : World} {g : Nat} {T : TypeId} {c0 c1 c2 c3 c4 c5 : Value} (h : w.heap[g]? = some (.cells #[c0, c1, c2, c3, c4, c5] T (0, 0))) (v : Value) : (w.setCell ⟨g, 1, none⟩ v).heap[g]? = some (.cells #[c0, v, c2, c3, c4, c5] T (0, 0)) := by
  simp [World.setCell, Array.getElem?_modify, h]
theorem set6_2 {w : World} {g : Nat} {T : TypeId} {c0 c1 c2 c3 c4 c5 : Value} (h : w.heap[g]? = some (.cells #[c0, c1, c2, c3, c4, c5] T (0, 0))) (v : Value) : (w.setCell ⟨g, 2, none⟩ v).heap[g]? = some (.cells #[c0, c1, v, c3, c4, c5] T (0, 0)) := by
  simp [World.setCell, Array.getElem?_modify, h]
theorem set6_3 {w : World} {g : Nat} {T : TypeId} {c0 c1 c2 c3 c4 c5 : Value} (h : w.heap[g]? = some (.cells #[c0, c1, c2, c3, c4, c5] T (0, 0))) (v : Value) : (w.setCell ⟨g, 3, none⟩ v).heap[g]? = some (.cells #[c0, c1, c2, v, c4, c5] T (0, 0)) := by
  simp [World.setCell, Array.getElem?_modify, h]
theorem set6_4 {w : World} {g : Nat} {T : TypeId} {c0 c1 c2 c3 c4 c5 : Value} (h : w.heap[g]? = some (.cells #[c0, c1, c2, c3, c4, c5] T (0, 0))) (v : Value) : (w.setCell ⟨g, 4, none⟩ v).heap[g]? = some (.cells #[c0, c1, c2, c3, v, c5] T (0, 0)) := by
  simp [World.setCell, Array.getElem?_modify, h]
theorem set6_5 {w : World} {g : Nat} {T : TypeId} {c0 c1 c2 c3 c4 c5 : Value} (h : w.heap[g]? = some (.cells #[c0, c1, c2, c3, c4, c5] T (0, 0))) (v : Value) : (w.setCell ⟨g, 5, none⟩ v).heap[g]? = some (.cells #[c0, c1, c2, c3, c4, v] T (0, 0)) := by
  simp [World.setCell, Array.getElem?_modify, h]
/-- Where the chunks' reader lies, if there is one. -/
def ChAt (F : Nat → Prop) (w : World) (g : Nat) (s : BS) (cp : Option Addr) : Prop := (s.kind = 2 ∧ ∃ gk G, cp = some ⟨gk, 0, none⟩ ∧ RdAt G w gk s.ck ∧ ∀ k, G k → F k ∧ k ≠ g) ∨ (s.kind ≠ 2 ∧ cp = none)
/-- Block g is the reader s of a body; what is its own lies within F. -/
structure BdAt (F : Nat → Prop) (w : World) (g : Nat) (s : BS) (cp : Option Addr) : Prop where
  blk : w.heap[g]? = some (.cells (bdC s cp) 82 (0, 0))
  own : F g
  ch : ChAt F w g s cp
theorem ChAt.keep {F H : Nat → Prop} {w w' : World} {g : Nat} {s : BS} {cp : Option Addr} (h : ChAt F w g s cp) (ho : Only H w w') (hd : ∀ k, F k → ¬ H k ∨ k = g) : ChAt F w' g s cp := by
  rcases h with ⟨h1, gk, G, h2, h3, h4⟩ | h
  · refine .inl ⟨h1, gk, G, h2, h3.keep ho (fun k hk => ?_), h4⟩
    rcases hd k (h4 k hk).1 with h5 | h5
    · exact h5
    · exact absurd h5 (h4 k hk).2
  · exact .inr h
theorem BdAt.next {F : Nat → Prop} {w w' : World} {g : Nat} {s : BS} {cp : Option Addr} (h : BdAt F w g s cp) (hb : Below w.heap.size w w') : BdAt F w' g s cp := ⟨(hb.block g (lt_of_heap h.blk)).trans h.blk, h.own, h.ch.keep (H := fun _ => False) (Only.of_below hb) (fun _ _ => .inl id)⟩
theorem BdAt.keep {F H : Nat → Prop} {w w' : World} {g : Nat} {s : BS} {cp : Option Addr} (h : BdAt F w g s cp) (ho : Only H w w') (hd : ∀ k, F k → ¬ H k) : BdAt F w' g s cp := ⟨(ho.block g (lt_of_heap h.blk) (hd g h.own)).trans h.blk, h.own, h.ch.keep ho (fun k hk => .inl (hd k hk))⟩
theorem BdAt.cells {F : Nat → Prop} {w : World} {g : Nat} {s : BS} {cp : Option Addr} (h : BdAt F w g s cp) : Cells6 w g (.int .i64 (s.kind : Int)) (.int .i64 (s.room : Int)) (.pointer cp) (.int .i64 (s.told : Int)) (.bool s.done) (errOf s.err) := by
  have hb := h.blk
  unfold bdC at hb
  exact cells6 hb
theorem BdAt.wide {F G : Nat → Prop} {w : World} {g : Nat} {s : BS} {cp : Option Addr} (h : BdAt F w g s cp) (hs : ∀ k, F k → G k) : BdAt G w g s cp := by
  refine ⟨h.blk, hs g h.own, ?_⟩
  rcases h.ch with ⟨h1, gk, H, h2, h3, h4⟩ | h
  · exact .inl ⟨h1, gk, H, h2, h3, fun k hk => ⟨hs k (h4 k hk).1, (h4 k hk).2⟩⟩
  · exact .inr h
/-- Cells of the reader itself are written. -/
theorem BdAt.put {F : Nat → Prop} {w : World} {g : Nat} {s s' : BS} {cp : Option Addr} (h : BdAt F w g s cp) (j : Nat) (v : Value) (hc : (bdC s cp).setIfInBounds j v = bdC s' cp) (hk : s'.kind = s.kind) (hck : s'.ck = s.ck) : BdAt F (w.setCell ⟨g, j, none⟩ v) g s' cp := by
  have hb := h.blk
  refine ⟨?_, h.own, ?_⟩
  · rw [← hc]
    simp [World.setCell, Array.getElem?_modify, hb]
  · have ho : Only (fun k => k = g) w (w.setCell ⟨g, j, none⟩ v) := (Only.refl (fun k => k = g) w).set rfl v
    have := h.ch.keep ho (fun k _ => by by_cases e : k = g; exact .inr e; exact .inl e)
    unfold ChAt at this ⊢
    rw [hk, hck]
    exact this
theorem BdAt.lt {F : Nat → Prop} {w : World} {g : Nat} {s : BS} {cp : Option Addr} (h : BdAt F w g s cp) : g < w.heap.size := lt_of_heap h.blk
/-- The parts of F that are there. -/
theorem BdAt.trim {F : Nat → Prop} {w : World} {g : Nat} {s : BS} {cp : Option Addr} (h : BdAt F w g s cp) : BdAt (fun k => F k ∧ k < w.heap.size) w g s cp := by
  refine ⟨h.blk, ⟨h.own, h.lt⟩, ?_⟩
  rcases h.ch with ⟨h1, gk, H, h2, h3, h4⟩ | h
  · exact .inl ⟨h1, gk, _, h2, h3.trim, fun k hk => ⟨⟨(h4 k hk.1).1, hk.2⟩, (h4 k hk.1).2⟩⟩
  · exact .inr h
/-- The reader has become s', and nothing else has turned. -/
structure TurnX (F : Nat → Prop) (w w' : World) (g : Nat) (s' : BS) (G : Nat → Prop) (cp : Option Addr) : Prop where
  bd : BdAt G w' g s' cp
  only : Only F w w'
  sub : ∀ k, G k → F k ∨ w.heap.size ≤ k
  lt : ∀ k, G k → k < w'.heap.size
/-- .. and told bytes of its own. -/
structure FedXG (F : Nat → Prop) (w w' : World) (g : Nat) (s' : BS) (L : B) (G : Nat → Prop) (cp : Option Addr) (v : Value) : Prop where
  t : TurnX F w w' g s' G cp
  body : Own w' w.heap.size v L
  out : ∀ k, v.ownBlock = some k → ¬ G k
theorem TurnX.below {F G : Nat → Prop} {w w' : World} {g N : Nat} {s' : BS} {cp : Option Addr} (h : TurnX F w w' g s' G cp) (hF : ∀ k, F k → N ≤ k) (hN : N ≤ w.heap.size) : Below N w w' := h.only.below hF hN
theorem err_cases (k : Nat) : (k = 0 ∧ errOf k = .nilIface) ∨ (k ≠ 0 ∧ errOf k = .iface 72 (.int .i64 (k : Int))) := by
  by_cases h : k = 0
  · exact .inl ⟨h, by rw [h]; rfl⟩
  · exact .inr ⟨h, errOf_pos h⟩
theorem own_blk_ge {w : World} {b n c k : Nat} {p : Option Addr} {l : B} (h : Own w b (.slice p n c) l) (e : (Value.slice p n c).ownBlock = some k) : b ≤ k ∧ k < w.heap.size := ⟨own_ge h e, ys_lt (own_low0 h) e⟩
/-- A store into the reader. -/
theorem TurnX.put {F G : Nat → Prop} {w w' : World} {g : Nat} {s s' : BS} {cp : Option Addr} (h : TurnX F w w' g s G cp) (hF : F g) (j : Nat) (v : Value) (hc : (bdC s cp).setIfInBounds j v = bdC s' cp) (hk : s'.kind = s.kind) (hck : s'.ck = s.ck) : TurnX F w (w'.setCell ⟨g, j, none⟩ v) g s' G cp :=
  ⟨h.bd.put j v hc hk hck, h.only.set hF v, h.sub, fun k hk => by rw [size_set]; exact h.lt k hk⟩
theorem FedXG.put {F G : Nat → Prop} {w w' : World} {g : Nat} {s s' : BS} {L : B} {cp : Option Addr} {y : Value} (h : FedXG F w w' g s L G cp y) (hF : F g) (j : Nat) (v : Value) (hc : (bdC s cp).setIfInBounds j v = bdC s' cp) (hk : s'.kind = s.kind) (hck : s'.ck = s.ck) : FedXG F w (w'.setCell ⟨g, j, none⟩ v) g s' L G cp y :=
  ⟨h.t.put hF j v hc hk hck, own_only h.body ((Only.refl (fun k => k = g) w').set rfl v) (fun k e hk => by subst hk; exact h.out k e h.t.bd.own), h.out⟩
theorem FedXG.drew {F G : Nat → Prop} {w w' : World} {g : Nat} {s : BS} {L : B} {cp : Option Addr} {y : Value} (h : FedXG F w w' g s L G cp y) (q : Nat) : FedXG F w (w'.drewN q) g s L G cp y := by
  have hb : Below w'.heap.size w' (w'.drewN q) := below_drew (Below.refl _ _) q
  exact ⟨⟨h.t.bd.next hb, ⟨h.t.only.os, h.t.only.tape, h.t.only.output, h.t.only.size, h.t.only.block⟩, h.t.sub, h.t.lt⟩, h.body.keep hb, h.out⟩
end Go.Proofs.YtnlmjlfoeodleaaGreatDoor
