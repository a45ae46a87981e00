/- Which framings may be: the program asks frame.Fields of no fields, the document Valid. -/
import Derived.Test.YtllbdpiihiohoaaDoorKCalls
import Derived.Test.YtllbdpiihiohoaaDoorShelf
import Derived.Lib.AppendIntMem
import Derived.Laws.AppendOwnNone
namespace Go.Proofs.YtllbdpiihiohoaaDoor
open Go.RowKit

def okFr (K N : Int) : Bool := decide (0 ≤ K ∧ K ≤ 3 ∧ 0 ≤ N ∧ N ≤ 1099511627776 ∧ (K = 1 ∨ N = 0))
structure Cells2 (w : World) (g : Nat) (c0 c1 : Value) : Prop where
  a0 : w.cell? ⟨g, 0, none⟩ = some c0
  a1 : w.cell? ⟨g, 1, none⟩ = some c1
  z0 : w.frozen? ⟨g, 0, none⟩ = false
  z1 : w.frozen? ⟨g, 1, none⟩ = false
theorem cells2 {w : World} {g : Nat} {c0 c1 : Value} {T : TypeId} (h : w.heap[g]? = some (.cells #[c0, c1] T (0, 0))) : Cells2 w g c0 c1 := by
  refine ⟨?_, ?_, by simp [World.frozen?, h], by simp [World.frozen?, h]⟩ <;> simp [World.cell?, h]
theorem app_belowL {w wr w1 : World} {o : Obj} {v : Value} {e : TypeId} {size k : Nat} {xs : List Value} (hbel : Below w.heap.size w wr) (hown : wr.ownsRow w.heap.size e size v k xs) (hg : (wr.alloc o).grownBy w1 v.ownBlock) : Below w.heap.size w w1 :=
  (hbel.alloc hbel.size o).grown hg (by have h1 := hbel.size; have h2 : wr.heap.size ≤ (wr.alloc o).heap.size := by simp
                                        omega) (fun k hk => (hown.lt k hk).1)
abbrev frmO (K N : Int) : Obj := .cells #[.int .i64 K, .int .i64 N] 23 (0, 0)
theorem blk_next {W W' : World} {g : Nat} {o : Obj} (h : W.heap[g]? = some o) (hb : Below W.heap.size W W') : W'.heap[g]? = some o := (hb.block _ (lt_of_heap h)).trans h
set_option maxRecDepth 20000 in
set_option maxHeartbeats 8000000 in
theorem mayf_any (K N : Int) (w : World) : Calls Tryd.prog 21 #[.agg #[.int .i64 K, .int .i64 N]] w fun e w' => e = .returned (.bool (okFr K N)) ∧ Below w.heap.size w w' := by
  obtain ⟨R, hR⟩ : ∃ R, okFr K N = R := ⟨_, rfl⟩
  have HR := hid hR
  rw [hR]
  clear hR
  by_cases k1 : K = 1
  · subst k1
    by_cases n0 : 0 ≤ N
    · have HT := hid (show R = decide (N ≤ 1099511627776) from by rw [← HR.out]; unfold okFr; exact decide_eq_decide.2 (by omega))
      go_enter Tryd.func21, Tryd.ntmps21
      go_wp2
      (try simp only [Exit.inBlock, Exit.then])
      go_ret
      exact ⟨(by rw [HT.out]; rfl), below_new _ _⟩
    · have HT := hid (show R = false from by rw [← HR.out]; unfold okFr; exact decide_eq_false (by omega))
      go_enter Tryd.func21, Tryd.ntmps21
      go_wp2
      (try simp only [Exit.inBlock, Exit.then])
      go_ret
      exact ⟨(by rw [HT.out]; rfl), below_new _ _⟩
  by_cases k0 : K = 0
  · subst k0
    have HT := hid (show R = (N == 0) from by rw [← HR.out]; unfold okFr; rw [Bool.eq_iff_iff]; simp; omega)
    go_enter Tryd.func21, Tryd.ntmps21
    go_wp2
    (try simp only [Exit.inBlock, Exit.then])
    go_ret
    exact ⟨(by rw [HT.out]; rfl), below_new _ _⟩
  by_cases k2 : K = 2
  · subst k2
    have HT := hid (show R = (N == 0) from by rw [← HR.out]; unfold okFr; rw [Bool.eq_iff_iff]; simp; omega)
    go_enter Tryd.func21, Tryd.ntmps21
    go_wp2
    (try simp only [Exit.inBlock, Exit.then])
    go_ret
    exact ⟨(by rw [HT.out]; rfl), below_new _ _⟩
  by_cases k3 : K = 3
  · subst k3
    have HT := hid (show R = (N == 0) from by rw [← HR.out]; unfold okFr; rw [Bool.eq_iff_iff]; simp; omega)
    go_enter Tryd.func21, Tryd.ntmps21
    go_wp2
    (try simp only [Exit.inBlock, Exit.then])
    go_ret
    exact ⟨(by rw [HT.out]; rfl), below_new _ _⟩
  have j1 : (K == 1) = false := by simpa using k1
  have j0 : (K == 0) = false := by simpa using k0
  have j2 : (K == 2) = false := by simpa using k2
  have j3 : (K == 3) = false := by simpa using k3
  have HT := hid (show R = false from by rw [← HR.out]; unfold okFr; exact decide_eq_false (by omega))
  go_enter Tryd.func21, Tryd.ntmps21
  go_wp2
  (try simp only [Exit.inBlock, Exit.then])
  go_ret
  exact ⟨(by rw [HT.out]; rfl), below_new _ _⟩
/-- What the walks ask of the library's table of powers of ten. -/
def EnvP (w : World) : Prop := Lib.TabIs Tryd.prog w "internal/strconv.uint64pow10" .u64 Lib.pow10Tab
theorem EnvP.next {w w' : World} (h : EnvP w) (hb : Below w.heap.size w w') : EnvP w' := Lib.tabBelow_of_tabIs h _ hb
set_option maxRecDepth 20000 in
set_option maxHeartbeats 8000000 in
theorem textv_any (k : Nat) (hk : k < 9223372036854775808) (w : World) (hE : EnvP w) : Calls Tryd.prog 23 #[.int .i64 (k : Int)] w fun e w' => ∃ V, e = .returned (.string V) ∧ Below w.heap.size w w' := by
  have HC := hid (Tryd.strconv_Itoa (k : Int) (by omega) (by omega) w hE)
  go_enter Tryd.func23, Tryd.ntmps23
  go_wp2_with (go_at_call 33; (with_reducible refine HC.out.mono ?_); rintro e w' ⟨rfl, k, os, rfl⟩)
  go_ret
  exact ⟨_, rfl, Lib.below_grow _ _ (Nat.le_refl _) _ _⟩
set_option maxRecDepth 20000 in
set_option maxHeartbeats 8000000 in
theorem unframed0 (w : World) : Calls Tryd.prog 22 #[.slice none 0 0] w fun e w' => e = .returned (.slice none 0 0) ∧ Below w.heap.size w w' := by
  go_enter Tryd.func22, Tryd.ntmps22
  go_wp2
  go_loopg [3, 8] 1 (fun gk s3 s8 wr => s3 = .slice none 0 0 ∧ s8 = .int .i64 0 ∧ gk = 1 ∧ Below w.heap.size w wr)
  case atStart => exact ⟨rfl, rfl, rfl, Below.refl _ _⟩
  case round =>
    obtain ⟨rfl, rfl, rfl, hb⟩ := hrel
    have HB := hid hb
    clear hb
    go_wp2
    go_ret
    exact ⟨rfl, HB.out⟩
set_option maxRecDepth 20000 in
set_option maxHeartbeats 8000000 in
theorem flds0 (K N : Int) (w : World) (hE : EnvP w) :
    Calls Tryd.prog 16 #[.slice none 0 0, .agg #[.int .i64 K, .int .i64 N]] w fun e w' => ∃ v, e = .returned (.tuple #[v, errOf (if okFr K N = true then 0 else 1)]) ∧ Below w.heap.size w w' := by
  obtain ⟨i0, hi0, hz0, hz1, hz2⟩ := info_parts infoF
  have HMa := hid (show ∀ W : World, _ from fun W => mayf_any K N W)
  have HU := hid (show ∀ W : World, _ from fun W => unframed0 W)
  have HEv := hid hE
  have HX0 := hid (heap_alloc_new w (frmO K N))
  have HB0 := hid (below_new w (frmO K N))
  clear hE
  cases hok : okFr K N with
  | false =>
    rw [if_neg (by decide), errOf_pos (by decide)]
    rw [hok] at HMa
    clear hok
    go_enter Tryd.func16, Tryd.ntmps16
    go_wp2_with (go_at_call 21; (with_reducible refine (HMa.out _).mono ?_); rintro e w1 ⟨rfl, hb⟩; have HB1 := hid (below_out HB0.out hb); clear hb HMa)
    go_ret2
    first | exact ⟨⟨_, rfl⟩, HB1.out⟩ | exact ⟨_, rfl, HB1.out⟩
  | true =>
    rw [if_pos rfl, errOf_zero]
    have HOk := hid (of_decide_eq_true hok)
    rw [hok] at HMa
    clear hok
    by_cases k1 : K = 1
    · subst k1
      have hN0 : (0 : Int) ≤ N := HOk.out.2.2.1
      have hNM : N ≤ 1099511627776 := HOk.out.2.2.2.1
      obtain ⟨t, ht⟩ : ∃ t : Nat, N = (t : Int) := ⟨N.toNat, by omega⟩
      have htk : t ≤ 9223372036854775807 := by omega
      have HTk := hid htk
      subst ht
      have HTx := hid (show ∀ W : World, Below w.heap.size w W → _ from fun W hb => textv_any t (Nat.lt_succ_of_le HTk.out) W (HEv.out.next hb))
      clear htk hN0 hNM
      go_enter Tryd.func16, Tryd.ntmps16
      go_wp2_with (first | (go_at_call 21; (with_reducible refine (HMa.out _).mono ?_); rintro e w1 ⟨rfl, hb⟩; have HB1 := hid (below_out HB0.out hb); have HX1 := hid (blk_next HX0.out hb); clear hb HMa) | (go_at_call 22; (with_reducible refine (HU.out _).mono ?_); rintro e w2 ⟨rfl, hb⟩; have HB2 := hid (below_out HB1.out hb); have HO2 := hid (OwnF.nil w2 w.heap.size); obtain ⟨y0, y1, _, _⟩ := cells2 (blk_next HX1.out hb); clear hb HU) | (go_at_call 23; (with_reducible refine (HTx.out _ HB2.out).mono ?_); rintro e w3 ⟨V, rfl, hb⟩; have HB3 := hid (below_out HB2.out hb); have HO3 := hid (HO2.out.keep hb); clear hb HTx) | (at_builtin; refine wpList_append_own_at _ rfl (.tmp 17) (.tmp 22) 37 rfl w.heap.size 56 i0 _ 2 32 Tryd.underlying37 hi0 hz0 hz1 hz2 rfl (by decide) (.slice none 0 0) 0 (fldC []) (by go_simp) (by have h9 := HO3.out.alloc (.cells #[.string ⟨#[67, 111, 110, 116, 101, 110, 116, 45, 76, 101, 110, 103, 116, 104]⟩, .string V] 56 (0, 0)); exact h9) ⟨w3.heap.size, 0, none⟩ 1 1 [.string ⟨#[67, 111, 110, 116, 101, 110, 116, 45, 76, 101, 110, 103, 116, 104]⟩, .string V] (by go_simp) rfl (cells_new w3 _ _) (by simp [Value.oneCell']) (by unfold maxLen; omega) (by omega) (Nat.le_trans HB3.out.size (below_new _ _).size) ?_; intro v' w9 hown' hgrow _ _; have HB9 := hid (app_belowL HB3.out HO3.out hgrow); obtain ⟨q', d', rfl⟩ := own_slice hown'; have HO9 := hid hown'; clear hown' hgrow))
      (try simp only [Exit.inBlock, Exit.then])
      go_ret2
      first | exact ⟨⟨_, rfl⟩, HB9.out⟩ | exact ⟨_, rfl, HB9.out⟩
    by_cases k2 : K = 2
    · subst k2
      go_enter Tryd.func16, Tryd.ntmps16
      go_wp2_with (first | (go_at_call 21; (with_reducible refine (HMa.out _).mono ?_); rintro e w1 ⟨rfl, hb⟩; have HB1 := hid (below_out HB0.out hb); have HX1 := hid (blk_next HX0.out hb); clear hb HMa) | (go_at_call 22; (with_reducible refine (HU.out _).mono ?_); rintro e w2 ⟨rfl, hb⟩; have HB2 := hid (below_out HB1.out hb); have HO2 := hid (OwnF.nil w2 w.heap.size); obtain ⟨y0, y1, _, _⟩ := cells2 (blk_next HX1.out hb); clear hb HU) | (at_builtin; refine wpList_append_own_at _ rfl (.tmp 26) (.tmp 28) 37 rfl w.heap.size 56 i0 _ 2 32 Tryd.underlying37 hi0 hz0 hz1 hz2 rfl (by decide) (.slice none 0 0) 0 (fldC []) (by go_simp) (by have h9 := HO2.out.alloc (.cells #[.string ⟨#[84, 114, 97, 110, 115, 102, 101, 114, 45, 69, 110, 99, 111, 100, 105, 110, 103]⟩, .string ⟨#[99, 104, 117, 110, 107, 101, 100]⟩] 56 (0, 0)); exact h9) ⟨w2.heap.size, 0, none⟩ 1 1 [.string ⟨#[84, 114, 97, 110, 115, 102, 101, 114, 45, 69, 110, 99, 111, 100, 105, 110, 103]⟩, .string ⟨#[99, 104, 117, 110, 107, 101, 100]⟩] (by go_simp) rfl (cells_new w2 _ _) (by simp [Value.oneCell']) (by unfold maxLen; omega) (by omega) (Nat.le_trans HB2.out.size (below_new _ _).size) ?_; intro v' w9 hown' hgrow _ _; have HB9 := hid (app_belowL HB2.out HO2.out hgrow); obtain ⟨q', d', rfl⟩ := own_slice hown'; have HO9 := hid hown'; clear hown' hgrow))
      (try simp only [Exit.inBlock, Exit.then])
      go_ret2
      first | exact ⟨⟨_, rfl⟩, HB9.out⟩ | exact ⟨_, rfl, HB9.out⟩
    have j1 : (K == 1) = false := by simpa using k1
    have j2 : (K == 2) = false := by simpa using k2
    go_enter Tryd.func16, Tryd.ntmps16
    go_wp2_with (first | (go_at_call 21; (with_reducible refine (HMa.out _).mono ?_); rintro e w1 ⟨rfl, hb⟩; have HB1 := hid (below_out HB0.out hb); have HX1 := hid (blk_next HX0.out hb); clear hb HMa) | (go_at_call 22; (with_reducible refine (HU.out _).mono ?_); rintro e w2 ⟨rfl, hb⟩; have HB2 := hid (below_out HB1.out hb); have HO2 := hid (OwnF.nil w2 w.heap.size); obtain ⟨y0, y1, _, _⟩ := cells2 (blk_next HX1.out hb); clear hb HU))
    (try simp only [Exit.inBlock, Exit.then])
    go_ret2
    first | exact ⟨⟨_, rfl⟩, HB2.out⟩ | exact ⟨_, rfl, HB2.out⟩
end Go.Proofs.YtllbdpiihiohoaaDoor
