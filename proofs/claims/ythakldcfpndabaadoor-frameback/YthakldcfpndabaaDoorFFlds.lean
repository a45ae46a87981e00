/- Fields that frame a body so, on both sides. -/
import Derived.Test.YthakldcfpndabaaDoorFTold
namespace Go.Proofs.YthakldcfpndabaaDoor
open Go.RowKit

def frB (N : ByteArray) : Bool := sameB N clN || sameB N teN
def unfF (fs : List (B × B)) : List (B × B) := fs.filter (fun f => !frB (str f.1))
def okFr (K N : Int) : Bool := decide (0 ≤ K ∧ K ≤ 3 ∧ 0 ≤ N ∧ N ≤ 1099511627776 ∧ (K = 1 ∨ N = 0))
def clB : B := [67, 111, 110, 116, 101, 110, 116, 45, 76, 101, 110, 103, 116, 104]
def teB : B := [84, 114, 97, 110, 115, 102, 101, 114, 45, 69, 110, 99, 111, 100, 105, 110, 103]
def chB : B := [99, 104, 117, 110, 107, 101, 100]
def addF (K N : Int) : List (B × B) := if K = 1 then [(clB, told 10 N.toNat)] else if K = 2 then [(teB, chB)] else []
/-- The fields, or the error's number. -/
def fldF (fs : List (B × B)) (K N : Int) : List (B × B) × Nat := if okFr K N = true then (unfF fs ++ addF K N, 0) else ([], 1)
theorem unf_le (fs : List (B × B)) : (unfF fs).length ≤ fs.length := List.length_filter_le _ _
theorem unf_take (fs : List (B × B)) (i : Nat) : (unfF (fs.take i)).length ≤ i := Nat.le_trans (unf_le _) (by rw [List.length_take]; omega)
theorem unf_yes {fs : List (B × B)} {i : Nat} {f : B × B} (h : fs[i]? = some f) (hs : frB (str f.1) = true) : unfF (fs.take (i + 1)) = unfF (fs.take i) := by
  rw [take_snocF h]; unfold unfF; simp [hs]
theorem unf_no {fs : List (B × B)} {i : Nat} {f : B × B} (h : fs[i]? = some f) (hs : frB (str f.1) = false) : unfF (fs.take (i + 1)) = unfF (fs.take i) ++ [f] := by
  rw [take_snocF h]; unfold unfF; simp [hs]
theorem clB_str : str clB = clN := rfl
theorem teB_str : str teB = teN := rfl
set_option maxRecDepth 20000 in
set_option maxHeartbeats 8000000 in
theorem frames_any (N : ByteArray) (w : World) (hN : N.size ≤ 1048576) : Calls Tryd.prog 70 #[.string N] w fun e w' => e = .returned (.bool (frB N)) ∧ Below w.heap.size w w' := by
  have HS1 := hid (show ∀ W : World, _ from fun W => same_bel N clN W hN (by decide))
  have HS2 := hid (show ∀ W : World, _ from fun W => same_bel N teN W hN (by decide))
  unfold frB
  obtain ⟨a, ha⟩ : ∃ a, sameB N clN = a := ⟨_, rfl⟩
  obtain ⟨b, hb⟩ : ∃ b, sameB N teN = b := ⟨_, rfl⟩
  rw [ha] at HS1
  rw [hb] at HS2
  rw [ha, hb]
  unfold clN at HS1
  unfold teN at HS2
  clear ha hb
  cases a with
  | true =>
    go_enter Tryd.func70, Tryd.ntmps70
    go_wp2_with (go_at_call 58; (with_reducible refine (HS1.out _).mono ?_); rintro e w1 ⟨rfl, hb⟩; have HB1 := hid hb; clear hb HS1)
    go_ret
    exact ⟨rfl, HB1.out⟩
  | false =>
    go_enter Tryd.func70, Tryd.ntmps70
    go_wp2_with (first | (go_at_call 58; (with_reducible refine (HS1.out _).mono ?_); rintro e w1 ⟨rfl, hb⟩; have HB1 := hid hb; clear hb HS1) | (go_at_call 58; (with_reducible refine (HS2.out _).mono ?_); rintro e w2 ⟨rfl, hb⟩; have HB2 := hid (below_out HB1.out hb); clear hb HS2))
    go_ret
    exact ⟨rfl, HB2.out⟩
structure RdB (U : World) (g : Nat) (N V : ByteArray) : Prop where
  a0 : U.cell? ⟨g, 0, none⟩ = some (.string N)
  a1 : U.cell? ⟨g, 1, none⟩ = some (.string V)
theorem RdB.next {U V : World} {g : Nat} {N M : ByteArray} (h : RdB U g N M) (hb : Below U.heap.size U V) : RdB V g N M := ⟨cell_keep hb h.a0, cell_keep hb h.a1⟩
theorem OwnF.appd {w : World} {b m : Nat} {v : Value} {A : List (B × B)} {f : B × B} {N V : ByteArray} (hm : m = A.length) (hN : str f.1 = N) (hV : str f.2 = V) (h : w.ownsRow b 25 2 v (m + 1) (fldC A ++ [.string N, .string V])) : OwnF w b v (A ++ [f]) := by
  unfold OwnF
  rw [fldC_app, List.length_append, ← hm, show fldC [f] = [.string N, .string V] from by rw [← hN, ← hV]; rfl]
  exact h
set_option maxRecDepth 20000 in
set_option maxHeartbeats 8000000 in
theorem unframed_any (fs : List (B × B)) (p : Option Addr) (n c : Nat) (hn : fs.length = n) (w : World) (hF : FAt w p fs) (hsz : szB fs) (hnn : n ≤ 1048576) :
    Calls Tryd.prog 49 #[.slice p n c] w fun e w' => ∃ v, e = .returned v ∧ OwnF w' w.heap.size v (unfF fs) ∧ Below w.heap.size w w' := by
  obtain ⟨i0, hi0, hz0, hz1, hz2⟩ := info_parts infoF
  have HF := hid hF
  have HN := hid hn
  have HZ := hid hsz
  clear hF hn hsz
  go_enter Tryd.func49, Tryd.ntmps49
  go_wp2
  go_loopg [3, 8] (n + 1) (fun gk s3 s8 wr => ∃ (i : Nat) (q : Option Addr) (m d : Nat), s3 = .slice q m d ∧ s8 = .int .i64 (i : Int) ∧ i ≤ n ∧ gk = n - i + 1 ∧ m = (unfF (fs.take i)).length ∧ OwnF wr w.heap.size (.slice q m d) (unfF (fs.take i)) ∧ Below w.heap.size w wr)
  case atStart => exact ⟨0, none, 0, 0, rfl, rfl, by omega, rfl, rfl, OwnF.nil _ _, Below.refl _ _⟩
  case round =>
    obtain ⟨i, q, m, d, rfl, rfl, hin, rfl, hm, ho, hb⟩ := hrel
    rename World => wr
    have hmi := unf_take fs i
    rw [← hm] at hmi
    have HB := hid hb
    have HO := hid ho
    have HM := hid hm
    clear hb ho hm
    by_cases hlt : i < n
    · obtain ⟨f, hf⟩ : ∃ f, fs[i]? = some f := ⟨fs[i]'(by rw [HN.out]; exact hlt), List.getElem?_eq_getElem (by rw [HN.out]; exact hlt)⟩
      obtain ⟨g, o, hp, c0, c1⟩ := (HF.out.next HB.out) i f hf
      subst hp
      have hltI : (i : Int) < (n : Int) := by omega
      obtain ⟨z1, z2⟩ := HZ.out f (List.mem_of_getElem? hf)
      have HFr := hid (show ∀ W : World, _ from fun W => frames_any (str f.1) W (by rw [str_size]; omega))
      have HC1 := hid (show ∀ W : World, _ from fun W => clone_any (str f.1) W (by rw [str_size]; omega))
      have HC2 := hid (show ∀ W : World, _ from fun W => clone_any (str f.2) W (by rw [str_size]; omega))
      cases hS : frB (str f.1) with
      | true =>
        have HY := hid (unf_yes hf hS)
        rw [hS] at HFr
        obtain ⟨N, hN⟩ : ∃ N, str f.1 = N := ⟨_, rfl⟩
        obtain ⟨V, hV⟩ : ∃ V, str f.2 = V := ⟨_, rfl⟩
        rw [hN] at c0 HFr
        rw [hV] at c1
        clear hf hS hN hV HC1 HC2
        go_wp2_with (first | (go_at_call 70; (with_reducible refine (HFr.out _).mono ?_); rintro e w2 ⟨rfl, hb⟩; have hbx := below_new wr (.cells #[.string N, .string V] 25 (0, 0)); have HB2 := hid (below_out (below_out HB.out hbx) hb); have HO2 := hid ((HO.out.keep hbx).keep hb); clear hb hbx HFr))
        go_roundg (n - (i + 1) + 1)
        case measure => omega
        case rel => exact ⟨i + 1, q, m, d, rfl, by go_num, by omega, rfl, (by rw [HY.out]; exact HM.out), (by rw [HY.out]; exact HO2.out), HB2.out⟩
      | false =>
        have HY := hid (unf_no hf hS)
        rw [hS] at HFr
        obtain ⟨N, hN⟩ : ∃ N, str f.1 = N := ⟨_, rfl⟩
        obtain ⟨V, hV⟩ : ∃ V, str f.2 = V := ⟨_, rfl⟩
        rw [hN] at c0 HFr HC1
        rw [hV] at c1 HC2
        have HNN := hid hN
        have HVV := hid hV
        clear hf hS hN hV
        go_wp2_with (first | (go_at_call 70; (with_reducible refine (HFr.out _).mono ?_); rintro e w2 ⟨rfl, hb⟩; have hbx := below_new wr (.cells #[.string N, .string V] 25 (0, 0)); have HB2 := hid (below_out (below_out HB.out hbx) hb); have HO2 := hid ((HO.out.keep hbx).keep hb); obtain ⟨y0, y1⟩ := box2 ((hb.block _ (lt_of_heap (heap_alloc_new wr (.cells #[.string N, .string V] 25 (0, 0))))).trans (heap_alloc_new wr (.cells #[.string N, .string V] 25 (0, 0)))); clear hb hbx HFr))
        have hS0 : RdB w2.drew wr.heap.size N V := ⟨y0, y1⟩
        have HB0 := hid (show Below w.heap.size w w2.drew from HB2.out.drew)
        have HO0 := hid (show OwnF w2.drew w.heap.size (.slice q m d) (unfF (fs.take i)) from HO2.out.keep ⟨rfl, rfl, rfl, Nat.le_refl _, fun _ _ => rfl⟩)
        clear y0 y1 c0 c1
        refine wp_region_noPanic ?_
        refine any_begin 11 (by kernel_rfl) (by kernel_rfl) ?_
        refine late_begin (fun U => RdB U wr.heap.size N V) (fun _ => false) hS0 (fun hS => ?_)
        refine late_take (i := 0) (some 16) rfl rfl (by kernel_rfl) (by kernel_rfl) (by kernel_rfl) (by kernel_rfl) (by kernel_rfl) (fun _ _ _ h => h) (by rfl) (v := ?v0u) ?hy0u hS ?rest0u
        case hy0u => intro w0 hSw; obtain ⟨a0, a1⟩ := hSw; go_simp; try with_reducible rfl
        simp only [Act.put, List.setIfInBounds_toArray, List.set_cons_zero, List.set_cons_succ]
        refine late_take (i := 1) (some 17) rfl rfl (by kernel_rfl) (by kernel_rfl) (by kernel_rfl) (by kernel_rfl) (by kernel_rfl) (fun _ _ _ h => h) (by rfl) (v := ?v1u) ?hy1u hS ?rest1u
        case hy1u => intro w0 hSw; obtain ⟨a0, a1⟩ := hSw; go_simp; try with_reducible rfl
        simp only [Act.put, List.setIfInBounds_toArray, List.set_cons_zero, List.set_cons_succ]
        refine late_take (i := 2) (some 18) rfl rfl (by kernel_rfl) (by kernel_rfl) (by kernel_rfl) (by kernel_rfl) (by kernel_rfl) (fun _ _ _ h => h) (by rfl) (v := ?v2u) ?hy2u hS ?rest2u
        case hy2u => intro w0 hSw; obtain ⟨a0, a1⟩ := hSw; go_simp; try with_reducible rfl
        simp only [Act.put, List.setIfInBounds_toArray, List.set_cons_zero, List.set_cons_succ]
        refine late_take (i := 4) (some 20) rfl rfl (by kernel_rfl) (by kernel_rfl) (by kernel_rfl) (by kernel_rfl) (by kernel_rfl) (fun _ _ _ h => h) (by rfl) (v := ?v4u) ?hy4u hS ?rest4u
        case hy4u => intro w0 hSw; obtain ⟨a0, a1⟩ := hSw; go_simp; try with_reducible rfl
        simp only [Act.put, List.setIfInBounds_toArray, List.set_cons_zero, List.set_cons_succ]
        refine late_take (i := 5) (some 21) rfl rfl (by kernel_rfl) (by kernel_rfl) (by kernel_rfl) (by kernel_rfl) (by kernel_rfl) (fun _ _ _ h => h) (by rfl) (v := ?v5u) ?hy5u hS ?rest5u
        case hy5u => intro w0 hSw; obtain ⟨a0, a1⟩ := hSw; go_simp; try with_reducible rfl
        simp only [Act.put, List.setIfInBounds_toArray, List.set_cons_zero, List.set_cons_succ]
        refine wpAnyD_one (i := 3) (by kernel_rfl) rfl (fun K hK => ?_)
        go_simp
        go_at_call 34
        refine (HC1.out _).mono ?_
        rintro e w3 ⟨rfl, hb⟩
        have HB3 := hid (below_out HB0.out hb)
        have HO3 := hid (HO0.out.keep hb)
        have hS3 := hS.next hb
        refine hK _ _ ⟨fun _ => hS3, ?_⟩
        clear hK K hb hS hS0 HC1
        refine wpAnyD_one (i := 6) (by kernel_rfl) rfl (fun K hK => ?_)
        go_simp
        go_at_call 34
        refine (HC2.out _).mono ?_
        rintro e w4 ⟨rfl, hb⟩
        have HB4 := hid (below_out HB3.out hb)
        have HO4 := hid (HO3.out.keep hb)
        have hS4 := hS3.next hb
        refine hK _ _ ⟨fun _ => hS4, ?_⟩
        clear hK K hb hS3 HC2
        refine late_take (i := 7) (some 23) rfl rfl (by kernel_rfl) (by kernel_rfl) (by kernel_rfl) (by kernel_rfl) (by kernel_rfl) (fun _ _ _ h => h) (by rfl) (v := ?v7u) ?hy7u hS4 ?rest7u
        case hy7u => intro w0 hSw; obtain ⟨a0, a1⟩ := hSw; go_simp; try with_reducible rfl
        simp only [Act.put, List.setIfInBounds_toArray, List.set_cons_zero, List.set_cons_succ]
        refine wpAnyD_one (i := 8) (by kernel_rfl) rfl (fun K hK => ?_)
        go_simp
        have hb5 := below_new w4 (.cells #[.string N, .string V] 25 (0, 0))
        have HB5 := hid (below_out HB4.out hb5)
        have HO5 := hid (HO4.out.keep hb5)
        have HC5 := hid (cells_new w4 [.string N, .string V] 25)
        have hS5 := hS4.next hb5
        refine hK _ _ ⟨fun _ => hS5, ?_⟩
        clear hK K hb5 hS4
        refine wpAnyD_one (i := 9) (by kernel_rfl) rfl (fun K hK => ?_)
        rw [if_pos (by rfl)]
        refine wp_append_own_at (.tmp 16) (.tmp 24) 22 rfl w.heap.size 25 i0 _ 2 32 Tryd.underlying22 hi0 hz0 hz1 hz2 rfl (by decide) (.slice q m d) m (fldC (unfF (fs.take i))) (by go_simp) (by have h9 := HO5.out; unfold OwnF at h9; rw [← HM.out] at h9; exact h9) ⟨w4.heap.size, 0, none⟩ 1 1 [.string N, .string V] (by go_simp) rfl (HC5.out) (by simp [Value.oneCell']) (by unfold maxLen; omega) (by omega) HB5.out.size ?_
        intro v' w6 hown hgr _
        have HB6 := hid (HB5.out.trans (OwnF.below HO5.out HB5.out.size hgr))
        obtain ⟨q6, c6, rfl⟩ := own_slice hown
        have HO6 := hid (show OwnF w6 w.heap.size (.slice q6 (m + 1) c6) (unfF (fs.take (i + 1))) from by rw [HY.out]; exact OwnF.appd HM.out HNN.out HVV.out hown)
        have hS6 : RdB w6 wr.heap.size N V := by
          have hblk := hgr.block wr.heap.size (lt_of_cell hS5.a0) (fun e => by have := (World.ownsRow.lt HO.out wr.heap.size e.symm).2; omega)
          exact ⟨by have h := hS5.a0; unfold World.cell? at h ⊢; rw [hblk]; exact h, by have h := hS5.a1; unfold World.cell? at h ⊢; rw [hblk]; exact h⟩
        clear hown hgr
        show K (Act.put _ (some 25) _) _
        refine hK _ _ ⟨fun _ => hS6, ?_⟩
        clear hK K hS5
        simp only [Act.put, List.setIfInBounds_toArray, List.set_cons_zero, List.set_cons_succ]
        refine late_take (i := 10) (some 3) rfl rfl (by kernel_rfl) (by kernel_rfl) (by kernel_rfl) (by kernel_rfl) (by kernel_rfl) (fun _ _ _ h => h) (by rfl) (v := ?v10u) ?hy10u hS6 ?rest10u
        case hy10u => intro w0 hSw; obtain ⟨a0, a1⟩ := hSw; go_simp; try with_reducible rfl
        simp only [Act.put, List.setIfInBounds_toArray, List.set_cons_zero, List.set_cons_succ]
        refine late_done (by kernel_rfl) ?_ _
        refine NoPanic.normal ?_
        go_wp2
        go_roundg (n - (i + 1) + 1)
        case measure => omega
        case rel => exact ⟨i + 1, q6, m + 1, c6, rfl, by go_num, by omega, rfl, (by rw [HY.out, List.length_append, ← HM.out]; rfl), HO6.out, HB6.out⟩
    · obtain rfl : i = n := by omega
      have hltI : ¬ (i : Int) < (i : Int) := by omega
      have HT := hid (show fs.take i = fs from List.take_of_length_le (by rw [HN.out]; exact Nat.le_refl _))
      clear hlt
      go_wp2
      go_ret
      exact ⟨_, rfl, by have h9 := HO.out; rw [HT.out] at h9; exact h9, HB.out⟩
end Go.Proofs.YthakldcfpndabaaDoor
