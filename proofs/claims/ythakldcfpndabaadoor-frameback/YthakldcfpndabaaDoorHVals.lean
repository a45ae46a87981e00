/- All values of a name, on both sides. -/
import Derived.Test.YthakldcfpndabaaDoorCRList
import Derived.Test.YthakldcfpndabaaDoorCSame
import Derived.Test.YthakldcfpndabaaDoorHFine
namespace Go.Proofs.YthakldcfpndabaaDoor
open Go.RowKit

def valsB (fs : List (B × B)) (nm : ByteArray) : List ByteArray := (fs.filter (fun f => sameB (str f.1) nm)).map (fun f => str f.2)
theorem vals_le (fs : List (B × B)) (nm : ByteArray) : (valsB fs nm).length ≤ fs.length := by unfold valsB; rw [List.length_map]; exact List.length_filter_le _ _
theorem vals_take (fs : List (B × B)) (nm : ByteArray) (i : Nat) : (valsB (fs.take i) nm).length ≤ i := Nat.le_trans (vals_le _ _) (by rw [List.length_take]; omega)
theorem take_snocF {fs : List (B × B)} {i : Nat} {f : B × B} (h : fs[i]? = some f) : fs.take (i + 1) = fs.take i ++ [f] := by rw [List.take_add_one, h]; rfl
theorem vals_yes {fs : List (B × B)} {nm : ByteArray} {i : Nat} {f : B × B} (h : fs[i]? = some f) (hs : sameB (str f.1) nm = true) : valsB (fs.take (i + 1)) nm = valsB (fs.take i) nm ++ [str f.2] := by
  rw [take_snocF h]; unfold valsB; simp [hs]
theorem vals_no {fs : List (B × B)} {nm : ByteArray} {i : Nat} {f : B × B} (h : fs[i]? = some f) (hs : sameB (str f.1) nm = false) : valsB (fs.take (i + 1)) nm = valsB (fs.take i) nm := by
  rw [take_snocF h]; unfold valsB; simp [hs]
theorem same_bel (a b : ByteArray) (w : World) (ha : a.size ≤ 1048576) (hb : b.size ≤ 1048576) : Calls Tryd.prog 58 #[.string a, .string b] w fun e w' => e = .returned (.bool (sameB a b)) ∧ Below w.heap.size w w' :=
  (same_any a b w (Nat.le_trans ha (by decide)) (Nat.le_trans hb (by decide))).mono (fun e w' ⟨h1, m, h2⟩ => ⟨h1, by rw [h2]; exact below_drew (Below.refl _ _) m⟩)
def RowB (W : World) (b : Nat) (v : Value) (L : List ByteArray) : Prop := W.ownsRow b 9 1 v L.length (L.map strVL)
theorem RowB.nil (W : World) (b : Nat) : RowB W b (.slice none 0 0) [] := ⟨rfl, .inl ⟨rfl, rfl⟩⟩
theorem RowB.keep {W W' : World} {b : Nat} {v : Value} {L : List ByteArray} (h : RowB W b v L) (hb : Below W.heap.size W W') : RowB W' b v L := own_over h hb
theorem box2 {V : World} {g : Nat} {a b : Value} {T : TypeId} (h : V.heap[g]? = some (.cells #[a, b] T (0, 0))) : V.cell? ⟨g, 0, none⟩ = some a ∧ V.cell? ⟨g, 1, none⟩ = some b := by
  constructor <;> simp [World.cell?, h]
def szB (fs : List (B × B)) : Prop := ∀ f ∈ fs, f.1.length ≤ 1048576 ∧ f.2.length ≤ 1048576
set_option maxRecDepth 20000 in
set_option maxHeartbeats 8000000 in
theorem pvals (fs : List (B × B)) (p : Option Addr) (n c : Nat) (hn : fs.length = n) (nm : ByteArray) (w : World) (hF : FAt w p fs) (hsz : szB fs) (hnm : nm.size ≤ 1048576) (hnn : n ≤ 1048576) :
    Calls Tryd.prog 42 #[.slice p n c, .string nm] w fun e w' => ∃ v, e = .returned v ∧ RowB w' w.heap.size v (valsB fs nm) ∧ Below w.heap.size w w' := by
  obtain ⟨i0, hi, hz0, hz1, hz2⟩ := info_parts info9
  have HF := hid hF
  have HN := hid hn
  have HZ := hid hsz
  clear hF hn hsz
  go_enter Tryd.func42, Tryd.ntmps42
  go_wp2
  go_loopg [5, 10] (n + 1) (fun gk s5 s10 wr => ∃ (i : Nat) (q : Option Addr) (m d : Nat), s5 = .slice q m d ∧ s10 = .int .i64 (i : Int) ∧ i ≤ n ∧ gk = n - i + 1 ∧ m = (valsB (fs.take i) nm).length ∧ RowB wr w.heap.size (.slice q m d) (valsB (fs.take i) nm) ∧ Below w.heap.size w wr)
  case atStart => exact ⟨0, none, 0, 0, rfl, rfl, by omega, rfl, rfl, RowB.nil _ _, Below.refl _ _⟩
  case round =>
    obtain ⟨i, q, m, d, rfl, rfl, hin, rfl, hm, ho, hb⟩ := hrel
    have hmi := vals_take fs nm i
    rw [← hm] at hmi
    have HB := hid hb
    have HO := hid (show wr.ownsRow w.heap.size 9 1 (.slice q m d) m ((valsB (fs.take i) nm).map strVL) from by unfold RowB at ho; rw [← hm] at ho; exact ho)
    have HM := hid hm
    clear hb ho hm
    by_cases hlt : i < n
    · obtain ⟨f, hf⟩ : ∃ f, fs[i]? = some f := ⟨fs[i]'(by rw [HN.out]; exact hlt), List.getElem?_eq_getElem (by rw [HN.out]; exact hlt)⟩
      obtain ⟨g, o, hp, c0, c1⟩ := (HF.out.next HB.out) i f hf
      subst hp
      have hltI : (i : Int) < (n : Int) := by omega
      obtain ⟨z1, z2⟩ := HZ.out f (List.mem_of_getElem? hf)
      have HSm := hid (show ∀ W : World, _ from fun W => same_bel (str f.1) nm W (by rw [str_size]; omega) (by omega))
      have HCl := hid (show ∀ W : World, _ from fun W => clone_any (str f.2) W (by rw [str_size]; omega))
      cases hS : sameB (str f.1) nm with
      | true =>
        have HY := hid (vals_yes hf hS)
        rw [hS] at HSm
        obtain ⟨N, hN⟩ : ∃ N, str f.1 = N := ⟨_, rfl⟩
        obtain ⟨V, hV⟩ : ∃ V, str f.2 = V := ⟨_, rfl⟩
        rw [hN] at c0 HSm
        rw [hV] at c1 HCl HY
        clear hf hS hN hV
        go_wp2_with (first | (go_at_call 58; (with_reducible refine (HSm.out _).mono ?_); rintro e w2 ⟨rfl, hb⟩; have hbx := below_new wr (.cells #[.string N, .string V] 25 (0, 0)); have HB2 := hid (below_out (below_out HB.out hbx) hb); have HO2 := hid (own_over (own_over HO.out hbx) hb); obtain ⟨y0, y1⟩ := box2 ((hb.block _ (lt_of_heap (heap_alloc_new wr (.cells #[.string N, .string V] 25 (0, 0))))).trans (heap_alloc_new wr (.cells #[.string N, .string V] 25 (0, 0)))); clear hb hbx HSm) | (go_at_call 34; (with_reducible refine (HCl.out _).mono ?_); rintro e w3 ⟨rfl, hb⟩; have HB3 := hid (below_out HB2.out hb); have HO3 := hid (own_over HO2.out hb); clear hb HCl y0 y1) | (at_builtin; refine wpList_append_own_at _ rfl (.tmp 18) (.tmp 22) 79 rfl w.heap.size 9 i0 _ 1 16 Tryd.underlying79 hi hz0 hz1 hz2 rfl (by decide) (.slice q m d) m ((valsB (fs.take i) nm).map strVL) (by go_simp) (HO3.out.alloc _) ⟨w3.heap.size, 0, none⟩ 1 1 [.string V] (by go_simp) rfl (cells_new w3 _ _) (by simp [Value.oneCell']) (by unfold maxLen; omega) (by omega) (Nat.le_trans HB3.out.size (below_new _ _).size) ?_; intro v' w4 hown' hgrow _ _; have HB4 := hid (app_belowL HB3.out HO3.out hgrow); obtain ⟨q', d', rfl⟩ := own_slice hown'; have HO4 := hid hown'; clear hown' hgrow))
        go_roundg (n - (i + 1) + 1)
        case measure => omega
        case rel => exact ⟨i + 1, q', m + 1, d', rfl, by go_num, by omega, rfl, (by rw [HY.out, List.length_append, ← HM.out]; rfl), (by unfold RowB; rw [HY.out, List.length_append, ← HM.out, List.map_append]; exact HO4.out), HB4.out⟩
      | false =>
        have HY := hid (vals_no hf hS)
        rw [hS] at HSm
        obtain ⟨N, hN⟩ : ∃ N, str f.1 = N := ⟨_, rfl⟩
        obtain ⟨V, hV⟩ : ∃ V, str f.2 = V := ⟨_, rfl⟩
        rw [hN] at c0 HSm
        rw [hV] at c1 HCl
        clear hf hS hN hV
        go_wp2_with (first | (go_at_call 58; (with_reducible refine (HSm.out _).mono ?_); rintro e w2 ⟨rfl, hb⟩; have hbx := below_new wr (.cells #[.string N, .string V] 25 (0, 0)); have HB2 := hid (below_out (below_out HB.out hbx) hb); have HO2 := hid (own_over (own_over HO.out hbx) hb); obtain ⟨y0, y1⟩ := box2 ((hb.block _ (lt_of_heap (heap_alloc_new wr (.cells #[.string N, .string V] 25 (0, 0))))).trans (heap_alloc_new wr (.cells #[.string N, .string V] 25 (0, 0)))); clear hb hbx HSm))
        go_roundg (n - (i + 1) + 1)
        case measure => omega
        case rel => exact ⟨i + 1, q, m, d, rfl, by go_num, by omega, rfl, (by rw [HY.out]; exact HM.out), (by unfold RowB; rw [HY.out, ← HM.out]; exact HO2.out), HB2.out⟩
    · obtain rfl : i = n := by omega
      have hltI : ¬ (i : Int) < (i : Int) := by omega
      have HT := hid (show fs.take i = fs from List.take_of_length_le (by rw [HN.out]; exact Nat.le_refl _))
      clear hlt
      go_wp2
      go_ret
      exact ⟨_, rfl, (by unfold RowB; have h1 := HO.out; have h2 := HM.out; rw [HT.out] at h1 h2; rw [← h2]; exact h1), HB.out⟩
set_option maxRecDepth 20000 in
set_option maxHeartbeats 8000000 in
theorem dvals (fs : List (B × B)) (p : Option Addr) (n c : Nat) (hn : fs.length = n) (nm : ByteArray) (w : World) (hF : FAt w p fs) (hsz : szB fs) (hnm : nm.size ≤ 1048576) (hnn : n ≤ 1048576) :
    Calls Tryd.prog 44 #[.slice p n c, .string nm] w fun e w' => ∃ v, e = .returned v ∧ RowB w' w.heap.size v (valsB fs nm) ∧ Below w.heap.size w w' := by
  obtain ⟨i0, hi, hz0, hz1, hz2⟩ := info_parts info9
  have HF := hid hF
  have HN := hid hn
  have HZ := hid hsz
  clear hF hn hsz
  go_enter Tryd.func44, Tryd.ntmps44
  go_wp2
  go_loopg [5, 6] (n + 1) (fun gk s5 s6 wr => ∃ (i : Nat) (q : Option Addr) (m d : Nat), s5 = .slice q m d ∧ s6 = .int .i64 (i : Int) ∧ i ≤ n ∧ gk = n - i + 1 ∧ m = (valsB (fs.take i) nm).length ∧ RowB wr w.heap.size (.slice q m d) (valsB (fs.take i) nm) ∧ Below w.heap.size w wr)
  case atStart => exact ⟨0, none, 0, 0, rfl, rfl, by omega, rfl, rfl, RowB.nil _ _, Below.refl _ _⟩
  case round =>
    obtain ⟨i, q, m, d, rfl, rfl, hin, rfl, hm, ho, hb⟩ := hrel
    have hmi := vals_take fs nm i
    rw [← hm] at hmi
    have HB := hid hb
    have HO := hid (show wr.ownsRow w.heap.size 9 1 (.slice q m d) m ((valsB (fs.take i) nm).map strVL) from by unfold RowB at ho; rw [← hm] at ho; exact ho)
    have HM := hid hm
    clear hb ho hm
    by_cases hlt : i < n
    · obtain ⟨f, hf⟩ : ∃ f, fs[i]? = some f := ⟨fs[i]'(by rw [HN.out]; exact hlt), List.getElem?_eq_getElem (by rw [HN.out]; exact hlt)⟩
      obtain ⟨g, o, hp, c0, c1⟩ := (HF.out.next HB.out) i f hf
      subst hp
      have hltI : (i : Int) < (n : Int) := by omega
      obtain ⟨z1, z2⟩ := HZ.out f (List.mem_of_getElem? hf)
      have HSm := hid (show ∀ W : World, _ from fun W => rsame_any (str f.1) nm W (by rw [str_size]; omega) (by omega))
      have HCl := hid (show ∀ W : World, _ from fun W => clone_any (str f.2) W (by rw [str_size]; omega))
      cases hS : sameB (str f.1) nm with
      | true =>
        have HY := hid (vals_yes hf hS)
        rw [hS] at HSm
        obtain ⟨N, hN⟩ : ∃ N, str f.1 = N := ⟨_, rfl⟩
        obtain ⟨V, hV⟩ : ∃ V, str f.2 = V := ⟨_, rfl⟩
        rw [hN] at c0 HSm
        rw [hV] at c1 HCl HY
        clear hf hS hN hV
        go_wp2_with (first | (go_at_call 35; (with_reducible refine (HSm.out _).mono ?_); rintro e w2 ⟨rfl, hb⟩; have HB2 := hid (below_out HB.out hb); have HO2 := hid (own_over HO.out hb); have y1 := cell_keep hb c1; clear hb HSm) | (at_builtin; refine wpList_append_own_at _ rfl (.tmp 20) (.tmp 26) 79 rfl w.heap.size 9 i0 _ 1 16 Tryd.underlying79 hi hz0 hz1 hz2 rfl (by decide) (.slice q m d) m ((valsB (fs.take i) nm).map strVL) (by go_simp) (HO2.out.alloc _) ⟨w2.heap.size, 0, none⟩ 1 1 [.string V] (by go_simp) rfl (cells_new w2 _ _) (by simp [Value.oneCell']) (by unfold maxLen; omega) (by omega) (Nat.le_trans HB2.out.size (below_new _ _).size) ?_; intro v' w4 hown' hgrow _ _; have HB4 := hid (app_belowL HB2.out HO2.out hgrow); obtain ⟨q', d', rfl⟩ := own_slice hown'; have HO4 := hid hown'; clear hown' hgrow))
        go_roundg (n - (i + 1) + 1)
        case measure => omega
        case rel => exact ⟨i + 1, q', m + 1, d', rfl, by go_num, by omega, rfl, (by rw [HY.out, List.length_append, ← HM.out]; rfl), (by unfold RowB; rw [HY.out, List.length_append, ← HM.out, List.map_append]; exact HO4.out), HB4.out⟩
      | false =>
        have HY := hid (vals_no hf hS)
        rw [hS] at HSm
        obtain ⟨N, hN⟩ : ∃ N, str f.1 = N := ⟨_, rfl⟩
        obtain ⟨V, hV⟩ : ∃ V, str f.2 = V := ⟨_, rfl⟩
        rw [hN] at c0 HSm
        rw [hV] at c1 HCl
        clear hf hS hN hV
        go_wp2_with (first | (go_at_call 35; (with_reducible refine (HSm.out _).mono ?_); rintro e w2 ⟨rfl, hb⟩; have HB2 := hid (below_out HB.out hb); have HO2 := hid (own_over HO.out hb); have y1 := cell_keep hb c1; clear hb HSm))
        go_roundg (n - (i + 1) + 1)
        case measure => omega
        case rel => exact ⟨i + 1, q, m, d, rfl, by go_num, by omega, rfl, (by rw [HY.out]; exact HM.out), (by unfold RowB; rw [HY.out, ← HM.out]; exact HO2.out), HB2.out⟩
    · obtain rfl : i = n := by omega
      have hltI : ¬ (i : Int) < (i : Int) := by omega
      have HT := hid (show fs.take i = fs from List.take_of_length_le (by rw [HN.out]; exact Nat.le_refl _))
      clear hlt
      go_wp2
      go_ret
      exact ⟨_, rfl, (by unfold RowB; have h1 := HO.out; have h2 := HM.out; rw [HT.out] at h1 h2; rw [← h2]; exact h1), HB.out⟩
end Go.Proofs.YthakldcfpndabaaDoor
