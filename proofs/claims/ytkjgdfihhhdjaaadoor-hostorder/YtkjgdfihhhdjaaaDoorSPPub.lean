/- Patterns read, by the program; whether a key fits; the order of shapes; Canon, Check. -/
import Derived.Test.YtkjgdfihhhdjaaaDoorSPUnd
namespace Go.Proofs.YtkjgdfihhhdjaaaDoor
open Go.RowKit

theorem labs_cut {wild : Bool} {s : B} {x : List B} (h : labsH wild s = some x) : x = cutH (lowH s) ∧ s.length ≤ 253 ∧ x.all (okP wild) = true := by
  rw [labsH_low] at h
  split at h
  · cases h
  · rename_i h1
    split at h
    · rename_i h2
      have := Option.some.inj h
      subst this
      exact ⟨rfl, by omega, h2⟩
    · cases h
theorem labs_nodot {wild : Bool} {s : B} {x : List B} (h : labsH wild s = some x) : noDot x := by
  obtain ⟨rfl, _⟩ := labs_cut h
  exact fun y hy => cutH_nodot _ y hy
theorem labs_mem_len {wild : Bool} {s : B} {x : List B} (h : labsH wild s = some x) : ∀ t ∈ x, t.length ≤ 253 := by
  obtain ⟨rfl, h1, _⟩ := labs_cut h
  intro t ht
  have := cutH_mem_len ht
  rw [low_len] at this
  omega
theorem labs_len {wild : Bool} {s : B} {x : List B} (h : labsH wild s = some x) : x.length ≤ 254 := (labsH_some h).2.2.2.1
theorem pat_nodot {s : B} {x : List B} (h : patH s = some x) : noDot x := by
  rcases patH_some h with ⟨_, rfl⟩ | ⟨_, h1, _⟩
  · intro y hy; simp at hy
  · exact labs_nodot h1
theorem pat_len {s : B} {x : List B} (h : patH s = some x) : x.length ≤ 254 := by
  rcases patH_some h with ⟨_, rfl⟩ | ⟨_, h1, _⟩
  · exact Nat.zero_le _
  · exact labs_len h1
set_option maxRecDepth 20000 in
set_option maxHeartbeats 4000000 in
theorem order_any (a b : B) (ha : a.length ≤ 254) (hb : b.length ≤ 254) (w : World) : Calls Tryd.prog 39 #[.string (str a), .string (str b)] w fun e w' => e = .returned (.int .i64 (ordO a b)) ∧ w' = w := by
  have HC := hid (fun W : World => Tryd.strings_Compare (str a) (str b) W)
  rw [show (str a).data.toList = a by simp, show (str b).data.toList = b by simp] at HC
  obtain ⟨n, hn⟩ : ∃ n, a.length = n := ⟨_, rfl⟩
  obtain ⟨m, hm⟩ : ∃ m, b.length = m := ⟨_, rfl⟩
  obtain ⟨S, hS⟩ : ∃ S, str a = S := ⟨_, rfl⟩
  obtain ⟨T, hT⟩ : ∃ T, str b = T := ⟨_, rfl⟩
  have hSn : S.size = n := by rw [← hS, str_size, hn]
  have hTn : T.size = m := by rw [← hT, str_size, hm]
  rw [hS, hT] at HC
  rw [hn] at ha
  rw [hm] at hb
  by_cases ea : a = []
  · have HO := hid (show ordO a b = (m : Int) - (n : Int) from by unfold ordO; rw [if_pos (.inl ea), hn, hm])
    obtain rfl : (⟨#[]⟩ : ByteArray) = S := by rw [← hS, ea]
    obtain rfl : 0 = n := by rw [← hn, ea]; rfl
    rw [HO.out, hS, hT]
    clear hS hT hn hm ea
    go_enter Tryd.func39, Tryd.ntmps39
    go_wp2
    go_ret
    exact ⟨by first | (congr 2; done) | (rw [show (((0 : Nat) : Int) - (n : Int)) = -(n : Int) by omega]; rfl), rfl⟩
  · have hne1 : ¬ S = (⟨#[]⟩ : ByteArray) := fun e => ea (str_inj (by rw [hS, e]))
    have hne2 : (S.toList == (⟨#[]⟩ : ByteArray).toList) = false := ne_list hne1
    have hne3 : S.toList.isEmpty = false := ne_empty hne1
    have hne4 : (S.toList == []) = false := by have h := hne2; rw [ByteArray.toList_eq, ByteArray.toList_eq] at h; rw [ByteArray.toList_eq]; exact h
    by_cases eb : b = []
    · have HO := hid (show ordO a b = (m : Int) - (n : Int) from by unfold ordO; rw [if_pos (.inr eb), hn, hm])
      obtain rfl : (⟨#[]⟩ : ByteArray) = T := by rw [← hT, eb]
      obtain rfl : 0 = m := by rw [← hm, eb]; rfl
      rw [HO.out, hS, hT]
      clear hS hT hn hm eb
      go_enter Tryd.func39, Tryd.ntmps39
      go_wp2
      go_ret
      exact ⟨by first | (congr 2; done) | (rw [show (((0 : Nat) : Int) - (n : Int)) = -(n : Int) by omega]; rfl), rfl⟩
    · have HO := hid (show ordO a b = Lib.compareBytes a b from by unfold ordO; rw [if_neg (fun h => h.elim ea eb)])
      have hnf1 : ¬ T = (⟨#[]⟩ : ByteArray) := fun e => eb (str_inj (by rw [hT, e]))
      have hnf2 : (T.toList == (⟨#[]⟩ : ByteArray).toList) = false := ne_list hnf1
      have hnf3 : T.toList.isEmpty = false := ne_empty hnf1
      have hnf4 : (T.toList == []) = false := by have h := hnf2; rw [ByteArray.toList_eq, ByteArray.toList_eq] at h; rw [ByteArray.toList_eq]; exact h
      rw [HO.out, hS, hT]
      clear hS hT hn hm
      go_enter Tryd.func39, Tryd.ntmps39
      go_wp2_with (go_at_call 53; (with_reducible refine (HC.out _).mono ?_); rintro e w1 ⟨rfl, rfl⟩)
      go_ret
      exact ⟨rfl, rfl⟩
def parV (o : Option (List B)) : Value := match o with
  | none => .tuple #[keyV [] [], err3]
  | some x => .tuple #[keyV (keyS x).1 (keyS x).2, .nilIface]
theorem parse_below {w w3 : World} (h : Below (w.alloc (.cells #[.string ⟨#[]⟩, .string ⟨#[]⟩] 75 (0, 0))).heap.size (w.alloc (.cells #[.string ⟨#[]⟩, .string ⟨#[]⟩] 75 (0, 0))) w3) (o : Obj) (a b : Value) : Below w.heap.size w (((w3.alloc o).setCell ⟨w.heap.size, 0, none⟩ a).setCell ⟨w.heap.size, 1, none⟩ b) := by
  have hs := h.size
  rw [show (w.alloc (.cells #[.string ⟨#[]⟩, .string ⟨#[]⟩] 75 (0, 0))).heap.size = w.heap.size + 1 by simp] at hs
  have h1 : Below w.heap.size w w3 := (below_new w _).trans (h.mono (by simp))
  have h2 : Below w.heap.size w (w3.alloc o) := h1.trans ((below_new w3 o).mono (by omega))
  exact (h2.setCell (Nat.le_refl _) a).setCell (Nat.le_refl _) b
set_option maxRecDepth 20000 in
set_option maxHeartbeats 4000000 in
theorem parse_any (s : B) (hs : s.length ≤ 9223372036854775807) (w : World) (hmx : MxAt w) : Calls Tryd.prog 36 #[.string (str s)] w fun e w' => e = .returned (parV (patH s)) ∧ Below w.heap.size w w' := by
  by_cases h0 : s = []
  · subst h0
    rw [show str [] = (⟨#[]⟩ : ByteArray) from rfl]
    go_enter Tryd.func36, Tryd.ntmps36
    go_wp2
    refine bodyPost_ret (results_key rfl _ _ w.heap.size 75 _ (0, 0) rfl (heap_alloc_new w _) rfl) rfl ?_
    exact ⟨rfl, below_new _ _⟩
  · have HL := hid (fun (W : World) (h : MxAt W) => plabels_any s true hs W h)
    have HM := hid (hmx.next (below_new w (.cells #[.string ⟨#[]⟩, .string ⟨#[]⟩] 75 (0, 0))))
    obtain ⟨S, hS⟩ : ∃ S, str s = S := ⟨_, rfl⟩
    have hne1 : ¬ S = (⟨#[]⟩ : ByteArray) := fun e => h0 (str_inj (by rw [hS, e]))
    have hne2 : (S.toList == (⟨#[]⟩ : ByteArray).toList) = false := ne_list hne1
    have hne3 : S.toList.isEmpty = false := ne_empty hne1
    have hne4 : (S.toList == []) = false := by have h := hne2; rw [ByteArray.toList_eq, ByteArray.toList_eq] at h; rw [ByteArray.toList_eq]; exact h
    rw [hS] at HL ⊢
    rw [patH_ne h0]
    clear hS h0 hmx
    cases hl : labsH true s with
    | none =>
      rw [hl] at HL
      unfold PLab at HL
      dsimp only at HL
      clear hl
      go_enter Tryd.func36, Tryd.ntmps36
      go_wp2_with (go_at_call 29; (with_reducible refine (HL.out _ HM.out).mono ?_); rintro e w1 ⟨hb, rfl⟩; have HB := hid hb; have hbx := (hb.block w.heap.size (by simp)).trans (heap_alloc_new w (.cells #[.string ⟨#[]⟩, .string ⟨#[]⟩] 75 (0, 0))); obtain ⟨hq0, hq1, hq2, hq3⟩ := box_facts hbx; obtain ⟨hq4, hq5, hq6, hq7⟩ := box_facts (heap_set1 (o := 0) (v := .string ⟨#[]⟩) hbx); clear hb HL HM)
      refine bodyPost_ret (results_key rfl _ _ w.heap.size 75 _ (0, 0) rfl (heap_two hbx _ _) rfl) rfl ?_
      exact ⟨rfl, ((below_new w _).trans (HB.out.mono (by simp))).setCell (Nat.le_refl _) _ |>.setCell (Nat.le_refl _) _⟩
    | some x =>
      have HU := hid (fun (W : World) (q : Option Addr) (d : Nat) (h : LbAt W q x) => under_any x q x.length d rfl (labs_len hl) (labs_mem_len hl) (shapeS x) (by rw [shape_len]; exact labs_len hl) W h)
      have HSh := hid (fun (W : World) (q : Option Addr) (d : Nat) (h : LbAt W q x) => shapeOf_any x q x.length d rfl (labs_len hl) W h)
      rw [under_self] at HU
      rw [hl] at HL
      unfold PLab at HL
      dsimp only at HL
      unfold parV undV at *
      dsimp only at *
      have hxl := labs_len hl
      obtain ⟨n, hn⟩ : ∃ n, x.length = n := ⟨_, rfl⟩
      rw [hn] at HU HSh HL hxl
      obtain ⟨SH, hSH⟩ : ∃ S, str (shapeS x) = S := ⟨_, rfl⟩
      obtain ⟨PL, hPL⟩ : ∃ S, str (keyS x).2 = S := ⟨_, rfl⟩
      have hk1 : (keyS x).1 = shapeS x := rfl
      unfold keyV at HU ⊢
      rw [hSH, hPL] at HU
      rw [hSH] at HSh
      rw [hk1, hSH, hPL]
      clear hSH hPL hl hn hk1
      go_enter Tryd.func36, Tryd.ntmps36
      go_wp2_with (first | (go_at_call 29; (with_reducible refine (HL.out _ HM.out).mono ?_); rintro e w1 ⟨hb, q1, d1, rfl, ho⟩; have HB := hid hb; have HT := hid ho.lb; clear hb ho HL HM) | (go_at_call 52; (with_reducible refine (HSh.out _ _ _ HT.out).mono ?_); rintro e w2 ⟨rfl, hb2⟩; have HT2 := hid (HT.out.next hb2); have HB2 := hid (below_out HB.out hb2); clear hb2 HSh HB HT) | (go_at_call 43; (with_reducible refine (HU.out _ _ _ HT2.out).mono ?_); rintro e w3 ⟨rfl, hb3⟩; have HB3 := hid (below_out HB2.out hb3); have hbx := (HB3.out.block w.heap.size (by simp)).trans (heap_alloc_new w (.cells #[.string ⟨#[]⟩, .string ⟨#[]⟩] 75 (0, 0))); have hbx2 := ((below_new w3 (.cells #[.string SH, .string PL] 75 (0, 0))).block w.heap.size (lt_of_heap hbx)).trans hbx; obtain ⟨hq0, hq1, hq2, hq3⟩ := box_facts hbx2; obtain ⟨hq4, hq5, hq6, hq7⟩ := box_facts (heap_set1 (o := 0) (v := .string SH) hbx2); clear hb3 HU HT2 HB2))
      refine bodyPost_ret (results_key rfl _ _ w.heap.size 75 _ (0, 0) rfl (heap_two hbx2 _ _) rfl) rfl ?_
      exact ⟨rfl, parse_below HB3.out _ _ _⟩
end Go.Proofs.YtkjgdfihhhdjaaaDoor
