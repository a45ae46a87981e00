/- Whether a key fits a host, Canon, Check, Fits, Beats, by the program. -/
import Derived.Test.YtkjgdfihhhdjaaaDoorSPPub
namespace Go.Proofs.YtkjgdfihhhdjaaaDoor
open Go.RowKit

set_option maxRecDepth 20000 in
set_option maxHeartbeats 4000000 in
theorem kfits_any (a b : B) (ha : a.length ≤ 254) (y : List B) (p : Option Addr) (n c : Nat) (hn : y.length = n) (hnn : n ≤ 254) (hM : ∀ x ∈ y, x.length ≤ 253) (w : World) (hT : LbAt w p y) :
    Calls Tryd.prog 37 #[keyV a b, .slice p n c] w fun e w' => e = .returned (.bool (decide (underS y a = some b))) ∧ Below w.heap.size w w' := by
  have HU := hid (fun (W : World) (h : LbAt W p y) => under_any y p n c hn hnn hM a ha W h)
  have HT := hid (hT.next (below_new w (.cells #[.string (str a), .string (str b)] 75 (0, 0))))
  unfold keyV
  obtain ⟨SA, hSA⟩ : ∃ S, str a = S := ⟨_, rfl⟩
  obtain ⟨SB, hSB⟩ : ∃ S, str b = S := ⟨_, rfl⟩
  rw [hSA, hSB] at HT
  rw [hSA] at HU
  rw [hSA, hSB]
  cases hu : underS y a with
  | none =>
    rw [hu] at HU
    unfold undV at HU
    dsimp only at HU
    rw [decide_eq_false (by simp)]
    clear hSA hSB hT hM hn hu
    go_enter Tryd.func37, Tryd.ntmps37
    go_wp2_with (go_at_call 43; (with_reducible refine (HU.out _ HT.out).mono ?_); rintro e w1 ⟨rfl, hb⟩; have HB := hid hb; clear hb HU HT)
    go_ret
    exact ⟨rfl, (below_out (below_new w _) HB.out).trans ((below_new w1 _).mono (below_out (below_new w _) HB.out).size)⟩
  | some pl =>
    rw [hu] at HU
    unfold undV keyV at HU
    dsimp only at HU
    obtain ⟨SP, hSP⟩ : ∃ S, str pl = S := ⟨_, rfl⟩
    rw [hSA, hSP] at HU
    have hqb : ∀ W : World, Below (w.alloc (.cells #[.string SA, .string SB] 75 (0, 0))).heap.size (w.alloc (.cells #[.string SA, .string SB] 75 (0, 0))) W → ∀ o, (W.alloc o).cell? ⟨w.heap.size, 0, none⟩ = some (.string SA) ∧ (W.alloc o).cell? ⟨w.heap.size, 1, none⟩ = some (.string SB) := fun W hW o => by
      have h1 := (hW.block w.heap.size (by simp)).trans (heap_alloc_new w _)
      have h2 := ((below_new W o).block w.heap.size (lt_of_heap h1)).trans h1
      exact ⟨(box_facts h2).1, (box_facts h2).2.1⟩
    by_cases he : pl = b
    · rw [decide_eq_true (by rw [he])]
      obtain rfl : SB = SP := by rw [← hSB, ← hSP, he]
      have HQ := hid hqb
      clear hSA hSB hSP hT hM hn hu he hqb
      go_enter Tryd.func37, Tryd.ntmps37
      go_wp2_with (go_at_call 43; (with_reducible refine (HU.out _ HT.out).mono ?_); rintro e w1 ⟨rfl, hb⟩; have HB := hid hb; obtain ⟨hq0, hq1⟩ := HQ.out w1 hb (.cells #[.string SA, .string SB] 75 (0, 0)); clear hb HU HT HQ)
      go_ret
      exact ⟨rfl, (below_out (below_new w _) HB.out).trans ((below_new w1 _).mono (below_out (below_new w _) HB.out).size)⟩
    · rw [decide_eq_false (by intro e; exact he (Option.some.inj e))]
      have hs1 : ¬ SP = SB := fun e => he (str_inj (by rw [hSP, hSB, e]))
      have hs2 : (SP.toList == SB.toList) = false := ne_list hs1
      have HQ := hid hqb
      clear hSA hSB hSP hT hM hn hu he hqb
      go_enter Tryd.func37, Tryd.ntmps37
      go_wp2_with (go_at_call 43; (with_reducible refine (HU.out _ HT.out).mono ?_); rintro e w1 ⟨rfl, hb⟩; have HB := hid hb; obtain ⟨hq0, hq1⟩ := HQ.out w1 hb (.cells #[.string SA, .string SP] 75 (0, 0)); clear hb HU HT HQ)
      go_ret
      exact ⟨rfl, (below_out (below_new w _) HB.out).trans ((below_new w1 _).mono (below_out (below_new w _) HB.out).size)⟩
set_option maxRecDepth 20000 in
set_option maxHeartbeats 4000000 in
theorem pcanon_any (s : B) (hs : s.length ≤ 9223372036854775807) (w : World) (hmx : MxAt w) : Calls Tryd.prog 8 #[.string (str s)] w fun e w' => (e = .returned (match labsH false s with | none => .tuple #[.string ⟨#[]⟩, err3] | some _ => .tuple #[.string (str (lowH s)), .nilIface])) ∧ Below w.heap.size w w' := by
  have HL := hid (fun (W : World) (h : MxAt W) => plabels_any s false (by omega) W h)
  have HLo := hid (fun W : World => lower_any (str s) W (by rw [str_size]; unfold maxLen; omega))
  rw [lowS_strH] at HLo
  have HM := hid hmx
  obtain ⟨S, hS⟩ : ∃ S, str s = S := ⟨_, rfl⟩
  obtain ⟨SL, hSL⟩ : ∃ S, str (lowH s) = S := ⟨_, rfl⟩
  rw [hS] at HL HLo ⊢
  rw [hSL] at HLo ⊢
  clear hS hSL hmx
  cases hl : labsH false s with
  | none =>
    rw [hl] at HL
    unfold PLab at HL
    dsimp only at HL
    clear hl
    go_enter Tryd.func8, Tryd.ntmps8
    go_wp2_with (go_at_call 29; (with_reducible refine (HL.out _ HM.out).mono ?_); rintro e w1 ⟨hb, rfl⟩; have HB := hid hb; clear hb HL HM)
    go_ret2
    exact ⟨rfl, HB.out⟩
  | some x =>
    rw [hl] at HL
    unfold PLab at HL
    dsimp only at HL
    have hxl := labs_len hl
    obtain ⟨n, hn⟩ : ∃ n, x.length = n := ⟨_, rfl⟩
    rw [hn] at HL hxl
    clear hl hn
    go_enter Tryd.func8, Tryd.ntmps8
    go_wp2_with (first | (go_at_call 29; (with_reducible refine (HL.out _ HM.out).mono ?_); rintro e w1 ⟨hb, q1, d1, rfl, ho⟩; have HB := hid hb; clear hb ho HL HM) | (go_at_call 30; (with_reducible refine (HLo.out _).mono ?_); rintro e w2 ⟨rfl, hb2⟩; have HB2 := hid (below_out HB.out hb2); clear hb2 HLo HB))
    go_ret2
    exact ⟨rfl, HB2.out⟩
set_option maxRecDepth 20000 in
set_option maxHeartbeats 4000000 in
theorem pcheck_any (s : B) (hs : s.length ≤ 9223372036854775807) (w : World) (hmx : MxAt w) : Calls Tryd.prog 13 #[.string (str s)] w fun e w' => e = .returned (if (patH s).isSome then .nilIface else err3) ∧ Below w.heap.size w w' := by
  have HP := hid (parse_any s hs w hmx)
  obtain ⟨S, hS⟩ : ∃ S, str s = S := ⟨_, rfl⟩
  rw [hS] at HP ⊢
  clear hS hmx
  cases hl : patH s with
  | none =>
    rw [hl] at HP
    unfold parV keyV at HP
    dsimp only at HP
    clear hl
    go_enter Tryd.func13, Tryd.ntmps13
    go_wp2_with (go_at_call 36; (with_reducible refine HP.out.mono ?_); rintro e w1 ⟨rfl, hb⟩; have HB := hid hb; clear hb HP)
    go_ret
    exact ⟨rfl, HB.out.trans ((below_new w1 _).mono HB.out.size)⟩
  | some x =>
    rw [hl] at HP
    unfold parV keyV at HP
    dsimp only at HP
    obtain ⟨SH, hSH⟩ : ∃ S, str (keyS x).1 = S := ⟨_, rfl⟩
    obtain ⟨PL, hPL⟩ : ∃ S, str (keyS x).2 = S := ⟨_, rfl⟩
    rw [hSH, hPL] at HP
    clear hSH hPL hl
    go_enter Tryd.func13, Tryd.ntmps13
    go_wp2_with (go_at_call 36; (with_reducible refine HP.out.mono ?_); rintro e w1 ⟨rfl, hb⟩; have HB := hid hb; clear hb HP)
    go_ret
    exact ⟨rfl, HB.out.trans ((below_new w1 _).mono HB.out.size)⟩
end Go.Proofs.YtkjgdfihhhdjaaaDoor
