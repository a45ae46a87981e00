/- Fits and Beats, by the program. -/
import Derived.Test.YtkjgdfihhhdjaaaDoorSPFit
namespace Go.Proofs.YtkjgdfihhhdjaaaDoor
open Go.RowKit

/-- A key in a box. -/
def KBox (w : World) (g : Nat) (A C : ByteArray) : Prop := w.heap[g]? = some (.cells #[.string A, .string C] 75 (0, 0))
theorem KBox.next {w w' : World} {g : Nat} {A C : ByteArray} (h : KBox w g A C) (hb : Below w.heap.size w w') : KBox w' g A C := (hb.block g (lt_of_heap h)).trans h
theorem KBox.new (w : World) (A C : ByteArray) : KBox (w.alloc (.cells #[.string A, .string C] 75 (0, 0))) w.heap.size A C := heap_alloc_new w _
theorem KBox.cells {w : World} {g : Nat} {A C : ByteArray} (h : KBox w g A C) : w.cell? ⟨g, 0, none⟩ = some (.string A) ∧ w.cell? ⟨g, 1, none⟩ = some (.string C) := ⟨(box_facts h).1, (box_facts h).2.1⟩
theorem kfits_pat (x y : List B) (hx : noDot x) (hxl : x.length ≤ 254) (hy : noDot y) (p : Option Addr) (n c : Nat) (hn : y.length = n) (hnn : n ≤ 254) (hM : ∀ t ∈ y, t.length ≤ 253) (w : World) (hT : LbAt w p y) :
    Calls Tryd.prog 37 #[keyV (keyS x).1 (keyS x).2, .slice p n c] w fun e w' => e = .returned (.bool (fitsS x y)) ∧ Below w.heap.size w w' := by
  have h := kfits_any (keyS x).1 (keyS x).2 (by show (shapeS x).length ≤ 254; rw [shape_len]; exact hxl) y p n c hn hnn hM w hT
  have e : decide (underS y (keyS x).1 = some (keyS x).2) = fitsS x y := by
    rw [Bool.eq_iff_iff, decide_eq_true_eq]
    exact under_fits hx hy
  rw [e] at h
  exact h
def pfitsV (p h : B) : Value := match fitsAns p h with | none => .tuple #[.bool false, err3] | some v => .tuple #[.bool v, .nilIface]
set_option maxRecDepth 20000 in
set_option maxHeartbeats 4000000 in
theorem pFits_any (p h : B) (hp : p.length ≤ 9223372036854775807) (hh : h.length ≤ 9223372036854775807) (w : World) (hmx : MxAt w) : Calls Tryd.prog 16 #[.string (str p), .string (str h)] w fun e w' => e = .returned (pfitsV p h) ∧ Below w.heap.size w w' := by
  have HP := hid (parse_any p hp w hmx)
  have HL := hid (fun (W : World) (h9 : MxAt W) => plabels_any h false hh W h9)
  have HM := hid hmx
  obtain ⟨S, hS⟩ : ∃ S, str p = S := ⟨_, rfl⟩
  obtain ⟨T, hT⟩ : ∃ T, str h = T := ⟨_, rfl⟩
  rw [hS] at HP ⊢
  rw [hT] at HL ⊢
  clear hS hT hmx
  unfold pfitsV fitsAns
  cases hl : patH p with
  | none =>
    rw [hl] at HP
    unfold parV keyV at HP
    dsimp only at HP ⊢
    clear hl
    go_enter Tryd.func16, Tryd.ntmps16
    go_wp2_with (go_at_call 36; (with_reducible refine HP.out.mono ?_); rintro e w1 ⟨rfl, hb⟩; have HB := hid hb; clear hb HP)
    go_ret2
    exact ⟨rfl, HB.out.trans ((below_new w1 _).mono HB.out.size)⟩
  | some x =>
    rw [hl] at HP
    cases hk : labsH false h with
    | none =>
      rw [hk] at HL
      unfold parV keyV at HP
      unfold PLab at HL
      dsimp only at HP HL ⊢
      obtain ⟨SH, hSH⟩ : ∃ S, str (keyS x).1 = S := ⟨_, rfl⟩
      obtain ⟨PL, hPL⟩ : ∃ S, str (keyS x).2 = S := ⟨_, rfl⟩
      rw [hSH, hPL] at HP
      clear hSH hPL hl hk
      go_enter Tryd.func16, Tryd.ntmps16
      go_wp2_with (first | (go_at_call 36; (with_reducible refine HP.out.mono ?_); rintro e w1 ⟨rfl, hb⟩; have HB := hid (below_out hb (below_new w1 (.cells #[.string SH, .string PL] 75 (0, 0)))); clear hb HP) | (go_at_call 29; (with_reducible refine (HL.out _ (HM.out.next HB.out)).mono ?_); rintro e w2 ⟨hb, rfl⟩; have HB2 := hid (below_out HB.out hb); clear hb HL HM HB))
      go_ret2
      exact ⟨rfl, HB2.out⟩
    | some y =>
      have HF := hid (fun (W : World) (q : Option Addr) (d : Nat) (hT : LbAt W q y) => kfits_pat x y (pat_nodot hl) (pat_len hl) (labs_nodot hk) q y.length d rfl (labs_len hk) (labs_mem_len hk) W hT)
      rw [hk] at HL
      unfold parV at HP
      unfold keyV at HP HF
      unfold PLab at HL
      dsimp only at HP HL ⊢
      obtain ⟨SH, hSH⟩ : ∃ S, str (keyS x).1 = S := ⟨_, rfl⟩
      obtain ⟨PL, hPL⟩ : ∃ S, str (keyS x).2 = S := ⟨_, rfl⟩
      obtain ⟨n, hn⟩ : ∃ n, y.length = n := ⟨_, rfl⟩
      have hnn := labs_len hk
      rw [hn] at HL HF hnn
      rw [hSH, hPL] at HP HF
      obtain ⟨v, hv⟩ : ∃ v, fitsS x y = v := ⟨_, rfl⟩
      rw [hv] at HF ⊢
      clear hSH hPL hl hk hn hv
      go_enter Tryd.func16, Tryd.ntmps16
      go_wp2_with (first | (go_at_call 36; (with_reducible refine HP.out.mono ?_); rintro e w1 ⟨rfl, hb⟩; have HB := hid (below_out hb (below_new w1 (.cells #[.string SH, .string PL] 75 (0, 0)))); have HK := hid (KBox.new w1 SH PL); clear hb HP) | (go_at_call 29; (with_reducible refine (HL.out _ (HM.out.next HB.out)).mono ?_); rintro e w2 ⟨hb, q2, d2, rfl, ho⟩; have HT2 := hid ho.lb; have HB2 := hid (below_out HB.out hb); obtain ⟨hq0, hq1⟩ := (HK.out.next hb).cells; clear hb ho HL HM HB HK) | (go_at_call 37; (with_reducible refine (HF.out _ _ _ HT2.out).mono ?_); rintro e w3 ⟨rfl, hb⟩; have HB3 := hid (below_out HB2.out hb); clear hb HF HT2 HB2))
      go_ret2
      exact ⟨rfl, HB3.out⟩
def patL (p : B) : List B := (patH p).getD []
/-- What Beats answers, and its number. -/
def beatsN (a b h : B) : Bool × Nat := match fitsAns a h, fitsAns b h with
  | some true, some true => (aheadP (patL a) (patL b), 0)
  | some _, some _ => (false, 8)
  | _, _ => (false, 3)
theorem beatsV_N (a b h : B) : beatsV a b h = .tuple #[.bool (beatsN a b h).1, .int .i64 ((beatsN a b h).2 : Int)] := by
  unfold beatsV beatsN
  cases e1 : fitsAns a h with
  | none => rfl
  | some u =>
    cases e2 : fitsAns b h with
    | none => cases u <;> rfl
    | some v =>
      cases u
      · rfl
      · cases v
        · rfl
        · obtain ⟨x, y, hx, _, _⟩ := fitsAns_some e1
          obtain ⟨z, y', hz, _, _⟩ := fitsAns_some e2
          dsimp only
          unfold patL
          rw [hx, hz]
          rfl
theorem beatsN_form {a b h : B} (e : patH a = none ∨ patH b = none ∨ labsH false h = none) : beatsN a b h = (false, 3) := by
  unfold beatsN fitsAns
  rcases e with e | e | e
  · rw [e]
  · rw [e]
    cases patH a with
    | none => rfl
    | some x =>
      cases labsH false h with
      | none => rfl
      | some y => cases hf : fitsS x y <;> simp [hf]
  · rw [e]
    cases patH a <;> cases patH b <;> rfl
theorem beatsN_none {a b h : B} {x z y : List B} (ha : patH a = some x) (hb : patH b = some z) (hh : labsH false h = some y) (hf : (fitsS x y && fitsS z y) = false) : beatsN a b h = (false, 8) := by
  unfold beatsN fitsAns
  rw [ha, hb, hh]
  cases e1 : fitsS x y <;> cases e2 : fitsS z y <;> simp [e1, e2] at hf ⊢
theorem beatsN_ok {a b h : B} {x z y : List B} (ha : patH a = some x) (hb : patH b = some z) (hh : labsH false h = some y) (h1 : fitsS x y = true) (h2 : fitsS z y = true) : beatsN a b h = (aheadP x z, 0) := by
  unfold beatsN fitsAns patL
  rw [ha, hb, hh]
  simp [h1, h2]
set_option maxRecDepth 20000 in
set_option maxHeartbeats 8000000 in
theorem pBeats_any (a b h : B) (ha : a.length ≤ 9223372036854775807) (hb : b.length ≤ 9223372036854775807) (hh : h.length ≤ 9223372036854775807) (w : World) (hmx : MxAt w) : Calls Tryd.prog 18 #[.string (str a), .string (str b), .string (str h)] w fun e w' => e = .returned (.tuple #[.bool (beatsN a b h).1, errOf (beatsN a b h).2]) ∧ Below w.heap.size w w' := by
  have HP1 := hid (fun (W : World) (h9 : MxAt W) => parse_any a ha W h9)
  have HP2 := hid (fun (W : World) (h9 : MxAt W) => parse_any b hb W h9)
  have HL := hid (fun (W : World) (h9 : MxAt W) => plabels_any h false hh W h9)
  have HM := hid hmx
  obtain ⟨S, hS⟩ : ∃ S, str a = S := ⟨_, rfl⟩
  obtain ⟨R, hR⟩ : ∃ R, str b = R := ⟨_, rfl⟩
  obtain ⟨T, hT⟩ : ∃ T, str h = T := ⟨_, rfl⟩
  rw [hS] at HP1 ⊢
  rw [hR] at HP2 ⊢
  rw [hT] at HL ⊢
  clear hS hR hT hmx ha hb hh
  cases hl : patH a with
  | none =>
    rw [hl] at HP1
    rw [beatsN_form (.inl hl)]
    unfold parV keyV at HP1
    dsimp only at HP1 ⊢
    rw [show errOf 3 = err3 from rfl]
    clear hl
    go_enter Tryd.func18, Tryd.ntmps18
    go_wp2_with (go_at_call 36; (with_reducible refine (HP1.out _ HM.out).mono ?_); rintro e w1 ⟨rfl, hb⟩; have HB := hid hb; clear hb HP1)
    go_ret2
    exact ⟨rfl, HB.out.trans ((below_new w1 _).mono HB.out.size)⟩
  | some x =>
    rw [hl] at HP1
    unfold parV keyV at HP1
    dsimp only at HP1
    have HSx := hid (show (keyS x).1 = shapeS x from rfl)
    obtain ⟨SH, hSH⟩ : ∃ S, str (keyS x).1 = S := ⟨_, rfl⟩
    obtain ⟨PL, hPL⟩ : ∃ S, str (keyS x).2 = S := ⟨_, rfl⟩
    rw [hSH, hPL] at HP1
    cases hm : patH b with
    | none =>
      rw [hm] at HP2
      rw [beatsN_form (.inr (.inl hm))]
      unfold parV keyV at HP2
      dsimp only at HP2 ⊢
      rw [show errOf 3 = err3 from rfl]
      clear hl hm hSH hPL
      go_enter Tryd.func18, Tryd.ntmps18
      go_wp2_with (go_at_call 36; first | ((with_reducible refine (HP1.out _ HM.out).mono ?_); rintro e w1 ⟨rfl, hb⟩; have HB1 := hid (below_out hb (below_new w1 (.cells #[.string SH, .string PL] 75 (0, 0)))); have HK0 := hid (KBox.new w1 SH PL); clear hb HP1) | ((with_reducible refine (HP2.out _ (HM.out.next HB1.out)).mono ?_); rintro e w2 ⟨rfl, hb⟩; have HB := hid (below_out HB1.out hb); clear hb HP2))
      go_ret2
      exact ⟨rfl, HB.out.trans ((below_new w2 _).mono HB.out.size)⟩
    | some z =>
      rw [hm] at HP2
      unfold parV keyV at HP2
      dsimp only at HP2
      obtain ⟨SI, hSI⟩ : ∃ S, str (keyS z).1 = S := ⟨_, rfl⟩
      obtain ⟨PM, hPM⟩ : ∃ S, str (keyS z).2 = S := ⟨_, rfl⟩
      rw [hSI, hPM] at HP2
      cases hk : labsH false h with
      | none =>
        rw [hk] at HL
        rw [beatsN_form (.inr (.inr hk))]
        unfold PLab at HL
        dsimp only at HL ⊢
        rw [show errOf 3 = err3 from rfl]
        clear hl hm hk hSH hPL hSI hPM
        go_enter Tryd.func18, Tryd.ntmps18
        go_wp2_with (first | (go_at_call 36; first | ((with_reducible refine (HP1.out _ HM.out).mono ?_); rintro e w1 ⟨rfl, hb⟩; have HB1 := hid (below_out hb (below_new w1 (.cells #[.string SH, .string PL] 75 (0, 0)))); have HK0 := hid (KBox.new w1 SH PL); clear hb HP1) | ((with_reducible refine (HP2.out _ (HM.out.next HB1.out)).mono ?_); rintro e w2 ⟨rfl, hb⟩; have HK1 := hid (HK0.out.next (below_out hb (below_new w2 (.cells #[.string SI, .string PM] 75 (0, 0))))); have HB2 := hid (below_out (below_out HB1.out hb) (below_new w2 (.cells #[.string SI, .string PM] 75 (0, 0)))); have HK2 := hid (KBox.new w2 SI PM); clear hb HP2 HB1 HK0)) | (go_at_call 29; (with_reducible refine (HL.out _ (HM.out.next HB2.out)).mono ?_); rintro e w3 ⟨hb, rfl⟩; have HB3 := hid (below_out HB2.out hb); clear hb HL HM HB2))
        go_ret2
        exact ⟨rfl, HB3.out⟩
      | some y =>
        have HF1 := hid (fun (W : World) (q : Option Addr) (d : Nat) (hT : LbAt W q y) => kfits_pat x y (pat_nodot hl) (pat_len hl) (labs_nodot hk) q y.length d rfl (labs_len hk) (labs_mem_len hk) W hT)
        have HF2 := hid (fun (W : World) (q : Option Addr) (d : Nat) (hT : LbAt W q y) => kfits_pat z y (pat_nodot hm) (pat_len hm) (labs_nodot hk) q y.length d rfl (labs_len hk) (labs_mem_len hk) W hT)
        have HOr := hid (fun W : World => order_any (shapeS x) (shapeS z) (by rw [shape_len]; exact pat_len hl) (by rw [shape_len]; exact pat_len hm) W)
        rw [hk] at HL
        unfold keyV at HF1 HF2
        unfold PLab at HL
        dsimp only at HL
        obtain ⟨n, hn⟩ : ∃ n, y.length = n := ⟨_, rfl⟩
        have hnn := labs_len hk
        rw [hn] at HL HF1 HF2 hnn
        rw [hSH, hPL] at HF1
        rw [hSI, hPM] at HF2
        rw [show str (shapeS x) = SH from hSH, show str (shapeS z) = SI from hSI] at HOr
        cases f1 : fitsS x y with
        | false =>
          rw [f1] at HF1
          rw [beatsN_none hl hm hk (by rw [f1]; rfl)]
          dsimp only
          rw [show errOf 8 = .iface 72 (.int .i64 8) from rfl]
          clear hl hm hk hSH hPL hSI hPM hn f1 HF2 HOr
          go_enter Tryd.func18, Tryd.ntmps18
          go_wp2_with (first | (go_at_call 36; first | ((with_reducible refine (HP1.out _ HM.out).mono ?_); rintro e w1 ⟨rfl, hb⟩; have HB1 := hid (below_out hb (below_new w1 (.cells #[.string SH, .string PL] 75 (0, 0)))); have HK0 := hid (KBox.new w1 SH PL); clear hb HP1) | ((with_reducible refine (HP2.out _ (HM.out.next HB1.out)).mono ?_); rintro e w2 ⟨rfl, hb⟩; have HK1 := hid (HK0.out.next (below_out hb (below_new w2 (.cells #[.string SI, .string PM] 75 (0, 0))))); have HB2 := hid (below_out (below_out HB1.out hb) (below_new w2 (.cells #[.string SI, .string PM] 75 (0, 0)))); have HK2 := hid (KBox.new w2 SI PM); clear hb HP2 HB1 HK0)) | (go_at_call 29; (with_reducible refine (HL.out _ (HM.out.next HB2.out)).mono ?_); rintro e w3 ⟨hb, q3, d3, rfl, ho⟩; have HT3 := hid ho.lb; have HB3 := hid (below_out HB2.out hb); have HK3 := hid (HK1.out.next hb); have HK4 := hid (HK2.out.next hb); obtain ⟨hq0, hq1⟩ := HK3.out.cells; obtain ⟨hq2, hq3⟩ := HK4.out.cells; clear hb ho HL HM HB2 HK1 HK2) | (go_at_call 37; (with_reducible refine (HF1.out _ _ _ HT3.out).mono ?_); rintro e w4 ⟨rfl, hb⟩; have HB4 := hid (below_out HB3.out hb); clear hb HF1 HT3 HB3))
          go_ret2
          exact ⟨rfl, HB4.out⟩
        | true =>
          rw [f1] at HF1
          cases f2 : fitsS z y with
          | false =>
            rw [f2] at HF2
            rw [beatsN_none hl hm hk (by rw [f1, f2]; rfl)]
            dsimp only
            rw [show errOf 8 = .iface 72 (.int .i64 8) from rfl]
            clear hl hm hk hSH hPL hSI hPM hn f1 f2 HOr
            go_enter Tryd.func18, Tryd.ntmps18
            go_wp2_with (first | (go_at_call 36; first | ((with_reducible refine (HP1.out _ HM.out).mono ?_); rintro e w1 ⟨rfl, hb⟩; have HB1 := hid (below_out hb (below_new w1 (.cells #[.string SH, .string PL] 75 (0, 0)))); have HK0 := hid (KBox.new w1 SH PL); clear hb HP1) | ((with_reducible refine (HP2.out _ (HM.out.next HB1.out)).mono ?_); rintro e w2 ⟨rfl, hb⟩; have HK1 := hid (HK0.out.next (below_out hb (below_new w2 (.cells #[.string SI, .string PM] 75 (0, 0))))); have HB2 := hid (below_out (below_out HB1.out hb) (below_new w2 (.cells #[.string SI, .string PM] 75 (0, 0)))); have HK2 := hid (KBox.new w2 SI PM); clear hb HP2 HB1 HK0)) | (go_at_call 29; (with_reducible refine (HL.out _ (HM.out.next HB2.out)).mono ?_); rintro e w3 ⟨hb, q3, d3, rfl, ho⟩; have HT3 := hid ho.lb; have HB3 := hid (below_out HB2.out hb); have HK3 := hid (HK1.out.next hb); have HK4 := hid (HK2.out.next hb); obtain ⟨hq0, hq1⟩ := HK3.out.cells; obtain ⟨hq2, hq3⟩ := HK4.out.cells; clear hb ho HL HM HB2 HK1 HK2) | (go_at_call 37; first | ((with_reducible refine (HF1.out _ _ _ HT3.out).mono ?_); rintro e w4 ⟨rfl, hb⟩; have HB4 := hid (below_out HB3.out hb); have HT4 := hid (HT3.out.next hb); have HK5 := hid (HK3.out.next hb); have HK6 := hid (HK4.out.next hb); obtain ⟨hq4, hq5⟩ := HK5.out.cells; obtain ⟨hq6, hq7⟩ := HK6.out.cells; clear hb HF1 HT3 HB3) | ((with_reducible refine (HF2.out _ _ _ HT4.out).mono ?_); rintro e w5 ⟨rfl, hb⟩; have HB5 := hid (below_out HB4.out hb); obtain ⟨hq8, hq9⟩ := (HK5.out.next hb).cells; obtain ⟨hqa, hqb⟩ := (HK6.out.next hb).cells; clear hb HF2 HT4 HB4)))
            go_ret2
            exact ⟨rfl, HB5.out⟩
          | true =>
            rw [f2] at HF2
            rw [beatsN_ok hl hm hk f1 f2, ahead_ord f1 f2]
            dsimp only
            rw [errOf_zero]
            obtain ⟨o, ho⟩ : ∃ o, ordO (shapeS x) (shapeS z) = o := ⟨_, rfl⟩
            rw [ho] at HOr ⊢
            clear hl hm hk hSH hPL hSI hPM hn f1 f2 ho
            go_enter Tryd.func18, Tryd.ntmps18
            go_wp2_with (first | (go_at_call 36; first | ((with_reducible refine (HP1.out _ HM.out).mono ?_); rintro e w1 ⟨rfl, hb⟩; have HB1 := hid (below_out hb (below_new w1 (.cells #[.string SH, .string PL] 75 (0, 0)))); have HK0 := hid (KBox.new w1 SH PL); clear hb HP1) | ((with_reducible refine (HP2.out _ (HM.out.next HB1.out)).mono ?_); rintro e w2 ⟨rfl, hb⟩; have HK1 := hid (HK0.out.next (below_out hb (below_new w2 (.cells #[.string SI, .string PM] 75 (0, 0))))); have HB2 := hid (below_out (below_out HB1.out hb) (below_new w2 (.cells #[.string SI, .string PM] 75 (0, 0)))); have HK2 := hid (KBox.new w2 SI PM); clear hb HP2 HB1 HK0)) | (go_at_call 29; (with_reducible refine (HL.out _ (HM.out.next HB2.out)).mono ?_); rintro e w3 ⟨hb, q3, d3, rfl, ho⟩; have HT3 := hid ho.lb; have HB3 := hid (below_out HB2.out hb); have HK3 := hid (HK1.out.next hb); have HK4 := hid (HK2.out.next hb); obtain ⟨hq0, hq1⟩ := HK3.out.cells; obtain ⟨hq2, hq3⟩ := HK4.out.cells; clear hb ho HL HM HB2 HK1 HK2) | (go_at_call 37; first | ((with_reducible refine (HF1.out _ _ _ HT3.out).mono ?_); rintro e w4 ⟨rfl, hb⟩; have HB4 := hid (below_out HB3.out hb); have HT4 := hid (HT3.out.next hb); have HK5 := hid (HK3.out.next hb); have HK6 := hid (HK4.out.next hb); obtain ⟨hq4, hq5⟩ := HK5.out.cells; obtain ⟨hq6, hq7⟩ := HK6.out.cells; clear hb HF1 HT3 HB3) | ((with_reducible refine (HF2.out _ _ _ HT4.out).mono ?_); rintro e w5 ⟨rfl, hb⟩; have HB5 := hid (below_out HB4.out hb); obtain ⟨hq8, hq9⟩ := (HK5.out.next hb).cells; obtain ⟨hqa, hqb⟩ := (HK6.out.next hb).cells; clear hb HF2 HT4 HB4)) | (go_at_call 39; (with_reducible refine (HOr.out _).mono ?_); rintro e w6 ⟨rfl, rfl⟩))
            go_ret2
            exact ⟨rfl, HB5.out⟩
end Go.Proofs.YtkjgdfihhhdjaaaDoor
