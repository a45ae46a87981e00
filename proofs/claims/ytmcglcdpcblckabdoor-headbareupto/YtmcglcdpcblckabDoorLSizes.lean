/- The law of sizes. -/
import Derived.Test.YtmcglcdpcblckabDoorHWritten
import Derived.Test.YtmcglcdpcblckabDoorPSure
import Derived.Test.YtmcglcdpcblckabDoorAs
namespace Go.Proofs.YtmcglcdpcblckabDoor
open Go.RowKit

/-- What the law's num asks of memory. -/
def EnvE (w : World) : Prop := w.cell? ⟨0, 0, none⟩ = some (.iface 78 (.agg #[.pointer (some ⟨1, 30, none⟩)]))
theorem EnvE.next {w w' : World} (h : EnvE w) (hb : Below w.heap.size w w') : EnvE w' := cell_keep hb h
theorem num_any (k : Nat) (w : World) (he : EnvE w) : Calls Tryd.prog 8 #[errOf k] w fun e w' => e = .returned (.int .i64 (k : Int)) ∧ Below w.heap.size w w' := by
  by_cases hk : k = 0
  · subst hk
    exact num_nil w
  · rw [errOf_pos hk]
    exact num_err (k : Int) w he
theorem okQ_parts {m t : B} {k : Int} {fs : List (B × B)} (h : okQ m t k fs = true) : (m ≠ [] ∧ allB 0 m = true) ∧ t ≠ [] ∧ allB 1 t = true ∧ (k = 0 ∨ k = 1) ∧ fineF fs ∧ fs.length ≤ 64 := by
  unfold okQ at h
  simp only [Bool.and_eq_true, decide_eq_true_eq] at h
  obtain ⟨⟨⟨⟨⟨h1, h2⟩, h3⟩, h4⟩, h5⟩, h6⟩ := h
  unfold fineB at h6
  simp only [Bool.and_eq_true, decide_eq_true_eq] at h6
  refine ⟨(isTok_str m).1 h1, h2, h3, by omega, fun f hf => ?_, h6.1⟩
  have := List.all_eq_true.1 h6.2 f hf
  unfold okF at this
  simp only [Bool.and_eq_true, decide_eq_true_eq] at this
  have h7 := (isTok_str f.1).1 this.1.1
  exact ⟨h7.1, h7.2, this.1.2, this.2⟩
def verC (k : Int) : UInt8 := if k = 0 then 48 else 49
theorem verC_or (k : Int) : verC k = 48 ∨ verC k = 49 := by unfold verC; split <;> simp
theorem headW_len (first : B) (fs : List (B × B)) : (headW first fs).length = (preW first fs).length + 1 := by unfold headW; simp
theorem read_request {m t : B} {k : Int} {fs : List (B × B)} {most : Int} (h : okQ m t k fs = true) (hl : ((headW (firstQ m t (verC k)) fs).length : Int) ≤ most) :
    ∃ s, feedP (newP false most) (headW (firstQ m t (verC k)) fs) = s ∧ s.st = 11 ∧ s.err = 0 ∧ s.resp = false ∧ s.taken = (headW (firstQ m t (verC k)) fs).length ∧ s.method = m ∧ s.target = t ∧ s.minor = byteNum (verC k) ∧ s.fields = fs := by
  obtain ⟨⟨h1, h2⟩, h3, h4, h5, h6, h7⟩ := okQ_parts h
  rw [headW_len] at hl ⊢
  obtain ⟨s, e, a1, a2, a3, a4, a5, a6, a7, a8, a9, a10⟩ := feed_request (most := most) h1 h2 h3 h4 (verC_or k) h6 h7 (by omega)
  refine ⟨_, rfl, ?_⟩
  unfold headW
  rw [feed_app, e, feed_last a1 a3 (by rw [a10]; exact h7) (by rw [a6, a5]; omega)]
  exact ⟨rfl, a3, a4, by dsimp only; rw [a6], a7, a8, a9, a10⟩
theorem read_large {m t : B} {k : Int} {fs : List (B × B)} {most : Int} (h : okQ m t k fs = true) (hl : ((headW (firstQ m t (verC k)) fs).length : Int) = most + 1) :
    feedP (newP false most) (headW (firstQ m t (verC k)) fs) = spoilP (headW (firstQ m t (verC k)) fs).length 22 := by
  obtain ⟨⟨h1, h2⟩, h3, h4, h5, h6, h7⟩ := okQ_parts h
  rw [headW_len] at hl ⊢
  obtain ⟨s, e, a1, a2, a3, a4, a5, a6, a7, a8, a9, a10⟩ := feed_request (most := most) h1 h2 h3 h4 (verC_or k) h6 h7 (by omega)
  unfold headW
  rw [feed_app, e, feed_large a1 a3 (by rw [a6, a5]; omega), a6]
theorem written_yes (m t : B) (k : Int) (fs : List (B × B)) (p : Option Addr) (n c : Nat) (hn : fs.length = n) (w : World) (hF : FAt w p fs) (hsz : ∀ f ∈ fs, f.1.length ≤ 1048576 ∧ f.2.length ≤ 1048576) (hnn : n ≤ 1048576) (hm : m.length ≤ 1048576) (ht : t.length ≤ 1048576) (hok : okQ m t k fs = true) : Calls Tryd.prog 5 #[.agg #[.string (str m), .string (str t), .int .i64 k, .slice p n c]] w fun e w' => ∃ q x d, e = .returned (.tuple #[.slice q x d, .bool (decide (x ≤ 65536))]) ∧ x = (headW (firstQ m t (verC k)) fs).length ∧ Own w' w.heap.size (.slice q x d) (headW (firstQ m t (verC k)) fs) ∧ Below w.heap.size w w' := by
  rcases (okQ_parts hok).2.2.2.1 with rfl | rfl
  · exact written_yes0 m t 0 fs p n c hn w hF hsz hnn hm ht rfl hok
  · exact written_yes1 m t 1 fs p n c hn w hF hsz hnn hm ht rfl hok
theorem headW_two (m t : B) (v : UInt8) (fs : List (B × B)) : 2 ≤ (headW (firstQ m t v) fs).length := by rw [headW_len]; unfold preW; simp; omega
set_option maxRecDepth 20000 in
set_option maxHeartbeats 8000000 in
theorem sizes_walk (m t : B) (k : Int) (fs : List (B × B)) (p : Option Addr) (n c : Nat) (hn : fs.length = n) (w : World) (hF : FAt w p fs) (hsz : ∀ f ∈ fs, f.1.length ≤ 1048576 ∧ f.2.length ≤ 1048576) (hnn : n ≤ 1048576) (hm : m.length ≤ 1048576) (ht : t.length ≤ 1048576) (he : EnvE w) : Calls Tryd.prog 3 #[.agg #[.string (str m), .string (str t), .int .i64 k, .slice p n c]] w fun e w' => e = .returned (.bool true) ∧ Below w.heap.size w w' := by
  obtain ⟨W0, hW0⟩ : ∃ W0, W0 = w.alloc (.cells #[.string (str m), .string (str t), .int .i64 k, .slice p n c] 24 (0, 0)) := ⟨_, rfl⟩
  have HB0 := hid (show Below w.heap.size w W0 from by rw [hW0]; exact below_new w _)
  have HW0 := hid hW0
  have HE := hid he
  cases hok : okQ m t k fs with
  | false =>
    have HWr := hid (written_no m t k fs p n c hn W0 (hF.next HB0.out) hsz hnn hm ht hok)
    obtain ⟨M, hM⟩ : ∃ M, str m = M := ⟨_, rfl⟩
    obtain ⟨T, hT⟩ : ∃ T, str t = T := ⟨_, rfl⟩
    rw [hM, hT] at HWr HW0
    rw [hM, hT]
    clear hF hsz hn hM hT hW0 he hok
    go_enter Tryd.func3, Tryd.ntmps3
    go_wp2_with (first | (go_at_call 5; (rw [← HW0.out]); (with_reducible refine HWr.out.mono ?_); rintro e w1 ⟨rfl, hb⟩; have HB1 := hid (HB0.out.trans (hb.mono HB0.out.size)); clear hb) | (go_at_call 6; (with_reducible refine (sure_any _).mono ?_); rintro e w9 ⟨rfl, hb⟩; have HB9 := hid (HB1.out.trans (hb.mono HB1.out.size)); clear hb))
    go_ret
    exact ⟨rfl, HB9.out⟩
  | true =>
    have HWr := hid (written_yes m t k fs p n c hn W0 (hF.next HB0.out) hsz hnn hm ht hok)
    have HRd := hid (fun (most : Int) (hl : ((headW (firstQ m t (verC k)) fs).length : Int) ≤ most) => read_request hok hl)
    have HLg := hid (fun (most : Int) (hl : ((headW (firstQ m t (verC k)) fs).length : Int) = most + 1) => read_large hok hl)
    have H2 := hid (headW_two m t (verC k) fs)
    obtain ⟨L, hL⟩ : ∃ L, headW (firstQ m t (verC k)) fs = L := ⟨_, rfl⟩
    rw [hL] at HWr HRd HLg H2
    obtain ⟨x, hx⟩ : ∃ x, L.length = x := ⟨_, rfl⟩
    have HX := hid hx
    have h2 : 2 ≤ x := by rw [← hx]; exact H2.out
    obtain ⟨M, hM⟩ : ∃ M, str m = M := ⟨_, rfl⟩
    obtain ⟨T, hT⟩ : ∃ T, str t = T := ⟨_, rfl⟩
    rw [hM, hT] at HWr HW0
    rw [hM, hT]
    by_cases hbig : x ≤ 65536
    · have hb1 : decide (x ≤ 65536) = true := decide_eq_true hbig
      have hb2 : ¬ (x : Int) < 2 := by omega
      have hb3 : decide ((65536 : Int) < (x : Int)) = false := decide_eq_false (by omega)
      have hb4 : decide (65536 < x) = false := decide_eq_false (by omega)
      have HOk := hid (show allE (feedP (newP false (x : Int)) L) = 0 ∧ (feedP (newP false (x : Int)) L).taken = x from by
        obtain ⟨s, e1, e2, e3, e4, e5, _⟩ := HRd.out (x : Int) (by rw [hx]; exact Int.le_refl _)
        rw [e1]
        refine ⟨by unfold allE; rw [e3, e2]; rfl, by rw [e5, hx]⟩)
      have HEr := hid (show allE (feedP (newP false ((x : Int) - 1)) L) = 22 from by
        rw [HLg.out ((x : Int) - 1) (by rw [hx]; omega)]; rfl)
      have HBg := hid hbig
      have hwr : wrap64 ((x : Int) - 1) = (x : Int) - 1 := by unfold wrap64; omega
      clear hF hsz hn hM hT hW0 he hok hL hx hbig
      go_enter Tryd.func3, Tryd.ntmps3
      go_wp2_with (first | (go_at_call 5; (rw [← HW0.out]); (with_reducible refine HWr.out.mono ?_); rintro e w1 ⟨q, x2, d, rfl, hx2, ho, hb⟩; rw [HX.out] at hx2; have hx3 := hx2.symm; subst hx3; rw [hb1]; have HB1 := hid (HB0.out.trans (hb.mono HB0.out.size)); have HO1 := hid ho; have HP1 := hid (parse_req_ok L q x d (x : Int) w1 HX.out ho.arg (by have := HBg.out; omega) (by have := HBg.out; omega) HOk.out.1); rw [HOk.out.2, errOf_zero] at HP1; clear ho hb HWr) | (go_at_call 7; (with_reducible refine HP1.out.mono ?_); rintro e w2 ⟨v, rfl, hv, hb⟩; have HB2 := hid (HB1.out.trans (hb.mono HB1.out.size)); have HO2 := hid (HO1.out.keep hb); obtain ⟨q1, q2, q3, rfl⟩ := own_slice3 hv; clear hv hb HP1; obtain ⟨W3, hW3⟩ : ∃ W3, W3 = w2.alloc (.cells (reqC (feedP (newP false (x : Int)) L) (.slice q1 q2 q3)) 24 (0, 0)) := ⟨_, rfl⟩; have HW3 := hid hW3; have HB3 := hid (show Below w.heap.size w W3 from (by rw [hW3]; exact HB2.out.trans ((below_new _ _).mono HB2.out.size))); have HP2 := hid (parse_req_err L q x d ((x : Int) - 1) W3 HX.out (by rw [hW3]; exact (HO2.out.arg).next (below_new _ _)) (by have := HBg.out; omega) (by have := HBg.out; omega) (by rw [HEr.out]; decide)); rw [HEr.out] at HP2; unfold reqC at HW3 ⊢; clear hW3) | (go_at_call 7; (rw [← HW3.out]); (with_reducible refine HP2.out.mono ?_); rintro e w4 ⟨rfl, hb⟩; have HB4 := hid (HB3.out.trans (hb.mono HB3.out.size)); clear hb HP2; obtain ⟨W5, hW5⟩ : ∃ W5, W5 = w4.alloc (.cells reqZ 24 (0, 0)) := ⟨_, rfl⟩; have HW5 := hid hW5; have HB5 := hid (show Below w.heap.size w W5 from (by rw [hW5]; exact HB4.out.trans ((below_new _ _).mono HB4.out.size))); have HNu := hid (num_any 22 W5 (HE.out.next HB5.out)); rw [errOf_pos (by decide), show ((22 : Nat) : Int) = 22 from rfl] at HNu; rw [errOf_pos (by decide)]; unfold reqZ at HW5 ⊢; clear hW5) | (go_at_call 8; (rw [← HW5.out]); (with_reducible refine HNu.out.mono ?_); rintro e w6 ⟨rfl, hb⟩; have HB6 := hid (HB5.out.trans (hb.mono HB5.out.size)); clear hb) | (go_at_call 6; (with_reducible refine (sure_any _).mono ?_); rintro e w9 ⟨rfl, hb⟩; have HB9 := hid (HB6.out.trans (hb.mono HB6.out.size)); clear hb))
      go_ret
      exact ⟨rfl, HB9.out⟩
    · have hb1 : decide (x ≤ 65536) = false := decide_eq_false hbig
      clear hF hsz hn hM hT hW0 he hok hL hx hbig
      go_enter Tryd.func3, Tryd.ntmps3
      go_wp2_with (first | (go_at_call 5; (rw [← HW0.out]); (with_reducible refine HWr.out.mono ?_); rintro e w1 ⟨q, x2, d, rfl, hx2, ho, hb⟩; rw [HX.out] at hx2; have hx3 := hx2.symm; subst hx3; rw [hb1]; have HB1 := hid (HB0.out.trans (hb.mono HB0.out.size)); clear ho hb) | (go_at_call 6; (with_reducible refine (sure_any _).mono ?_); rintro e w9 ⟨rfl, hb⟩; have HB9 := hid (HB1.out.trans (hb.mono HB1.out.size)); clear hb))
      go_ret
      exact ⟨rfl, HB9.out⟩
end Go.Proofs.YtmcglcdpcblckabDoor
