/- The law of cuts. -/
import Derived.Test.YtmcglcdpcblckaaDoorLCutA
import Derived.Test.YtmcglcdpcblckaaDoorLCutB
import Derived.Test.YtmcglcdpcblckaaDoorLCutC
import Derived.Test.YtmcglcdpcblckaaDoorLCutD
import Derived.Test.YtmcglcdpcblckaaDoorLCutE
import Derived.Test.YtmcglcdpcblckaaDoorLCutF
import Derived.Test.YtmcglcdpcblckaaDoorLCutG
import Derived.Test.YtmcglcdpcblckaaDoorLCutY
import Derived.Test.YtmcglcdpcblckaaDoorLCutZ
namespace Go.Proofs.YtmcglcdpcblckaaDoor
open Go.RowKit

set_option maxRecDepth 20000 in
set_option maxHeartbeats 8000000 in
theorem cuts_big (pb : Option Addr) (n cb : Nat) (resp : Bool) (at_ : Int) (w : World) (hbn : 20000 < n) :
    Calls Tryd.prog 6 #[.slice pb n cb, .bool resp, .int .i64 at_] w fun e w' => e = .returned (.bool true) ∧ Below w.heap.size w w' := by
  have hb1 : decide ((20000 : Int) < (n : Int)) = true := decide_eq_true (by omega)
  have hb2 : decide (20000 < n) = true := decide_eq_true hbn
  have HC1 := hid (reader_yes resp 4096 w (by decide))
  clear hbn
  go_enter Tryd.func6, Tryd.ntmps6
  go_wp2_with (first | (go_at_call 16; (with_reducible refine HC1.out.mono ?_); rintro e w1 ⟨rfl, _, a2, _⟩; have HB1 := hid a2; have HC2 := hid (reader_yes resp 4096 w1 (by decide)); clear a2 HC1) | (go_at_call 16; (with_reducible refine HC2.out.mono ?_); rintro e w2 ⟨rfl, _, a2, _⟩; have HB2 := hid (HB1.out.trans (a2.mono HB1.out.size)); clear a2 HC2) | (go_at_call 15; (with_reducible refine (sure_any _).mono ?_); rintro e w9 ⟨rfl, hb⟩; have HB9 := hid (HB2.out.trans (hb.mono HB2.out.size)); clear hb))
  go_ret
  exact ⟨rfl, HB9.out⟩
theorem cuts_walk (L : B) (pb : Option Addr) (n cb : Nat) (hn : L.length = n) (resp : Bool) (at_ : Int) (w : World) (hA : ArgAt w pb L) (hpb : pb = none → cb = 0) (he : EnvE w) :
    Calls Tryd.prog 6 #[.slice pb n cb, .bool resp, .int .i64 at_] w fun e w' => e = .returned (.bool true) ∧ Below w.heap.size w w' := by
  by_cases hbn : n ≤ 20000
  · have hnew : (newP resp 4096).st ≠ 11 ∧ (newP resp 4096).err = 0 := by unfold newP; cases resp <;> simp
    by_cases h0 : n = 0
    · have hL : L = [] := List.eq_nil_of_length_eq_zero (by rw [hn, h0])
      have e1 : feedP (newP resp 4096) L = newP resp 4096 := by rw [hL]; rfl
      have e2 : feedN (newP resp 4096) L = 0 := by rw [hL]; rfl
      have e3 : feedP (newP resp 4096) (L.take 0) = newP resp 4096 := rfl
      have e4 : feedP (newP resp 4096) (L.drop 0) = newP resp 4096 := by rw [hL]; rfl
      have e5 : feedN (newP resp 4096) (L.drop 0) = 0 := by rw [hL]; rfl
      cases pb with
      | none =>
        obtain rfl := hpb rfl
        exact cuts_z L n hn resp at_ w hA hbn he 0 rfl h0 _ _ 0 0 0 e1 e2 e3 rfl e4 e5 rfl hnew.1 hnew.2 hnew.1 hnew.2
      | some ad => exact cuts_y L ad n cb hn resp at_ w hA hbn he 0 rfl h0 _ _ 0 0 0 e1 e2 e3 rfl e4 e5 rfl hnew.1 hnew.2 hnew.1 hnew.2
    · cases pb with
      | none =>
        exfalso
        cases L with
        | nil => exact h0 hn.symm
        | cons y r => obtain ⟨_, _, e, _⟩ := hA 0 y rfl; cases e
      | some ad =>
        obtain ⟨i, hi, hil⟩ := cut_at at_ (show 0 < n by omega)
        have e3 := feed_app (L.take i) (L.drop i) (newP resp 4096)
        have e4 := feedN_app (L.take i) (L.drop i) (newP resp 4096)
        rw [List.take_append_drop] at e3 e4
        by_cases h2 : (feedP (newP resp 4096) (L.take i)).st ≠ 11 ∧ (feedP (newP resp 4096) (L.take i)).err = 0
        · by_cases hs : (feedP (newP resp 4096) L).st = 11
          · by_cases hr : (feedP (newP resp 4096) L).err = 0
            · exact cuts_b L ad n cb hn resp at_ w hA hbn he i hi hil _ _ _ _ _ rfl rfl rfl rfl e3.symm rfl e4.symm h2.1 h2.2 hs hr
            · exact cuts_c L ad n cb hn resp at_ w hA hbn he i hi hil _ _ _ _ _ rfl rfl rfl rfl e3.symm rfl e4.symm h2.1 h2.2 hs hr
          · by_cases hr : (feedP (newP resp 4096) L).err = 0
            · exact cuts_a L ad n cb hn resp at_ w hA hbn he i hi hil _ _ _ _ _ rfl rfl rfl rfl e3.symm rfl e4.symm h2.1 h2.2 hs hr
            · exact cuts_d L ad n cb hn resp at_ w hA hbn he i hi hil _ _ _ _ _ rfl rfl rfl rfl e3.symm rfl e4.symm h2.1 h2.2 hs hr
        · have hen : endedP (feedP (newP resp 4096) (L.take i)) = true := by
            unfold endedP
            by_cases h3 : (feedP (newP resp 4096) (L.take i)).st = 11
            · simp [h3]
            · have h4 : ¬ (feedP (newP resp 4096) (L.take i)).err = 0 := fun h4 => h2 ⟨h3, h4⟩
              simp [h4]
          rw [(feed_ended hen _).1] at e3
          rw [(feed_ended hen _).2, Nat.add_zero] at e4
          have hex : (feedP (newP resp 4096) L).st = 11 ∨ (feedP (newP resp 4096) L).err ≠ 0 := by
            rw [e3]
            by_cases h3 : (feedP (newP resp 4096) (L.take i)).st = 11
            · exact .inl h3
            · exact .inr (fun h4 => h2 ⟨h3, h4⟩)
          by_cases hs : (feedP (newP resp 4096) L).st = 11
          · by_cases hr : (feedP (newP resp 4096) L).err = 0
            · exact cuts_e L ad n cb hn resp at_ w hA hbn he i hi hil _ _ _ _ rfl rfl rfl rfl e3.symm e4.symm hs hr
            · exact cuts_f L ad n cb hn resp at_ w hA hbn he i hi hil _ _ _ _ rfl rfl rfl rfl e3.symm e4.symm hs hr
          · exact cuts_g L ad n cb hn resp at_ w hA hbn he i hi hil _ _ _ _ rfl rfl rfl rfl e3.symm e4.symm hs (hex.resolve_left hs)
  · exact cuts_big pb n cb resp at_ w (by omega)
end Go.Proofs.YtmcglcdpcblckaaDoor
