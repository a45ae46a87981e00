/- The law of telling: the program's shortest text of every target's parts is the document's. -/
import Derived.Test.YtbdbmlklijmefaaDoorRText
namespace Go.Proofs.YtbdbmlklijmefaaDoor
open Go.RowKit

set_option maxRecDepth 20000 in
set_option maxHeartbeats 8000000 in
theorem targetTells_any (t : TG) (hs : t.host.length + t.path.length + t.query.length ≤ 1048576) (w : World) (hE : Env w) : Calls Tryd.prog 4 #[tgV t] w fun e w' => e = .returned (.bool true) ∧ Below w.heap.size w w' := by
  have HE := hid hE
  have HT1 := hid (ptext_any t (by omega))
  have HT2 := hid (rtext_any t (by omega))
  obtain ⟨T, k, hpt⟩ : ∃ T k, textT t = (T, k) := ⟨_, _, rfl⟩
  rw [hpt] at HT1 HT2
  dsimp only at HT1 HT2
  have HK1 := hid (errnum_any k)
  obtain ⟨E1, hE1⟩ : ∃ E1, errOf k = E1 := ⟨_, rfl⟩
  rw [hE1] at HT1 HK1
  have HWk := hid works_any
  obtain ⟨ST, hST⟩ : ∃ ST, str T = ST := ⟨_, rfl⟩
  rw [hST] at HT1 HT2
  obtain ⟨tf, th, tp, tq, ths⟩ := t
  have HX0 := hid (RX.start w #[.int .i64 tf, .string (str th), .string (str tp), .string (str tq), .bool ths])
  unfold tgV at HT1 HT2 ⊢
  dsimp only at HT1 HT2 ⊢
  obtain ⟨c1, hc1⟩ : ∃ c1, str th = c1 := ⟨_, rfl⟩
  obtain ⟨c2, hc2⟩ : ∃ c2, str tp = c2 := ⟨_, rfl⟩
  obtain ⟨c3, hc3⟩ : ∃ c3, str tq = c3 := ⟨_, rfl⟩
  rw [hc1, hc2, hc3] at HT1 HT2 HX0 ⊢
  clear hs hE hpt hE1 hST hc1 hc2 hc3
  have HE0 := hid (HE.out.below HX0.out.low)
  go_enter Tryd.func4, Tryd.ntmps4
  go_wp2_with (first
    | (go_at_call 13; (with_reducible refine (HT1.out _ HE0.out).mono ?_); rintro e w1 ⟨rfl, hb⟩; have HX1 := hid (HX0.out.below hb); obtain ⟨x0, x1, x2, x3, x4, xz⟩ := five HX1.out.box; clear hb xz)
    | (go_at_call 14; (with_reducible refine (HT2.out _).mono ?_); rintro e w2 ⟨rfl, hb⟩; have HX2 := hid (HX1.out.below hb); have HE2 := hid (HE.out.below HX2.out.low); clear hb)
    | (go_at_call 11; (with_reducible refine (HK1.out _).mono ?_); rintro e w5 ⟨rfl, hw5⟩; subst w5)
    | (go_at_call 12; (with_reducible refine (HWk.out _ HE2.out).mono ?_); rintro e w8 ⟨rfl, hb⟩; have HB8 := hid (below_out HX2.out.low hb); clear hb))
  go_ret
  exact ⟨rfl, HB8.out⟩
end Go.Proofs.YtbdbmlklijmefaaDoor
