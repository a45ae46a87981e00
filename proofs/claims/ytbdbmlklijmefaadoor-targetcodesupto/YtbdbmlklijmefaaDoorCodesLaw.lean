/- The law of codes: every text decoded and in codes, every query's names and values, of the program and of the document. -/
import Derived.Test.YtbdbmlklijmefaaDoorPPairs
import Derived.Test.YtbdbmlklijmefaaDoorPathsLaw
namespace Go.Proofs.YtbdbmlklijmefaaDoor
open Go.RowKit

set_option maxRecDepth 20000 in
set_option maxHeartbeats 8000000 in
theorem targetCodes_any (s : B) (hs : s.length ≤ 1048576) (w : World) (hE : Env w) : Calls Tryd.prog 6 #[.string (str s)] w fun e w' => e = .returned (.bool true) ∧ Below w.heap.size w w' := by
  have HE := hid hE
  have HD1 := hid (pdecode_any s (by omega))
  have HD2 := hid (rdecode_any s (by omega))
  have HP1 := hid (ppairs_any s (by omega))
  have HP2 := hid (rpairs_any s (by omega))
  have HC1 := hid (pencode_any s (by omega))
  have HC2 := hid (rencode_any s (by omega))
  obtain ⟨T, k1, e1, e2⟩ := dec_both (decodeB s)
  rw [e1] at HD1
  rw [e2] at HD2
  have hsm := pairsT_len s
  obtain ⟨fs, k2, hseg⟩ : ∃ fs k2, pairsT s = (fs, k2) := ⟨_, _, rfl⟩
  rw [hseg] at HP1 HP2 hsm
  dsimp only at HP1 HP2 hsm
  have HK1 := hid (errnum_any k1)
  have HK2 := hid (errnum_any k2)
  obtain ⟨E1, hE1⟩ : ∃ E1, errOf k1 = E1 := ⟨_, rfl⟩
  rw [hE1] at HD1 HK1
  clear hE1
  obtain ⟨E2, hE2⟩ : ∃ E2, errOf k2 = E2 := ⟨_, rfl⟩
  rw [hE2] at HP1 HK2
  obtain ⟨m, hm⟩ : ∃ m, fs.length = m := ⟨_, rfl⟩
  rw [hm] at HP1 HP2 hsm
  obtain ⟨S, hS⟩ : ∃ S, str s = S := ⟨_, rfl⟩
  obtain ⟨C, hC⟩ : ∃ C, str (encodeB s) = C := ⟨_, rfl⟩
  rw [hS] at HD1 HD2 HP1 HP2 HC1 HC2 ⊢
  rw [hC] at HC1 HC2
  have HWk := hid works_any
  have HSa := hid (show ∀ (b1 b2 c1 c2 : Nat) (p1 p2 : Option Addr) (w : World), OwnF w b1 (.slice p1 m c1) fs → OwnF w b2 (.slice p2 m c2) fs → _ from same_flds fs m hm (by omega))
  clear hs hE e1 e2 hseg hE2 hm hS hC
  go_enter Tryd.func6, Tryd.ntmps6
  go_wp2_with (first
    | (go_at_call 20; (with_reducible refine (HD1.out _).mono ?_); rintro e w1 ⟨rfl, hb⟩; have HB1 := hid hb; clear hb)
    | (go_at_call 21; (with_reducible refine (HD2.out _).mono ?_); rintro e w2 ⟨rfl, hb⟩; have HB2 := hid (below_out HB1.out hb); have HE2 := hid (HE.out.below HB2.out); clear hb)
    | (go_at_call 22; (with_reducible refine (HP1.out _ HE2.out).mono ?_); rintro e w3 ⟨p1, c1, rfl, ho, hb⟩; have HB3 := hid (below_out HB2.out hb); have HO1 := hid ho; clear hb ho)
    | (go_at_call 23; (with_reducible refine (HP2.out _).mono ?_); rintro e w4 ⟨p2, c2, rfl, ho, hb⟩; have HB4 := hid (below_out HB3.out hb); have HO2 := hid ho; have HO3 := hid (HO1.out.keep hb); clear hb ho)
    | (go_at_call 11; (with_reducible refine (HK1.out _).mono ?_); rintro e w5 ⟨rfl, hw5⟩; subst w5)
    | (go_at_call 24; (with_reducible refine (HC1.out _).mono ?_); rintro e w6 ⟨rfl, hb⟩; have HB6 := hid (below_out HB4.out hb); have HO4 := hid (HO2.out.keep hb); have HO5 := hid (HO3.out.keep hb); clear hb)
    | (go_at_call 25; (with_reducible refine (HC2.out _).mono ?_); rintro e w7 ⟨rfl, hb⟩; have HB7 := hid (below_out HB6.out hb); have HO6 := hid (HO4.out.keep hb); have HO7 := hid (HO5.out.keep hb); clear hb)
    | (go_at_call 26; (with_reducible refine (HSa.out _ _ _ _ _ _ _ HO7.out HO6.out).mono ?_); rintro e w8 ⟨rfl, hb⟩; have HB8 := hid (below_out HB7.out hb); have HE8 := hid (HE.out.below HB8.out); clear hb)
    | (go_at_call 11; (with_reducible refine (HK2.out _).mono ?_); rintro e w9 ⟨rfl, hw9⟩; subst w9)
    | (go_at_call 12; (with_reducible refine (HWk.out _ HE8.out).mono ?_); rintro e w10 ⟨rfl, hb⟩; have HBa := hid (below_out HB8.out hb); clear hb))
  go_ret
  exact ⟨rfl, HBa.out⟩
end Go.Proofs.YtbdbmlklijmefaaDoor
