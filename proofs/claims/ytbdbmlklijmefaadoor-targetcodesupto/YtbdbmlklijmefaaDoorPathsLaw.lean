/- The law of paths: the program's paths and segments are the document's. -/
import Derived.Test.YtbdbmlklijmefaaDoorPWorks
namespace Go.Proofs.YtbdbmlklijmefaaDoor
open Go.RowKit

theorem dec_both (r : Option B) : ∃ (T : ByteArray) (k : Nat), decE r = .tuple #[.string T, errOf k] ∧ decV r = .tuple #[.string T, .int .i64 (k : Int)] := by
  cases r with
  | none => exact ⟨str [], 23, rfl, rfl⟩
  | some t => exact ⟨str t, 0, rfl, rfl⟩
theorem segs_small (s : B) : (segsT s).1.length ≤ 64 := by
  unfold segsT
  split
  · simp
  · split
    · simp
    · simp only [List.length_map]; omega
set_option maxRecDepth 20000 in
set_option maxHeartbeats 8000000 in
theorem targetPaths_any (s : B) (hs : s.length ≤ 1048576) (w : World) (hE : Env w) : Calls Tryd.prog 5 #[.string (str s)] w fun e w' => e = .returned (.bool true) ∧ Below w.heap.size w w' := by
  have HE := hid hE
  have HN1 := hid (pnormal_any s (by omega))
  have HN2 := hid (rnormal_any s (by omega))
  have HS1 := hid (psegs_any s (by omega))
  have HS2 := hid (rsegs_any s (by omega))
  obtain ⟨T, k1, e1, e2⟩ := dec_both (normalB s)
  rw [e1] at HN1
  rw [e2] at HN2
  have hsm := segs_small s
  obtain ⟨ns, k2, hseg⟩ : ∃ ns k2, segsT s = (ns, k2) := ⟨_, _, rfl⟩
  rw [hseg] at HS1 HS2 hsm
  dsimp only at HS1 HS2 hsm
  have HK1 := hid (errnum_any k1)
  have HK2 := hid (errnum_any k2)
  obtain ⟨E1, hE1⟩ : ∃ E1, errOf k1 = E1 := ⟨_, rfl⟩
  rw [hE1] at HN1 HK1
  clear hE1
  obtain ⟨E2, hE2⟩ : ∃ E2, errOf k2 = E2 := ⟨_, rfl⟩
  rw [hE2] at HS1 HK2
  obtain ⟨m, hm⟩ : ∃ m, ns.length = m := ⟨_, rfl⟩
  rw [hm] at HS1 HS2 hsm
  have HM := hid hm
  obtain ⟨S, hS⟩ : ∃ S, str s = S := ⟨_, rfl⟩
  rw [hS] at HN1 HN2 HS1 HS2 ⊢
  have HWk := hid works_any
  have HSa := hid (show ∀ (b1 b2 c1 c2 : Nat) (p1 p2 : Option Addr) (w : World), OwnS w b1 (.slice p1 m c1) ns → OwnS w b2 (.slice p2 m c2) ns → _ from same_rows ns m hm (by omega))
  clear hs hE e1 e2 hseg hE2 hm hS
  go_enter Tryd.func5, Tryd.ntmps5
  go_wp2_with (first
    | (go_at_call 15; (with_reducible refine (HN1.out _ HE.out).mono ?_); rintro e w1 ⟨rfl, hb⟩; have HB1 := hid hb; clear hb)
    | (go_at_call 16; (with_reducible refine (HN2.out _).mono ?_); rintro e w2 ⟨rfl, hb⟩; have HB2 := hid (below_out HB1.out hb); have HE2 := hid (HE.out.below HB2.out); clear hb)
    | (go_at_call 17; (with_reducible refine (HS1.out _ HE2.out).mono ?_); rintro e w3 ⟨p1, c1, rfl, ho, hb⟩; have HB3 := hid (below_out HB2.out hb); have HO1 := hid ho; clear hb ho)
    | (go_at_call 18; (with_reducible refine (HS2.out _).mono ?_); rintro e w4 ⟨p2, c2, rfl, ho, hb⟩; have HB4 := hid (below_out HB3.out hb); have HO2 := hid ho; have HO3 := hid (HO1.out.keep hb); clear hb ho)
    | (go_at_call 11; (with_reducible refine (HK1.out _).mono ?_); rintro e w5 ⟨rfl, hw5⟩; subst w5)
    | (go_at_call 19; (with_reducible refine (HSa.out _ _ _ _ _ _ _ HO3.out HO2.out).mono ?_); rintro e w6 ⟨rfl, hb⟩; have HB6 := hid (below_out HB4.out hb); have HE6 := hid (HE.out.below HB6.out); clear hb)
    | (go_at_call 11; (with_reducible refine (HK2.out _).mono ?_); rintro e w7 ⟨rfl, hw7⟩; subst w7)
    | (go_at_call 12; (with_reducible refine (HWk.out _ HE6.out).mono ?_); rintro e w8 ⟨rfl, hb⟩; have HB8 := hid (below_out HB6.out hb); clear hb))
  go_ret
  exact ⟨rfl, HB8.out⟩
end Go.Proofs.YtbdbmlklijmefaaDoor
