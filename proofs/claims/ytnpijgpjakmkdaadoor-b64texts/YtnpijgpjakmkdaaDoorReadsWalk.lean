/- The law B64Reads returns true for every text of up to 2^47 bytes, where errors.errorType is laid. -/
import Derived.Test.YtnpijgpjakmkdaaDoorSure
import Derived.Test.YtnpijgpjakmkdaaDoorRDec
import Derived.Test.YtnpijgpjakmkdaaDoorAs
namespace Go.Proofs.YtnpijgpjakmkdaaDoor
open Go.RowKit

/-- errors.errorType is laid. -/
def ErrAt (w : World) : Prop := w.cell? ⟨0, 0, none⟩ = some (.iface 60 (.agg #[.pointer (some ⟨1, 26, none⟩)]))
theorem ErrAt.below {w w' : World} (h : ErrAt w) (hb : Below w.heap.size w w') : ErrAt w' := by
  unfold ErrAt at h ⊢
  rw [hb.cell]
  · exact h
  · show 0 < w.heap.size
    rcases Nat.lt_or_ge 0 w.heap.size with h' | h'
    · exact h'
    · simp [World.cell?, Array.getElem?_eq_none h'] at h
theorem num_any (k : Int) (w : World) (h : ErrAt w) : Calls Tryd.prog 11 #[errV k] w fun e w' => e = .returned (.int .i64 k) ∧ Below w.heap.size w w' := by
  unfold errV
  split
  · next hk => subst hk; exact num_nil w
  · exact num_err k w h
theorem told_same {s l l' : List Int} {k k' : Int} (h : Told s l k) (h' : Told s l' k') : l' = l ∧ k' = k := by
  rcases h with ⟨a, rfl⟩ | ⟨a, rfl, rfl⟩ <;> rcases h' with ⟨b, rfl⟩ | ⟨b, rfl, rfl⟩ <;> rw [a] at b <;> simp at b
  · exact ⟨b.symm, rfl⟩
  · exact ⟨rfl, rfl⟩
set_option maxRecDepth 20000 in
set_option maxHeartbeats 4000000 in
theorem reads_walk (s : ByteArray) (w : World) (hE : ErrAt w) (hM : s.size ≤ 140737488355328) :
    Calls Tryd.prog 4 #[.string s] w fun e w' => e = .returned (.bool true) ∧ Below w.heap.size w w' := by
  have HE := hid hE
  have HM := hid hM
  clear hE hM
  go_enter Tryd.func4, Tryd.ntmps4
  go_wp2_with (first
    | (go_at_call 13; (with_reducible refine (decode_any s _ HM.out).mono ?_); rintro e w1 ⟨pa, c, l, k, rfl, hm1, ht1⟩; have M1 := hid hm1; have T1 := hid ht1; clear hm1 ht1)
    | (go_at_call 14; (with_reducible refine (refDecode_any s _ HM.out).mono ?_); rintro e w2 ⟨pa2, c2, l2, k2, rfl, hm2, ht2⟩; obtain ⟨rfl, rfl⟩ := told_same T1.out ht2; have hcv1 := (M1.out.next hm2.below).arg.conv; have hcv2 := hm2.arg.conv; have HB := hid (M1.out.next hm2.below).below; clear hm2 ht2 M1 T1)
    | (go_at_call 11; (with_reducible refine (num_any _ _ (HE.out.below HB.out)).mono ?_); rintro e w3 ⟨rfl, hb3⟩; have HB3 := hid (HB.out.trans (hb3.mono HB.out.size)); clear hb3 HB)
    | (go_at_call 12; (with_reducible refine (sure_any _).mono ?_); rintro e w4 ⟨rfl, hb4⟩; have HB4 := hid (HB3.out.trans (hb4.mono HB3.out.size)); clear hb4 HB3))
  go_ret
  exact ⟨rfl, HB4.out⟩
end Go.Proofs.YtnpijgpjakmkdaaDoor
