/- The law MacHashes returns true for every text, every number and every row of texts that is not too long. -/
import Derived.Test.YtojcaoieodogdaaDoorMAll
import Derived.Test.YtojcaoieodogdaaDoorWorks
namespace Go.Proofs.YtojcaoieodogdaaDoor
open Go.RowKit

set_option maxRecDepth 20000 in
set_option maxHeartbeats 4000000 in
theorem machashes_walk (s : ByteArray) (v : Value) (L : List ByteArray) (n : Nat) (w : World) (hK : KAt w) (hv : StrsAt w v L) (hs : s.size ≤ maxLen) (hz : ∀ s ∈ L, s.size ≤ maxLen) (hN : L.length ≤ 1048576) (hO : (outOf L).length ≤ 4194304) (hn : n < 18446744073709551616) :
    Calls Tryd.prog 5 #[.string s, v, .int .u64 n] w fun e w' => e = .returned (.bool true) ∧ Below w.heap.size w w' := by
  have HX : Hid (KAt w ∧ StrsAt w v L ∧ s.size ≤ maxLen ∧ (∀ s ∈ L, s.size ≤ maxLen) ∧ L.length ≤ 1048576 ∧ (outOf L).length ≤ 4194304 ∧ n < 18446744073709551616) := ⟨hK, hv, hs, hz, hN, hO, hn⟩
  have E8 := eql_bytes8 (bytes8 n) (bytes8_len n)
  obtain ⟨y, HY⟩ : ∃ y, Hid (hashL 14695981039346656037 s.data.toList = y) := ⟨_, hid rfl⟩
  obtain ⟨z, HZ⟩ : ∃ z, Hid (hashA L = z) := ⟨_, hid rfl⟩
  clear hK hv hs hz hN hO hn
  go_enter Tryd.func5, Tryd.ntmps5
  go_wp2_with (first
    | (refine wpList_append_strs rfl _ _ rfl rfl _ rfl L HX.out.2.1 HX.out.2.2.2.2.1 ?_; intro v1 w1 hv1 hb1; have S1 : Hid (StrsAt w1 v1 L ∧ Below w.heap.size w w1) := ⟨hv1, hb1⟩; clear hv1 hb1)
    | (go_at_call 25; (with_reducible refine (mhash_any s _ HX.out.2.2.1).mono ?_); rintro e w' ⟨rfl, hw'⟩; have hw2 := hw'.symm; subst hw2; rw [HY.out])
    | (go_at_call 26; (with_reducible refine (refHash_any s _ HX.out.2.2.1).mono ?_); rintro e w' ⟨rfl, hw'⟩; have hw2 := hw'.symm; subst hw2; rw [HY.out])
    | (go_at_call 27; (with_reducible refine (mhashAll_any S1.out.1 HX.out.2.2.2.1 HX.out.2.2.2.2.1).mono ?_); rintro e w' ⟨rfl, hw'⟩; have hw2 := hw'.symm; subst hw2; rw [HZ.out])
    | (go_at_call 28; (with_reducible refine (refHashAll_any (HX.out.2.1.below S1.out.2) HX.out.2.2.2.2.1 HX.out.2.2.2.2.2.1).mono ?_); rintro e w2 ⟨rfl, hb⟩; rw [HZ.out]; have B2 : Hid (Below w.heap.size w w2) := (S1.out.2.trans (hb.mono S1.out.2.size)); clear hb)
    | (go_at_call 29; (with_reducible refine (mbytes_any n HX.out.2.2.2.2.2.2 _).mono ?_); rintro e w3 ⟨rfl, hb⟩; have B3 : Hid (Below w.heap.size w w3) := (B2.out.trans (hb.mono B2.out.size)); clear hb)
    | (go_at_call 30; (with_reducible refine (refBytes_any n HX.out.2.2.2.2.2.2 _).mono ?_); rintro e w4 ⟨rfl, hb⟩; have B4 : Hid (Below w.heap.size w w4) := (B3.out.trans (hb.mono B3.out.size)); clear hb)
    | (go_at_call 24; (with_reducible refine (works_any (HX.out.1.below B4.out)).mono ?_); rintro e w5 ⟨rfl, hb⟩; have B5 : Hid (Below w.heap.size w w5) := (B4.out.trans (hb.mono B4.out.size)); clear hb))
  go_ret
  exact ⟨by simp, B5.out⟩
end Go.Proofs.YtojcaoieodogdaaDoor
