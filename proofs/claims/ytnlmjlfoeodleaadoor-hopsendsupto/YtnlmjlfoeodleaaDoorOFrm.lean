/- Framing fields, one more Via, one more client, by the program. -/
import Derived.Test.YtnlmjlfoeodleaaDoorOTxt
namespace Go.Proofs.YtnlmjlfoeodleaaDoor
open Go.RowKit

def clB : B := [67, 111, 110, 116, 101, 110, 116, 45, 76, 101, 110, 103, 116, 104]
def teB : B := [84, 114, 97, 110, 115, 102, 101, 114, 45, 69, 110, 99, 111, 100, 105, 110, 103]
def chB : B := [99, 104, 117, 110, 107, 101, 100]
def viaN : B := [86, 105, 97]
def xfB : B := [88, 45, 70, 111, 114, 119, 97, 114, 100, 101, 100, 45, 70, 111, 114]
def frmA (K L : Int) : List (B × B) := if K = 1 then [(clB, Lib.itoa L)] else if K = 2 then [(teB, chB)] else []
def bareF (fs : List (B × B)) : List (B × B) := delB (delB fs (str clB)) (str teB)
def framF (fs : List (B × B)) (K L : Int) : List (B × B) := bareF fs ++ frmA K L
def viaV (M : Int) : B := if M = 1 then [49, 46, 49, 32, 116, 117, 114, 110, 115, 116, 105, 108, 101] else [49, 46, 48, 32, 116, 117, 114, 110, 115, 116, 105, 108, 101]
def viaF (fs : List (B × B)) (M : Int) : List (B × B) := fs ++ [(viaN, viaV M)]
def fwdV (fs : List (B × B)) (cl : B) : B := if (getB fs (str xfB)).1.data.toList = [] then cl else (getB fs (str xfB)).1.data.toList ++ ([44, 32] ++ cl)
def fwdF (fs : List (B × B)) (cl : B) : List (B × B) := setB fs (str xfB) (xfB, fwdV fs cl)
theorem bareF_len (fs : List (B × B)) : (bareF fs).length ≤ fs.length := Nat.le_trans (del_le _ _) (del_le _ _)
theorem szW_bare {fs : List (B × B)} (h : szW fs) : szW (bareF fs) := szW_del _ (szW_del _ h)
theorem itoa_ok {n : Int} (h0 : -9223372036854775808 ≤ n) (h1 : n ≤ 9223372036854775807) : (Lib.itoa n).length ≤ 140737488351232 := by
  rcases itoa_few n with h | h
  · omega
  · omega
set_option maxRecDepth 20000 in
set_option maxHeartbeats 8000000 in
theorem pfrm1 (fs : List (B × B)) (K L : Int) (p : Option Addr) (n c : Nat) (hn : fs.length = n) (w : World) (hF : FAt w p fs) (hsz : szW fs) (hnn : n ≤ 100000) (hL0 : -9223372036854775808 ≤ L) (hL1 : L ≤ 9223372036854775807) (hE : EnvP w) (hit : (Lib.itoa L).length ≤ 140737488351232) (hK : K = 1) :
    Calls Tryd.prog 12 #[.slice p n c, .agg #[.int .i64 K, .int .i64 L]] w fun e w' => ∃ g' m, e = .returned (.slice (some ⟨g', 0, none⟩) m m) ∧ (framF fs K L).length = m ∧ w.heap.size ≤ g' ∧ BlkF w' g' (framF fs K L) ∧ Below w.heap.size w w' := by
  have HB0 := hid (below_new w (.cells #[.int .i64 K, .int .i64 L] 24 (0, 0)))
  have HX0 := hid (heap_alloc_new w (.cells #[.int .i64 K, .int .i64 L] 24 (0, 0)))
  have hl1 := del_le fs (str clB)
  have HD1 := hid (show ∀ W : World, Below w.heap.size w W → _ from fun W hb => pdel_any fs p n c hn clB W (hF.next hb) hsz (by decide) (by omega))
  have HD2 := hid (show ∀ (W : World) (g m : Nat), (delB fs (str clB)).length = m → BlkF W g (delB fs (str clB)) → _ from fun W g m hm h => pdel_any (delB fs (str clB)) (some ⟨g, 0, none⟩) m m hm teB W h.fat (szW_del _ hsz) (by decide) (by omega))
  rw [show delB (delB fs (str clB)) (str teB) = bareF fs from rfl] at HD2
  have hl2 := bareF_len fs
  have hzb := szW_bare hsz
  obtain ⟨X, hX⟩ : ∃ X, bareF fs = X := ⟨_, rfl⟩
  rw [hX] at HD2 hl2 hzb
  have HE := hid (show framF fs K L = X ++ [(clB, Lib.itoa L)] from by unfold framF frmA; rw [hX, if_pos hK])
  rw [HE.out]
  have HTx := hid (show ∀ W : World, Below w.heap.size w W → _ from fun W hb => ptext L W hL0 hL1 (hE.next hb))
  have HAd0 := hid (show ∀ (W : World) (g m : Nat), X.length = m → BlkF W g X → _ from fun W g m hm h => padd_some X g 0 m m hm (Nat.le_refl _) clB (Lib.itoa L) W h.fat hzb (by decide) hit (by omega))
  obtain ⟨T, hT⟩ : ∃ T, str (Lib.itoa L) = T := ⟨_, rfl⟩
  rw [hT] at HTx HAd0
  have HAd := hid (show ∀ (W : World) (g m : Nat), X.length = m → BlkF W g X → Calls Tryd.prog 28 #[.slice (some ⟨g, 0, none⟩) m m, .string (⟨#[67, 111, 110, 116, 101, 110, 116, 45, 76, 101, 110, 103, 116, 104]⟩ : ByteArray), .string T] W _ from HAd0.out)
  subst hK
  have HD1b := hid (show ∀ W : World, Below w.heap.size w W → Calls Tryd.prog 27 #[.slice p n c, .string (⟨#[67, 111, 110, 116, 101, 110, 116, 45, 76, 101, 110, 103, 116, 104]⟩ : ByteArray)] W _ from HD1.out)
  have HD2b := hid (show ∀ (W : World) (g m : Nat), (delB fs (str clB)).length = m → BlkF W g (delB fs (str clB)) → Calls Tryd.prog 27 #[.slice (some ⟨g, 0, none⟩) m m, .string (⟨#[84, 114, 97, 110, 115, 102, 101, 114, 45, 69, 110, 99, 111, 100, 105, 110, 103]⟩ : ByteArray)] W _ from HD2.out)
  clear hF hsz hn HD1 HD2 hX hzb hT HAd0 HE hE
  go_enter Tryd.func12, Tryd.ntmps12
  go_wp2_with (first | (go_at_call 27; (with_reducible refine (HD1b.out _ HB0.out).mono ?_); rintro e w1 ⟨g1, m1, rfl, hm1, hg1, hk1, hb⟩; have HB1 := hid (below_out HB0.out hb); have HM1 := hid hm1; have HK1 := hid hk1; obtain ⟨x0, x1⟩ := box2W ((hb.block _ (lt_of_heap HX0.out)).trans HX0.out); clear hb hm1 hg1 hk1 HD1b HB0) | (go_at_call 27; (with_reducible refine (HD2b.out _ _ _ HM1.out HK1.out).mono ?_); rintro e w2 ⟨g2, m2, rfl, hm2, hg2, hk2, hb⟩; have HB2 := hid (below_out HB1.out hb); have HM2 := hid hm2; have HK2 := hid hk2; have HG2 := hid (Nat.le_trans HB1.out.size hg2); have y0 := cell_keep hb x0; have y1 := cell_keep hb x1; clear hb hm2 hg2 hk2 HD2b HK1 x0 x1) | (go_at_call 29; (with_reducible refine (HTx.out _ HB2.out).mono ?_); rintro e w3 ⟨rfl, hb⟩; have HB3 := hid (below_out HB2.out hb); have HK3 := hid (HK2.out.next hb); clear hb HTx) | (go_at_call 28; (with_reducible refine (HAd.out _ _ _ HM2.out HK3.out).mono ?_); rintro e w9 ⟨g9, m9, rfl, hl9, hg9, hk9, hb⟩; have HL9 := hid hl9; have HK9 := hid hk9; have HG9 := hid (Nat.le_trans HB3.out.size hg9); have HB9 := hid (below_out HB3.out hb); clear hb hl9 hg9 hk9 HAd))
  go_ret
  exact ⟨_, _, rfl, HL9.out, HG9.out, HK9.out, HB9.out⟩
set_option maxRecDepth 20000 in
set_option maxHeartbeats 8000000 in
theorem pfrm2 (fs : List (B × B)) (K L : Int) (p : Option Addr) (n c : Nat) (hn : fs.length = n) (w : World) (hF : FAt w p fs) (hsz : szW fs) (hnn : n ≤ 100000) (hK : K = 2) :
    Calls Tryd.prog 12 #[.slice p n c, .agg #[.int .i64 K, .int .i64 L]] w fun e w' => ∃ g' m, e = .returned (.slice (some ⟨g', 0, none⟩) m m) ∧ (framF fs K L).length = m ∧ w.heap.size ≤ g' ∧ BlkF w' g' (framF fs K L) ∧ Below w.heap.size w w' := by
  have HB0 := hid (below_new w (.cells #[.int .i64 K, .int .i64 L] 24 (0, 0)))
  have HX0 := hid (heap_alloc_new w (.cells #[.int .i64 K, .int .i64 L] 24 (0, 0)))
  have hl1 := del_le fs (str clB)
  have HD1 := hid (show ∀ W : World, Below w.heap.size w W → _ from fun W hb => pdel_any fs p n c hn clB W (hF.next hb) hsz (by decide) (by omega))
  have HD2 := hid (show ∀ (W : World) (g m : Nat), (delB fs (str clB)).length = m → BlkF W g (delB fs (str clB)) → _ from fun W g m hm h => pdel_any (delB fs (str clB)) (some ⟨g, 0, none⟩) m m hm teB W h.fat (szW_del _ hsz) (by decide) (by omega))
  rw [show delB (delB fs (str clB)) (str teB) = bareF fs from rfl] at HD2
  have hl2 := bareF_len fs
  have hzb := szW_bare hsz
  obtain ⟨X, hX⟩ : ∃ X, bareF fs = X := ⟨_, rfl⟩
  rw [hX] at HD2 hl2 hzb
  have HE := hid (show framF fs K L = X ++ [(teB, chB)] from by unfold framF frmA; rw [hX, if_neg (by omega), if_pos hK])
  rw [HE.out]
  have HAd0 := hid (show ∀ (W : World) (g m : Nat), X.length = m → BlkF W g X → _ from fun W g m hm h => padd_some X g 0 m m hm (Nat.le_refl _) teB chB W h.fat hzb (by decide) (by decide) (by omega))
  have HAd := hid (show ∀ (W : World) (g m : Nat), X.length = m → BlkF W g X → Calls Tryd.prog 28 #[.slice (some ⟨g, 0, none⟩) m m, .string (⟨#[84, 114, 97, 110, 115, 102, 101, 114, 45, 69, 110, 99, 111, 100, 105, 110, 103]⟩ : ByteArray), .string (⟨#[99, 104, 117, 110, 107, 101, 100]⟩ : ByteArray)] W _ from HAd0.out)
  subst hK
  have HD1b := hid (show ∀ W : World, Below w.heap.size w W → Calls Tryd.prog 27 #[.slice p n c, .string (⟨#[67, 111, 110, 116, 101, 110, 116, 45, 76, 101, 110, 103, 116, 104]⟩ : ByteArray)] W _ from HD1.out)
  have HD2b := hid (show ∀ (W : World) (g m : Nat), (delB fs (str clB)).length = m → BlkF W g (delB fs (str clB)) → Calls Tryd.prog 27 #[.slice (some ⟨g, 0, none⟩) m m, .string (⟨#[84, 114, 97, 110, 115, 102, 101, 114, 45, 69, 110, 99, 111, 100, 105, 110, 103]⟩ : ByteArray)] W _ from HD2.out)
  clear hF hsz hn HD1 HD2 hX hzb HAd0 HE
  go_enter Tryd.func12, Tryd.ntmps12
  go_wp2_with (first | (go_at_call 27; (with_reducible refine (HD1b.out _ HB0.out).mono ?_); rintro e w1 ⟨g1, m1, rfl, hm1, hg1, hk1, hb⟩; have HB1 := hid (below_out HB0.out hb); have HM1 := hid hm1; have HK1 := hid hk1; obtain ⟨x0, x1⟩ := box2W ((hb.block _ (lt_of_heap HX0.out)).trans HX0.out); clear hb hm1 hg1 hk1 HD1b HB0) | (go_at_call 27; (with_reducible refine (HD2b.out _ _ _ HM1.out HK1.out).mono ?_); rintro e w2 ⟨g2, m2, rfl, hm2, hg2, hk2, hb⟩; have HB2 := hid (below_out HB1.out hb); have HM2 := hid hm2; have HK2 := hid hk2; have HG2 := hid (Nat.le_trans HB1.out.size hg2); have y0 := cell_keep hb x0; have y1 := cell_keep hb x1; clear hb hm2 hg2 hk2 HD2b HK1 x0 x1) | (go_at_call 28; (with_reducible refine (HAd.out _ _ _ HM2.out HK2.out).mono ?_); rintro e w9 ⟨g9, m9, rfl, hl9, hg9, hk9, hb⟩; have HL9 := hid hl9; have HK9 := hid hk9; have HG9 := hid (Nat.le_trans HB2.out.size hg9); have HB9 := hid (below_out HB2.out hb); clear hb hl9 hg9 hk9 HAd))
  go_ret
  exact ⟨_, _, rfl, HL9.out, HG9.out, HK9.out, HB9.out⟩
set_option maxRecDepth 20000 in
set_option maxHeartbeats 8000000 in
theorem pfrm0 (fs : List (B × B)) (K L : Int) (p : Option Addr) (n c : Nat) (hn : fs.length = n) (w : World) (hF : FAt w p fs) (hsz : szW fs) (hnn : n ≤ 100000) (hK1 : ¬ K = 1) (hK2 : ¬ K = 2) :
    Calls Tryd.prog 12 #[.slice p n c, .agg #[.int .i64 K, .int .i64 L]] w fun e w' => ∃ g' m, e = .returned (.slice (some ⟨g', 0, none⟩) m m) ∧ (framF fs K L).length = m ∧ w.heap.size ≤ g' ∧ BlkF w' g' (framF fs K L) ∧ Below w.heap.size w w' := by
  have HB0 := hid (below_new w (.cells #[.int .i64 K, .int .i64 L] 24 (0, 0)))
  have HX0 := hid (heap_alloc_new w (.cells #[.int .i64 K, .int .i64 L] 24 (0, 0)))
  have hl1 := del_le fs (str clB)
  have HD1 := hid (show ∀ W : World, Below w.heap.size w W → _ from fun W hb => pdel_any fs p n c hn clB W (hF.next hb) hsz (by decide) (by omega))
  have HD2 := hid (show ∀ (W : World) (g m : Nat), (delB fs (str clB)).length = m → BlkF W g (delB fs (str clB)) → _ from fun W g m hm h => pdel_any (delB fs (str clB)) (some ⟨g, 0, none⟩) m m hm teB W h.fat (szW_del _ hsz) (by decide) (by omega))
  rw [show delB (delB fs (str clB)) (str teB) = bareF fs from rfl] at HD2
  have hl2 := bareF_len fs
  have hzb := szW_bare hsz
  obtain ⟨X, hX⟩ : ∃ X, bareF fs = X := ⟨_, rfl⟩
  rw [hX] at HD2 hl2 hzb
  have HE := hid (show framF fs K L = X from by unfold framF frmA; rw [hX, if_neg hK1, if_neg hK2, List.append_nil])
  have HD1b := hid (show ∀ W : World, Below w.heap.size w W → Calls Tryd.prog 27 #[.slice p n c, .string (⟨#[67, 111, 110, 116, 101, 110, 116, 45, 76, 101, 110, 103, 116, 104]⟩ : ByteArray)] W _ from HD1.out)
  have HD2b := hid (show ∀ (W : World) (g m : Nat), (delB fs (str clB)).length = m → BlkF W g (delB fs (str clB)) → Calls Tryd.prog 27 #[.slice (some ⟨g, 0, none⟩) m m, .string (⟨#[84, 114, 97, 110, 115, 102, 101, 114, 45, 69, 110, 99, 111, 100, 105, 110, 103]⟩ : ByteArray)] W _ from HD2.out)
  clear hF hsz hn HD1 HD2 hX hzb 
  go_enter Tryd.func12, Tryd.ntmps12
  go_wp2_with (first | (go_at_call 27; (with_reducible refine (HD1b.out _ HB0.out).mono ?_); rintro e w1 ⟨g1, m1, rfl, hm1, hg1, hk1, hb⟩; have HB1 := hid (below_out HB0.out hb); have HM1 := hid hm1; have HK1 := hid hk1; obtain ⟨x0, x1⟩ := box2W ((hb.block _ (lt_of_heap HX0.out)).trans HX0.out); clear hb hm1 hg1 hk1 HD1b HB0) | (go_at_call 27; (with_reducible refine (HD2b.out _ _ _ HM1.out HK1.out).mono ?_); rintro e w2 ⟨g2, m2, rfl, hm2, hg2, hk2, hb⟩; have HB2 := hid (below_out HB1.out hb); have HM2 := hid hm2; have HK2 := hid hk2; have HG2 := hid (Nat.le_trans HB1.out.size hg2); have y0 := cell_keep hb x0; have y1 := cell_keep hb x1; clear hb hm2 hg2 hk2 HD2b HK1 x0 x1))
  go_ret
  exact ⟨_, _, rfl, (by rw [HE.out]; exact HM2.out), HG2.out, (by rw [HE.out]; exact HK2.out), HB2.out⟩
theorem pframing (fs : List (B × B)) (K L : Int) (p : Option Addr) (n c : Nat) (hn : fs.length = n) (w : World) (hF : FAt w p fs) (hsz : szW fs) (hnn : n ≤ 100000) (hL0 : -9223372036854775808 ≤ L) (hL1 : L ≤ 9223372036854775807) (hE : EnvP w) :
    Calls Tryd.prog 12 #[.slice p n c, .agg #[.int .i64 K, .int .i64 L]] w fun e w' => ∃ g' m, e = .returned (.slice (some ⟨g', 0, none⟩) m m) ∧ (framF fs K L).length = m ∧ w.heap.size ≤ g' ∧ BlkF w' g' (framF fs K L) ∧ Below w.heap.size w w' := by
  by_cases h1 : K = 1
  · exact pfrm1 fs K L p n c hn w hF hsz hnn hL0 hL1 hE (itoa_ok hL0 hL1) h1
  · by_cases h2 : K = 2
    · exact pfrm2 fs K L p n c hn w hF hsz hnn h2
    · exact pfrm0 fs K L p n c hn w hF hsz hnn h1 h2
set_option maxRecDepth 20000 in
set_option maxHeartbeats 8000000 in
theorem pvia1 (fs : List (B × B)) (M : Int) (p : Option Addr) (n c : Nat) (hn : fs.length = n) (hc : n ≤ c) (hc0 : p = none → c = 0) (hpl : ∀ ad, p = some ad → ad.spot = none) (w : World) (hF : FAt w p fs) (hsz : szW fs) (hnn : n ≤ 100000) (hE : EnvP w) (hM : M = 1) :
    Calls Tryd.prog 14 #[.slice p n c, .int .i64 M] w fun e w' => ∃ g' m, e = .returned (.slice (some ⟨g', 0, none⟩) m m) ∧ (viaF fs M).length = m ∧ w.heap.size ≤ g' ∧ BlkF w' g' (viaF fs M) ∧ Below w.heap.size w w' := by
  have HTx0 := hid (show ∀ W : World, Below w.heap.size w W → _ from fun W hb => ptext 1 W (by decide) (by decide) (hE.next hb))
  have HTx := hid (show ∀ W : World, Below w.heap.size w W → Calls Tryd.prog 29 #[.int .i64 1] W fun e w' => e = .returned (.string (⟨#[49]⟩ : ByteArray)) ∧ Below W.heap.size W w' from fun W hb => by
    have h := HTx0.out W hb
    rw [show str (Lib.itoa 1) = (⟨#[49]⟩ : ByteArray) from by decide +kernel] at h
    exact h)
  have HAd0 := hid (show ∀ W : World, Below w.heap.size w W → _ from fun W hb => padd_any fs p n c hn hc hc0 viaN [49, 46, 49, 32, 116, 117, 114, 110, 115, 116, 105, 108, 101] W (hF.next hb) hsz (by decide) (by decide) (by omega) hpl)
  have HE := hid (show viaF fs M = fs ++ [(viaN, [49, 46, 49, 32, 116, 117, 114, 110, 115, 116, 105, 108, 101])] from by unfold viaF viaV; rw [if_pos hM])
  rw [HE.out]
  obtain ⟨V, hV⟩ : ∃ V, str [49, 46, 49, 32, 116, 117, 114, 110, 115, 116, 105, 108, 101] = V := ⟨_, rfl⟩
  rw [hV] at HAd0
  have HAd := hid (show ∀ W : World, Below w.heap.size w W → Calls Tryd.prog 28 #[.slice p n c, .string (⟨#[86, 105, 97]⟩ : ByteArray), .string V] W _ from HAd0.out)
  have HC := hid (show (((⟨#[49, 46]⟩ : ByteArray) ++ (⟨#[49]⟩ : ByteArray)) ++ (⟨#[32]⟩ : ByteArray)) ++ (⟨#[116, 117, 114, 110, 115, 116, 105, 108, 101]⟩ : ByteArray) = V from by rw [← hV]; decide +kernel)
  subst hM
  clear hF hsz hn HTx0 HAd0 HE hV hE
  go_enter Tryd.func14, Tryd.ntmps14
  go_wp2_with (first | (go_at_call 29; (with_reducible refine (HTx.out _ (Below.refl _ _)).mono ?_); rintro e w3 ⟨rfl, hb⟩; have HB3 := hid hb; clear hb HTx) | (go_at_call 28; (try rw [HC.out]); (with_reducible refine (HAd.out _ HB3.out).mono ?_); rintro e w9 ⟨g9, m9, rfl, hl9, hg9, hk9, hb⟩; have HL9 := hid hl9; have HK9 := hid hk9; have HG9 := hid (Nat.le_trans HB3.out.size hg9); have HB9 := hid (below_out HB3.out hb); clear hb hl9 hg9 hk9 HAd))
  go_ret
  exact ⟨_, _, rfl, HL9.out, HG9.out, HK9.out, HB9.out⟩
set_option maxRecDepth 20000 in
set_option maxHeartbeats 8000000 in
theorem pvia0 (fs : List (B × B)) (M : Int) (p : Option Addr) (n c : Nat) (hn : fs.length = n) (hc : n ≤ c) (hc0 : p = none → c = 0) (hpl : ∀ ad, p = some ad → ad.spot = none) (w : World) (hF : FAt w p fs) (hsz : szW fs) (hnn : n ≤ 100000) (hE : EnvP w) (hM : ¬ M = 1) :
    Calls Tryd.prog 14 #[.slice p n c, .int .i64 M] w fun e w' => ∃ g' m, e = .returned (.slice (some ⟨g', 0, none⟩) m m) ∧ (viaF fs M).length = m ∧ w.heap.size ≤ g' ∧ BlkF w' g' (viaF fs M) ∧ Below w.heap.size w w' := by
  have HTx0 := hid (show ∀ W : World, Below w.heap.size w W → _ from fun W hb => ptext 0 W (by decide) (by decide) (hE.next hb))
  have HTx := hid (show ∀ W : World, Below w.heap.size w W → Calls Tryd.prog 29 #[.int .i64 0] W fun e w' => e = .returned (.string (⟨#[48]⟩ : ByteArray)) ∧ Below W.heap.size W w' from fun W hb => by
    have h := HTx0.out W hb
    rw [show str (Lib.itoa 0) = (⟨#[48]⟩ : ByteArray) from by decide +kernel] at h
    exact h)
  have HAd0 := hid (show ∀ W : World, Below w.heap.size w W → _ from fun W hb => padd_any fs p n c hn hc hc0 viaN [49, 46, 48, 32, 116, 117, 114, 110, 115, 116, 105, 108, 101] W (hF.next hb) hsz (by decide) (by decide) (by omega) hpl)
  have HE := hid (show viaF fs M = fs ++ [(viaN, [49, 46, 48, 32, 116, 117, 114, 110, 115, 116, 105, 108, 101])] from by unfold viaF viaV; rw [if_neg hM])
  rw [HE.out]
  obtain ⟨V, hV⟩ : ∃ V, str [49, 46, 48, 32, 116, 117, 114, 110, 115, 116, 105, 108, 101] = V := ⟨_, rfl⟩
  rw [hV] at HAd0
  have HAd := hid (show ∀ W : World, Below w.heap.size w W → Calls Tryd.prog 28 #[.slice p n c, .string (⟨#[86, 105, 97]⟩ : ByteArray), .string V] W _ from HAd0.out)
  have HC := hid (show (((⟨#[49, 46]⟩ : ByteArray) ++ (⟨#[48]⟩ : ByteArray)) ++ (⟨#[32]⟩ : ByteArray)) ++ (⟨#[116, 117, 114, 110, 115, 116, 105, 108, 101]⟩ : ByteArray) = V from by rw [← hV]; decide +kernel)
  clear hF hsz hn HTx0 HAd0 HE hV hE
  go_enter Tryd.func14, Tryd.ntmps14
  go_wp2_with (first | (go_at_call 29; (with_reducible refine (HTx.out _ (Below.refl _ _)).mono ?_); rintro e w3 ⟨rfl, hb⟩; have HB3 := hid hb; clear hb HTx) | (go_at_call 28; (try rw [HC.out]); (with_reducible refine (HAd.out _ HB3.out).mono ?_); rintro e w9 ⟨g9, m9, rfl, hl9, hg9, hk9, hb⟩; have HL9 := hid hl9; have HK9 := hid hk9; have HG9 := hid (Nat.le_trans HB3.out.size hg9); have HB9 := hid (below_out HB3.out hb); clear hb hl9 hg9 hk9 HAd))
  go_ret
  exact ⟨_, _, rfl, HL9.out, HG9.out, HK9.out, HB9.out⟩
theorem pvia (fs : List (B × B)) (M : Int) (p : Option Addr) (n c : Nat) (hn : fs.length = n) (hc : n ≤ c) (hc0 : p = none → c = 0) (hpl : ∀ ad, p = some ad → ad.spot = none) (w : World) (hF : FAt w p fs) (hsz : szW fs) (hnn : n ≤ 100000) (hE : EnvP w) :
    Calls Tryd.prog 14 #[.slice p n c, .int .i64 M] w fun e w' => ∃ g' m, e = .returned (.slice (some ⟨g', 0, none⟩) m m) ∧ (viaF fs M).length = m ∧ w.heap.size ≤ g' ∧ BlkF w' g' (viaF fs M) ∧ Below w.heap.size w w' := by
  by_cases h1 : M = 1
  · exact pvia1 fs M p n c hn hc hc0 hpl w hF hsz hnn hE h1
  · exact pvia0 fs M p n c hn hc hc0 hpl w hF hsz hnn hE h1
theorem str_back (S : ByteArray) : str S.data.toList = S := by
  apply ByteArray.ext
  simp
theorem getB_small {fs : List (B × B)} {nm : ByteArray} {C : Nat} (h : ∀ f ∈ fs, f.2.length ≤ C) : (getB fs nm).1.size ≤ C := by
  unfold getB
  split
  · rename_i f hf
    dsimp only
    rw [str_size]
    exact h f (List.mem_of_find?_eq_some hf)
  · exact Nat.zero_le _
set_option maxRecDepth 20000 in
set_option maxHeartbeats 8000000 in
theorem pfwd0 (fs : List (B × B)) (cl : B) (p : Option Addr) (n c : Nat) (hn : fs.length = n) (hc : n ≤ c) (hc0 : p = none → c = 0) (hpl : ∀ ad, p = some ad → ad.spot = none) (w : World) (hF : FAt w p fs) (hsz : szW fs) (hnn : n ≤ 100000) (hcl : cl.length ≤ 35184372088832) (hvz : ∀ f ∈ fs, f.2.length ≤ 35184372088832) (hG : (getB fs (str xfB)).1.data.toList = []) :
    Calls Tryd.prog 16 #[.slice p n c, .string (str cl)] w fun e w' => ∃ g' m, e = .returned (.slice (some ⟨g', 0, none⟩) m m) ∧ (fwdF fs cl).length = m ∧ w.heap.size ≤ g' ∧ BlkF w' g' (fwdF fs cl) ∧ Below w.heap.size w w' := by
  have hgz := getB_small (nm := str xfB) hvz
  have HGe1 := hid (pget fs p n c hn (str xfB) w hF hsz (by decide) (by omega))
  have HV := hid (show fwdV fs cl = cl from by unfold fwdV; rw [if_pos hG])
  have HSt0 := hid (show ∀ W : World, Below w.heap.size w W → _ from fun W hb => pset_any fs p n c hn hc hc0 hpl xfB (fwdV fs cl) W (hF.next hb) hsz (by decide) (by rw [HV.out]; omega) (by omega))
  rw [show setB fs (str xfB) (xfB, fwdV fs cl) = fwdF fs cl from rfl] at HSt0
  obtain ⟨R, hR⟩ : ∃ R, fwdF fs cl = R := ⟨_, rfl⟩
  rw [hR] at HSt0
  rw [hR]
  rw [HV.out] at HSt0
  have HAd := hid (show ∀ W : World, Below w.heap.size w W → Calls Tryd.prog 34 #[.slice p n c, .string (⟨#[88, 45, 70, 111, 114, 119, 97, 114, 100, 101, 100, 45, 70, 111, 114]⟩ : ByteArray), .string (str cl)] W _ from HSt0.out)
  have hS0 : (getB fs (str xfB)).1 = ⟨#[]⟩ := by
    rw [← str_back (getB fs (str xfB)).1, hG]
  obtain ⟨S2, hS2⟩ : ∃ S2, (getB fs (str xfB)).2 = S2 := ⟨_, rfl⟩
  have HGe := hid (show Calls Tryd.prog 33 #[.slice p n c, .string (⟨#[88, 45, 70, 111, 114, 119, 97, 114, 100, 101, 100, 45, 70, 111, 114]⟩ : ByteArray)] w fun e w' => e = .returned (.tuple #[.string ⟨#[]⟩, .bool S2]) ∧ Below w.heap.size w w' from by
    have h := HGe1.out
    rw [hS0, hS2] at h
    exact h)
  have HC := hid (rfl : (0 : Nat) = 0)
  clear hS0 hS2 HSt0 hR hG hgz
  clear hF hsz hn HGe1
  go_enter Tryd.func16, Tryd.ntmps16
  go_wp2_with (first | (go_at_call 33; (with_reducible refine HGe.out.mono ?_); rintro e w3 ⟨rfl, hb⟩; have HB3 := hid hb; clear hb HGe) | (go_at_call 34; (try rw [HC.out]); (with_reducible refine (HAd.out _ HB3.out).mono ?_); rintro e w9 ⟨g9, m9, rfl, hl9, hg9, hk9, hb⟩; have HL9 := hid hl9; have HK9 := hid hk9; have HG9 := hid (Nat.le_trans HB3.out.size hg9); have HB9 := hid (below_out HB3.out hb); clear hb hl9 hg9 hk9 HAd))
  go_ret
  exact ⟨_, _, rfl, HL9.out, HG9.out, HK9.out, HB9.out⟩
set_option maxRecDepth 20000 in
set_option maxHeartbeats 8000000 in
theorem pfwd1 (fs : List (B × B)) (cl : B) (p : Option Addr) (n c : Nat) (hn : fs.length = n) (hc : n ≤ c) (hc0 : p = none → c = 0) (hpl : ∀ ad, p = some ad → ad.spot = none) (w : World) (hF : FAt w p fs) (hsz : szW fs) (hnn : n ≤ 100000) (hcl : cl.length ≤ 35184372088832) (hvz : ∀ f ∈ fs, f.2.length ≤ 35184372088832) (hG : ¬ (getB fs (str xfB)).1.data.toList = []) :
    Calls Tryd.prog 16 #[.slice p n c, .string (str cl)] w fun e w' => ∃ g' m, e = .returned (.slice (some ⟨g', 0, none⟩) m m) ∧ (fwdF fs cl).length = m ∧ w.heap.size ≤ g' ∧ BlkF w' g' (fwdF fs cl) ∧ Below w.heap.size w w' := by
  have hgz := getB_small (nm := str xfB) hvz
  have HGe1 := hid (pget fs p n c hn (str xfB) w hF hsz (by decide) (by omega))
  obtain ⟨S, hS⟩ : ∃ S, (getB fs (str xfB)).1 = S := ⟨_, rfl⟩
  obtain ⟨S2, hS2⟩ : ∃ S2, (getB fs (str xfB)).2 = S2 := ⟨_, rfl⟩
  rw [hS] at hG hgz
  have HV := hid (show str (fwdV fs cl) = (S ++ (⟨#[44, 32]⟩ : ByteArray)) ++ str cl from by
    unfold fwdV
    rw [hS, if_neg hG]
    apply ByteArray.ext
    simp [str])
  have hvl : (fwdV fs cl).length ≤ 140737488351232 := by
    unfold fwdV
    rw [hS, if_neg hG]
    have h9 : S.data.toList.length = S.size := Array.length_toList
    simp only [List.length_append, h9, List.length_cons, List.length_nil]
    omega
  have HSt0 := hid (show ∀ W : World, Below w.heap.size w W → _ from fun W hb => pset_any fs p n c hn hc hc0 hpl xfB (fwdV fs cl) W (hF.next hb) hsz (by decide) hvl (by omega))
  rw [show setB fs (str xfB) (xfB, fwdV fs cl) = fwdF fs cl from rfl] at HSt0
  obtain ⟨R, hR⟩ : ∃ R, fwdF fs cl = R := ⟨_, rfl⟩
  rw [hR] at HSt0
  rw [hR]
  rw [HV.out] at HSt0
  have hcs : (str cl).size ≤ 35184372088832 := by rw [str_size]; exact hcl
  obtain ⟨C, hC⟩ : ∃ C, str cl = C := ⟨_, rfl⟩
  rw [hC] at HSt0 hcs
  rw [hC]
  have HAd := hid (show ∀ W : World, Below w.heap.size w W → Calls Tryd.prog 34 #[.slice p n c, .string (⟨#[88, 45, 70, 111, 114, 119, 97, 114, 100, 101, 100, 45, 70, 111, 114]⟩ : ByteArray), .string ((S ++ (⟨#[44, 32]⟩ : ByteArray)) ++ C)] W _ from HSt0.out)
  have hne : ¬ S = ⟨#[]⟩ := fun e => hG (by rw [e])
  have hn1 : (S.toList == (⟨#[]⟩ : ByteArray).toList) = false := ne_list hne
  have hn4 : ¬ S.toList = [] := by rw [Lib.toList_data]; exact hG
  have hn2 : (S.toList == []) = false := by
    cases h : S.toList with
    | nil => exact absurd h hn4
    | cons a l => rfl
  have hn3 : S.toList.isEmpty = false := by
    cases h : S.toList with
    | nil => exact absurd h hn4
    | cons a l => rfl
  have HGe := hid (show Calls Tryd.prog 33 #[.slice p n c, .string (⟨#[88, 45, 70, 111, 114, 119, 97, 114, 100, 101, 100, 45, 70, 111, 114]⟩ : ByteArray)] w fun e w' => e = .returned (.tuple #[.string S, .bool S2]) ∧ Below w.heap.size w w' from by
    have h := HGe1.out
    rw [hS, hS2] at h
    exact h)
  have HC := hid (rfl : (0 : Nat) = 0)
  clear hS hS2 HSt0 hR hG hC hne HV hvl
  clear hF hsz hn HGe1
  go_enter Tryd.func16, Tryd.ntmps16
  go_wp2_with (first | (go_at_call 33; (with_reducible refine HGe.out.mono ?_); rintro e w3 ⟨rfl, hb⟩; have HB3 := hid hb; clear hb HGe) | (go_at_call 34; (try rw [HC.out]); (with_reducible refine (HAd.out _ HB3.out).mono ?_); rintro e w9 ⟨g9, m9, rfl, hl9, hg9, hk9, hb⟩; have HL9 := hid hl9; have HK9 := hid hk9; have HG9 := hid (Nat.le_trans HB3.out.size hg9); have HB9 := hid (below_out HB3.out hb); clear hb hl9 hg9 hk9 HAd))
  go_ret
  exact ⟨_, _, rfl, HL9.out, HG9.out, HK9.out, HB9.out⟩
theorem pforwarded (fs : List (B × B)) (cl : B) (p : Option Addr) (n c : Nat) (hn : fs.length = n) (hc : n ≤ c) (hc0 : p = none → c = 0) (hpl : ∀ ad, p = some ad → ad.spot = none) (w : World) (hF : FAt w p fs) (hsz : szW fs) (hnn : n ≤ 100000) (hcl : cl.length ≤ 35184372088832) (hvz : ∀ f ∈ fs, f.2.length ≤ 35184372088832) :
    Calls Tryd.prog 16 #[.slice p n c, .string (str cl)] w fun e w' => ∃ g' m, e = .returned (.slice (some ⟨g', 0, none⟩) m m) ∧ (fwdF fs cl).length = m ∧ w.heap.size ≤ g' ∧ BlkF w' g' (fwdF fs cl) ∧ Below w.heap.size w w' := by
  by_cases h1 : (getB fs (str xfB)).1.data.toList = []
  · exact pfwd0 fs cl p n c hn hc hc0 hpl w hF hsz hnn hcl hvz h1
  · exact pfwd1 fs cl p n c hn hc hc0 hpl w hF hsz hnn hcl hvz h1
end Go.Proofs.YtnlmjlfoeodleaaDoor
