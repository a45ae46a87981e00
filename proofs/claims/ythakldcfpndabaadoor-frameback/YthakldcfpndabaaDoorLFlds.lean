/- The law of fields. -/
import Derived.Test.YthakldcfpndabaaDoorFSure
import Derived.Test.YthakldcfpndabaaDoorFFlds2
namespace Go.Proofs.YthakldcfpndabaaDoor
open Go.RowKit

structure MemF (w W : World) (K N : Int) : Prop where
  low : Below w.heap.size w W
  blk : W.heap[w.heap.size]? = some (frmO K N)
theorem MemF.next {w W W' : World} {K N : Int} (h : MemF w W K N) (hb : Below W.heap.size W W') : MemF w W' K N := ⟨below_out h.low hb, blk_next h.blk hb⟩
theorem MemF.new (w : World) (K N : Int) : MemF w (w.alloc (frmO K N)) K N := ⟨below_new _ _, heap_alloc_new _ _⟩
theorem FAt.newsF {w : World} {ad : Addr} {fs : List (B × B)} (h : FAt w (some ad) fs) : ∀ j u, (fldC fs)[j]? = some u → w.cell? (ad.add j) = some u := by
  intro j u hj
  have hlt : j < (fldC fs).length := (List.getElem?_eq_some_iff.1 hj).1
  rw [fldC_len] at hlt
  have hi : j / 2 < fs.length := by omega
  obtain ⟨g, o, e, c0, c1⟩ := h (j / 2) _ (List.getElem?_eq_getElem hi)
  obtain ⟨f0, f1⟩ := fldC_at fs (j / 2) _ (List.getElem?_eq_getElem hi)
  cases e
  have hadd : ∀ j, (⟨g, o, none⟩ : Addr).add j = ⟨g, o + j, none⟩ := fun j => by unfold Addr.add; split <;> simp_all
  rw [hadd]
  rcases Nat.mod_two_eq_zero_or_one j with hm | hm
  · have hj2 : j = 2 * (j / 2) := by omega
    rw [hj2] at hj
    rw [f0] at hj
    cases hj
    rw [show o + j = o + j / 2 * 2 by omega]
    exact c0
  · have hj2 : j = 2 * (j / 2) + 1 := by omega
    rw [hj2] at hj
    rw [f1] at hj
    cases hj
    rw [show o + j = o + j / 2 * 2 + 1 by omega]
    exact c1
theorem fldC_plain (fs : List (B × B)) : ∀ u ∈ fldC fs, u.oneCell' = true := by
  intro u hu
  unfold fldC at hu
  rw [List.mem_flatMap] at hu
  obtain ⟨f, _, hu⟩ := hu
  simp at hu
  rcases hu with rfl | rfl <;> rfl
theorem fld_len (fs : List (B × B)) (K N : Int) : (fldF fs K N).1.length ≤ fs.length + 1 := by
  unfold fldF
  split
  · have := unf_le fs
    rw [List.length_append]
    have h2 : (addF K N).length ≤ 1 := by unfold addF; split <;> (try split) <;> simp
    omega
  · simp
set_option maxRecDepth 20000 in
set_option maxHeartbeats 8000000 in
theorem ffields_some (fs : List (B × B)) (ad : Addr) (n c : Nat) (hn : fs.length = n) (K N : Int) (w : World) (hF : FAt w (some ad) fs) (hsz : szB fs) (hnn : n ≤ 1048576) (hmx : MxL w) (hE : EnvE w) (hP : EnvP w) :
    Calls Tryd.prog 4 #[.slice (some ad) n c, .agg #[.int .i64 K, .int .i64 N]] w fun e w' => e = .returned (.bool true) ∧ Below w.heap.size w w' := by
  have HL1 := hid (show ∀ (W : World) (p : Option Addr) (c : Nat), Below w.heap.size w W → FAt W p fs → _ from fun W p c hb h => plength fs p n c hn W h hsz hnn (hmx.next hb))
  have HL2 := hid (show ∀ W : World, Below w.heap.size w W → _ from fun W hb => dlength fs (some ad) n c hn W (hF.next hb) hsz hnn)
  have HC1 := hid (show ∀ (W : World) (p : Option Addr) (c : Nat), Below w.heap.size w W → FAt W p fs → _ from fun W p c hb h => pchunked fs p n c hn W h hsz hnn (hmx.next hb))
  have HC2 := hid (show ∀ W : World, Below w.heap.size w W → _ from fun W hb => dchunked fs (some ad) n c hn W (hF.next hb) hsz hnn)
  have HF1 := hid (show ∀ (W : World) (p : Option Addr) (c : Nat), Below w.heap.size w W → FAt W p fs → _ from fun W p c hb h => pfields fs p n c hn K N W h hsz hnn (hP.next hb))
  have HF2 := hid (show ∀ W : World, Below w.heap.size w W → _ from fun W hb => dfields fs (some ad) n c hn K N W (hF.next hb) hsz hnn)
  have HFs := hid (show ∀ (W : World) (p : Option Addr) (d : Nat), Below w.heap.size w W → FAt W p fs → _ from fun W p d hb h => fields_same fs p (some ad) n d c hn W h (hF.next hb) (by omega))
  have HN1 := hid (show ∀ W : World, Below w.heap.size w W → _ from fun W hb => num_any (lenT (lenF fs)).2.2 W (hE.next hb))
  have HN2 := hid (show ∀ W : World, Below w.heap.size w W → _ from fun W hb => num_any (chkF fs).2 W (hE.next hb))
  have HN3 := hid (show ∀ W : World, Below w.heap.size w W → _ from fun W hb => num_any (fldF fs K N).2 W (hE.next hb))
  have HSu := hid (show ∀ W : World, Below w.heap.size w W → _ from fun W hb => sure11_any W (hmx.next hb))
  have hxl := fld_len fs K N
  obtain ⟨⟨N1, H1, E1⟩, hL⟩ : ∃ x, lenT (lenF fs) = x := ⟨_, rfl⟩
  obtain ⟨⟨C1, E2⟩, hC⟩ : ∃ x, chkF fs = x := ⟨_, rfl⟩
  obtain ⟨⟨X, E3⟩, hX⟩ : ∃ x, fldF fs K N = x := ⟨_, rfl⟩
  rw [hL] at HL1 HL2 HN1
  rw [hC] at HC1 HC2 HN2
  rw [hX] at HF1 HF2 HN3 hxl
  dsimp only at HL1 HL2 HN1 HC1 HC2 HN2 HF1 HF2 HN3 hxl
  obtain ⟨V1, hV1⟩ : ∃ V, errOf E1 = V := ⟨_, rfl⟩
  obtain ⟨V2, hV2⟩ : ∃ V, errOf E2 = V := ⟨_, rfl⟩
  obtain ⟨V3, hV3⟩ : ∃ V, errOf E3 = V := ⟨_, rfl⟩
  rw [hV1] at HL1 HN1
  rw [hV2] at HC1 HN2
  rw [hV3] at HF1 HN3
  obtain ⟨xl, hxe⟩ : ∃ xl, X.length = xl := ⟨_, rfl⟩
  rw [hxe, hn] at hxl
  have HXl := hid hxe
  have HXb := hid (show xl ≤ 140737488355328 from by omega)
  have HFX := hid (show ∀ (W : World) (p p' : Option Addr) (d d' : Nat), FAt W p X → FAt W p' X → _ from fun W p p' d d' h h' => fields_same X p p' xl d d' HXl.out W h h' HXb.out)
  have HM0 := hid (MemF.new w K N)
  obtain ⟨i0, hi0, hz0, hz1, hz2⟩ := info_parts infoF
  have HNw := hid (hF.next HM0.out.low).newsF
  have HL := hid hn
  clear hL hC hX hV1 hV2 hV3 hxe hxl hF hn hE hsz hmx hP
  go_enter Tryd.func4, Tryd.ntmps4
  go_wp2_with (first | (at_builtin; refine wpList_append_own_at (w.alloc (frmO K N)) rfl (.tmp 20) (.tmp 21) 22 rfl (w.alloc (frmO K N)).heap.size 25 i0 _ 2 32 Tryd.underlying22 hi0 hz0 hz1 hz2 rfl (by decide) (.slice none 0 0) 0 [] (by go_simp) (OwnF.nil _ _) ad n c (fldC fs) (by go_simp) (by rw [fldC_len, HL.out]) HNw.out (fldC_plain fs) (by unfold maxLen; omega) (by omega) (Nat.le_refl _) ?_; intro v' w1 hown hgr _ _; rw [Nat.zero_add, List.nil_append] at hown; obtain ⟨q, d, rfl⟩ := own_slice hown; have HO := hid (show OwnF w1 (w.alloc (frmO K N)).heap.size (.slice q n d) fs from by unfold OwnF; rw [HL.out]; exact hown); have HM1 := hid (HM0.out.next (below_grown hgr)); have HA1 := hid (OwnF.fat HO.out); clear hown hgr HO) | (go_at_call 18; (with_reducible refine (HL1.out _ q d HM1.out.low HA1.out).mono ?_); rintro e w2 ⟨rfl, hb⟩; have HM2 := hid (HM1.out.next hb); have HA2 := hid (HA1.out.next hb); clear hb HL1) | (go_at_call 19; (with_reducible refine (HL2.out _ HM2.out.low).mono ?_); rintro e w3 ⟨rfl, hb⟩; have HM3 := hid (HM2.out.next hb); have HA3 := hid (HA2.out.next hb); clear hb HL2) | (go_at_call 20; (with_reducible refine (HC1.out _ q d HM3.out.low HA3.out).mono ?_); rintro e w4 ⟨rfl, hb⟩; have HM4 := hid (HM3.out.next hb); have HA4 := hid (HA3.out.next hb); clear hb HC1) | (go_at_call 21; (with_reducible refine (HC2.out _ HM4.out.low).mono ?_); rintro e w5 ⟨rfl, hb⟩; have HM5 := hid (HM4.out.next hb); have HA5 := hid (HA4.out.next hb); clear hb HC2; obtain ⟨y0, y1, _, _⟩ := cells2 HM5.out.blk) | (go_at_call 22; (with_reducible refine (HF1.out _ q d HM5.out.low HA5.out).mono ?_); rintro e w6 ⟨v6, rfl, ho, hb⟩; obtain ⟨q6, d6, rfl⟩ : ∃ q d, v6 = .slice q xl d := (by have h9 := own_slice ho; rw [HXl.out] at h9; exact h9); have HX6 := hid (OwnF.fat ho); have HM6 := hid (HM5.out.next hb); have HA6 := hid (HA5.out.next hb); clear hb HF1; clear y0 y1 ho; obtain ⟨y0, y1, _, _⟩ := cells2 HM6.out.blk) | (go_at_call 23; (with_reducible refine (HF2.out _ HM6.out.low).mono ?_); rintro e w7 ⟨v7, rfl, ho, hb⟩; obtain ⟨q7, d7, rfl⟩ : ∃ q d, v7 = .slice q xl d := (by have h9 := own_slice ho; rw [HXl.out] at h9; exact h9); have HY7 := hid (OwnF.fat ho); have HX7 := hid (HX6.out.next hb); have HM7 := hid (HM6.out.next hb); have HA7 := hid (HA6.out.next hb); clear hb HF2; clear y0 y1 ho) | (go_at_call 24; (with_reducible refine (HN1.out _ HM7.out.low).mono ?_); rintro e w8 ⟨rfl, hb⟩; have HX8 := hid (HX7.out.next hb); have HY8 := hid (HY7.out.next hb); have HM8 := hid (HM7.out.next hb); have HA8 := hid (HA7.out.next hb); clear hb HN1) | (go_at_call 24; (with_reducible refine (HN2.out _ HM8.out.low).mono ?_); rintro e w9 ⟨rfl, hb⟩; have HX9 := hid (HX8.out.next hb); have HY9 := hid (HY8.out.next hb); have HM9 := hid (HM8.out.next hb); have HA9 := hid (HA8.out.next hb); clear hb HN2) | (go_at_call 25; (with_reducible refine (HFX.out _ _ _ _ _ HX9.out HY9.out).mono ?_); rintro e w10 ⟨rfl, hb⟩; have HM10 := hid (HM9.out.next hb); have HA10 := hid (HA9.out.next hb); clear hb HFX) | (go_at_call 24; (with_reducible refine (HN3.out _ HM10.out.low).mono ?_); rintro e w11 ⟨rfl, hb⟩; have HM11 := hid (HM10.out.next hb); have HA11 := hid (HA10.out.next hb); clear hb HN3) | (go_at_call 25; (with_reducible refine (HFs.out _ q d HM11.out.low HA11.out).mono ?_); rintro e w12 ⟨rfl, hb⟩; have HM12 := hid (HM11.out.next hb); have HA12 := hid (HA11.out.next hb); clear hb HFs) | (go_at_call 26; (with_reducible refine (HSu.out _ HM12.out.low).mono ?_); rintro e w13 ⟨rfl, hb⟩; have HM13 := hid (HM12.out.next hb); have HA13 := hid (HA12.out.next hb); clear hb HSu))
  go_ret
  exact ⟨rfl, HM13.out.low⟩
set_option maxRecDepth 20000 in
set_option maxHeartbeats 8000000 in
theorem ffields_none (fs : List (B × B)) (n c : Nat) (hn : fs.length = n) (K N : Int) (w : World) (hF : FAt w none fs) (hsz : szB fs) (hnn : n ≤ 1048576) (hmx : MxL w) (hE : EnvE w) (hP : EnvP w) :
    Calls Tryd.prog 4 #[.slice none n c, .agg #[.int .i64 K, .int .i64 N]] w fun e w' => e = .returned (.bool true) ∧ Below w.heap.size w w' := by
  have HL1 := hid (show ∀ (W : World) (p : Option Addr) (c : Nat), Below w.heap.size w W → FAt W p fs → _ from fun W p c hb h => plength fs p n c hn W h hsz hnn (hmx.next hb))
  have HL2 := hid (show ∀ W : World, Below w.heap.size w W → _ from fun W hb => dlength fs none n c hn W (hF.next hb) hsz hnn)
  have HC1 := hid (show ∀ (W : World) (p : Option Addr) (c : Nat), Below w.heap.size w W → FAt W p fs → _ from fun W p c hb h => pchunked fs p n c hn W h hsz hnn (hmx.next hb))
  have HC2 := hid (show ∀ W : World, Below w.heap.size w W → _ from fun W hb => dchunked fs none n c hn W (hF.next hb) hsz hnn)
  have HF1 := hid (show ∀ (W : World) (p : Option Addr) (c : Nat), Below w.heap.size w W → FAt W p fs → _ from fun W p c hb h => pfields fs p n c hn K N W h hsz hnn (hP.next hb))
  have HF2 := hid (show ∀ W : World, Below w.heap.size w W → _ from fun W hb => dfields fs none n c hn K N W (hF.next hb) hsz hnn)
  have HFs := hid (show ∀ (W : World) (p : Option Addr) (d : Nat), Below w.heap.size w W → FAt W p fs → _ from fun W p d hb h => fields_same fs p none n d c hn W h (hF.next hb) (by omega))
  have HN1 := hid (show ∀ W : World, Below w.heap.size w W → _ from fun W hb => num_any (lenT (lenF fs)).2.2 W (hE.next hb))
  have HN2 := hid (show ∀ W : World, Below w.heap.size w W → _ from fun W hb => num_any (chkF fs).2 W (hE.next hb))
  have HN3 := hid (show ∀ W : World, Below w.heap.size w W → _ from fun W hb => num_any (fldF fs K N).2 W (hE.next hb))
  have HSu := hid (show ∀ W : World, Below w.heap.size w W → _ from fun W hb => sure11_any W (hmx.next hb))
  have hxl := fld_len fs K N
  obtain ⟨⟨N1, H1, E1⟩, hL⟩ : ∃ x, lenT (lenF fs) = x := ⟨_, rfl⟩
  obtain ⟨⟨C1, E2⟩, hC⟩ : ∃ x, chkF fs = x := ⟨_, rfl⟩
  obtain ⟨⟨X, E3⟩, hX⟩ : ∃ x, fldF fs K N = x := ⟨_, rfl⟩
  rw [hL] at HL1 HL2 HN1
  rw [hC] at HC1 HC2 HN2
  rw [hX] at HF1 HF2 HN3 hxl
  dsimp only at HL1 HL2 HN1 HC1 HC2 HN2 HF1 HF2 HN3 hxl
  obtain ⟨V1, hV1⟩ : ∃ V, errOf E1 = V := ⟨_, rfl⟩
  obtain ⟨V2, hV2⟩ : ∃ V, errOf E2 = V := ⟨_, rfl⟩
  obtain ⟨V3, hV3⟩ : ∃ V, errOf E3 = V := ⟨_, rfl⟩
  rw [hV1] at HL1 HN1
  rw [hV2] at HC1 HN2
  rw [hV3] at HF1 HN3
  obtain ⟨xl, hxe⟩ : ∃ xl, X.length = xl := ⟨_, rfl⟩
  rw [hxe, hn] at hxl
  have HXl := hid hxe
  have HXb := hid (show xl ≤ 140737488355328 from by omega)
  have HFX := hid (show ∀ (W : World) (p p' : Option Addr) (d d' : Nat), FAt W p X → FAt W p' X → _ from fun W p p' d d' h h' => fields_same X p p' xl d d' HXl.out W h h' HXb.out)
  have HM0 := hid (MemF.new w K N)
  have hfs : fs = [] := by
    cases fs with
    | nil => rfl
    | cons f l => obtain ⟨g, o, e, _⟩ := hF 0 f rfl; cases e
  have HFn := hid (show ∀ W : World, FAt W none fs from fun W j f h => by rw [hfs] at h; simp at h)
  have hn0 : n = 0 := by rw [← hn, hfs]; rfl
  subst hn0
  have HM1 := HM0
  clear hL hC hX hV1 hV2 hV3 hxe hxl hF hn hE hsz hmx hfs hP
  go_enter Tryd.func4, Tryd.ntmps4
  go_wp2_with (first | (go_at_call 18; (with_reducible refine (HL1.out _ none 0 HM1.out.low (HFn.out _)).mono ?_); rintro e w2 ⟨rfl, hb⟩; have HM2 := hid (HM1.out.next hb); clear hb HL1) | (go_at_call 19; (with_reducible refine (HL2.out _ HM2.out.low).mono ?_); rintro e w3 ⟨rfl, hb⟩; have HM3 := hid (HM2.out.next hb); clear hb HL2) | (go_at_call 20; (with_reducible refine (HC1.out _ none 0 HM3.out.low (HFn.out _)).mono ?_); rintro e w4 ⟨rfl, hb⟩; have HM4 := hid (HM3.out.next hb); clear hb HC1) | (go_at_call 21; (with_reducible refine (HC2.out _ HM4.out.low).mono ?_); rintro e w5 ⟨rfl, hb⟩; have HM5 := hid (HM4.out.next hb); clear hb HC2; obtain ⟨y0, y1, _, _⟩ := cells2 HM5.out.blk) | (go_at_call 22; (with_reducible refine (HF1.out _ none 0 HM5.out.low (HFn.out _)).mono ?_); rintro e w6 ⟨v6, rfl, ho, hb⟩; obtain ⟨q6, d6, rfl⟩ : ∃ q d, v6 = .slice q xl d := (by have h9 := own_slice ho; rw [HXl.out] at h9; exact h9); have HX6 := hid (OwnF.fat ho); have HM6 := hid (HM5.out.next hb); clear hb HF1; clear y0 y1 ho; obtain ⟨y0, y1, _, _⟩ := cells2 HM6.out.blk) | (go_at_call 23; (with_reducible refine (HF2.out _ HM6.out.low).mono ?_); rintro e w7 ⟨v7, rfl, ho, hb⟩; obtain ⟨q7, d7, rfl⟩ : ∃ q d, v7 = .slice q xl d := (by have h9 := own_slice ho; rw [HXl.out] at h9; exact h9); have HY7 := hid (OwnF.fat ho); have HX7 := hid (HX6.out.next hb); have HM7 := hid (HM6.out.next hb); clear hb HF2; clear y0 y1 ho) | (go_at_call 24; (with_reducible refine (HN1.out _ HM7.out.low).mono ?_); rintro e w8 ⟨rfl, hb⟩; have HX8 := hid (HX7.out.next hb); have HY8 := hid (HY7.out.next hb); have HM8 := hid (HM7.out.next hb); clear hb HN1) | (go_at_call 24; (with_reducible refine (HN2.out _ HM8.out.low).mono ?_); rintro e w9 ⟨rfl, hb⟩; have HX9 := hid (HX8.out.next hb); have HY9 := hid (HY8.out.next hb); have HM9 := hid (HM8.out.next hb); clear hb HN2) | (go_at_call 25; (with_reducible refine (HFX.out _ _ _ _ _ HX9.out HY9.out).mono ?_); rintro e w10 ⟨rfl, hb⟩; have HM10 := hid (HM9.out.next hb); clear hb HFX) | (go_at_call 24; (with_reducible refine (HN3.out _ HM10.out.low).mono ?_); rintro e w11 ⟨rfl, hb⟩; have HM11 := hid (HM10.out.next hb); clear hb HN3) | (go_at_call 25; (with_reducible refine (HFs.out _ none 0 HM11.out.low (HFn.out _)).mono ?_); rintro e w12 ⟨rfl, hb⟩; have HM12 := hid (HM11.out.next hb); clear hb HFs) | (go_at_call 26; (with_reducible refine (HSu.out _ HM12.out.low).mono ?_); rintro e w13 ⟨rfl, hb⟩; have HM13 := hid (HM12.out.next hb); clear hb HSu))
  go_ret
  exact ⟨rfl, HM13.out.low⟩
theorem ffields_walk (fs : List (B × B)) (p : Option Addr) (n c : Nat) (hn : fs.length = n) (K N : Int) (w : World) (hF : FAt w p fs) (hsz : szB fs) (hnn : n ≤ 1048576) (hmx : MxL w) (hE : EnvE w) (hP : EnvP w) :
    Calls Tryd.prog 4 #[.slice p n c, .agg #[.int .i64 K, .int .i64 N]] w fun e w' => e = .returned (.bool true) ∧ Below w.heap.size w w' := by
  cases p with
  | none => exact ffields_none fs n c hn K N w hF hsz hnn hmx hE hP
  | some ad => exact ffields_some fs ad n c hn K N w hF hsz hnn hmx hE hP
end Go.Proofs.YthakldcfpndabaaDoor
