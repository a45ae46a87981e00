/- The law of fields by name. -/
import Derived.Test.YtfmkkkkdfkjdlaaDoorHHas
import Derived.Test.YtfmkkkkdfkjdlaaDoorLFns
import Derived.Test.YtfmkkkkdfkjdlaaDoorLParses
namespace Go.Proofs.YtfmkkkkdfkjdlaaDoor
open Go.RowKit

theorem FAt.newsH {w : World} {ad : Addr} {fs : List (B × B)} (h : FAt w (some ad) fs) : ∀ j u, (fldC fs)[j]? = some u → w.cell? (ad.add j) = some u := by
  intro j u hj
  have hlt : j < (fldC fs).length := (List.getElem?_eq_some_iff.1 hj).1
  rw [fldC_len] at hlt
  have hi : j / 2 < fs.length := by omega
  obtain ⟨g, o, e, c0, c1⟩ := h (j / 2) _ (List.getElem?_eq_getElem hi)
  obtain ⟨f0, f1⟩ := fldC_at fs (j / 2) _ (List.getElem?_eq_getElem hi)
  cases e
  have hadd : ∀ j, (⟨g, o, none⟩ : Addr).add j = ⟨g, o + j, none⟩ := fun j => by unfold Addr.add; split <;> simp_all
  rw [hadd]
  rcases Nat.mod_two_eq_zero_or_one j with hm | hm
  · have hj2 : j = 2 * (j / 2) := by omega
    rw [hj2] at hj
    rw [f0] at hj
    cases hj
    rw [show o + j = o + j / 2 * 2 by omega]
    exact c0
  · have hj2 : j = 2 * (j / 2) + 1 := by omega
    rw [hj2] at hj
    rw [f1] at hj
    cases hj
    rw [show o + j = o + j / 2 * 2 + 1 by omega]
    exact c1
theorem texts_bel (va vb : Value) (B B' : Nat) (L : List ByteArray) (w : World) (hn : L.length ≤ 2097152) (ha : RowB w B va L) (hb : RowB w B' vb L) : Calls Tryd.prog 24 #[va, vb] w fun e w' => e = .returned (.bool true) ∧ Below w.heap.size w w' :=
  (texts_any va vb L.length B B' L w hn ha hb).mono (fun e w' ⟨h1, m, h2⟩ => ⟨h1, by rw [h2]; exact below_drew (Below.refl _ _) m⟩)
set_option maxRecDepth 20000 in
set_option maxHeartbeats 8000000 in
theorem hfields_some (fs : List (B × B)) (ad : Addr) (n c : Nat) (hn : fs.length = n) (nm el : ByteArray) (w : World) (hF : FAt w (some ad) fs) (hsz : szB fs) (hnm : nm.size ≤ 1048576) (hnn : n ≤ 1048576) (hel : el.size ≤ 1048576) (hmx : ∃ m : Int, w.cell? ⟨1, 0, none⟩ = some (.int .i64 m)) (hE : EnvE w) :
    Calls Tryd.prog 5 #[.slice (some ad) n c, .string nm, .string el] w fun e w' => e = .returned (.bool true) ∧ Below w.heap.size w w' := by
  obtain ⟨mm, hmm⟩ := hmx
  have HO1 := hid (show ∀ (W : World) (p : Option Addr) (c : Nat), FAt W p fs → _ from fun W p c h => pone fs p n c hn nm W h hsz hnm hnn)
  have HO2 := hid (show ∀ W : World, Below w.heap.size w W → _ from fun W hb => done_ fs (some ad) n c hn nm W (hF.next hb) hsz hnm hnn)
  have HV1 := hid (show ∀ (W : World) (p : Option Addr) (c : Nat), FAt W p fs → _ from fun W p c h => pvals fs p n c hn nm W h hsz hnm hnn)
  have HV2 := hid (show ∀ W : World, Below w.heap.size w W → _ from fun W hb => dvals fs (some ad) n c hn nm W (hF.next hb) hsz hnm hnn)
  have HH1 := hid (show ∀ (W : World) (p : Option Addr) (c : Nat), Below w.heap.size w W → FAt W p fs → _ from fun W p c hb h => phas fs p n c hn nm el W h hsz hnm hnn hel ⟨mm, cell_keep hb hmm⟩)
  have HH2 := hid (show ∀ W : World, Below w.heap.size w W → _ from fun W hb => dhas fs (some ad) n c hn nm el W (hF.next hb) hsz hnm hnn hel)
  have HFs := hid (show ∀ (W : World) (p : Option Addr) (d : Nat), Below w.heap.size w W → FAt W p fs → _ from fun W p d hb h => fields_same fs p (some ad) n d c hn W h (hF.next hb) (by omega))
  have HN1 := hid (show ∀ W : World, Below w.heap.size w W → _ from fun W hb => num_any (oneB (valsB fs nm)).2 W (hE.next hb))
  have HSu := hid (show ∀ W : World, _ from fun W => sure_any W)
  have hLn : (valsB fs nm).length ≤ 2097152 := Nat.le_trans (vals_le fs nm) (by omega)
  obtain ⟨Y, hY⟩ : ∃ Y, hasB (valsB fs nm) el = Y := ⟨_, rfl⟩
  rw [hY] at HH1 HH2
  obtain ⟨O, hO⟩ : ∃ O, oneB (valsB fs nm) = O := ⟨_, rfl⟩
  rw [hO] at HO1 HO2 HN1
  obtain ⟨X, E⟩ := O
  dsimp only at HO1 HO2 HN1
  obtain ⟨V, hV⟩ : ∃ V, errOf E = V := ⟨_, rfl⟩
  rw [hV] at HO1 HN1
  obtain ⟨L, hL⟩ : ∃ L, valsB fs nm = L := ⟨_, rfl⟩
  rw [hL] at HV1 HV2 hLn
  have HLn := hid hLn
  obtain ⟨k, hk⟩ : ∃ k, L.length = k := ⟨_, rfl⟩
  have HK := hid hk
  obtain ⟨i0, hi0, hz0, hz1, hz2⟩ := info_parts infoF
  have HNw := hid hF.newsH
  have HL := hid hn
  clear hY hO hV hL hk hLn hF hn hE hmm hsz
  go_enter Tryd.func5, Tryd.ntmps5
  go_wp2_with (first | (at_builtin; refine wpList_append_own_at w rfl (.tmp 12) (.tmp 13) 23 rfl w.heap.size 83 i0 _ 2 32 Tryd.underlying23 hi0 hz0 hz1 hz2 rfl (by decide) (.slice none 0 0) 0 [] (by go_simp) (OwnF.nil _ _) ad n c (fldC fs) (by go_simp) (by rw [fldC_len, HL.out]) HNw.out (fldC_one fs) (by unfold maxLen; omega) (by omega) (Nat.le_refl _) ?_; intro v' w1 hown hgr _ _; rw [Nat.zero_add, List.nil_append] at hown; obtain ⟨q, d, rfl⟩ := own_slice hown; have HO := hid (show OwnF w1 w.heap.size (.slice q n d) fs from by unfold OwnF; rw [HL.out]; exact hown); have HB1 := hid (below_grown hgr); have HM1 := hid (OwnF.fat HO.out); clear hown hgr HO) | (go_at_call 22; (with_reducible refine (HO1.out _ q d (HM1.out)).mono ?_); rintro e w2 ⟨rfl, hb⟩; have HB2 := hid (below_out HB1.out hb); have HM2 := hid (HM1.out.next hb); clear hb HO1) | (go_at_call 23; (with_reducible refine (HO2.out _ HB2.out).mono ?_); rintro e w3 ⟨rfl, hb⟩; have HB3 := hid (below_out HB2.out hb); have HM3 := hid (HM2.out.next hb); clear hb HO2) | (go_at_call 25; (with_reducible refine (HV1.out _ q d (HM3.out)).mono ?_); rintro e w4 ⟨v4, rfl, ho, hb⟩; obtain ⟨q4, d4, rfl, _⟩ := row_see ho k HK.out; have HR4 := hid ho; have HB4 := hid (below_out HB3.out hb); have HM4 := hid (HM3.out.next hb); clear hb ho HV1) | (go_at_call 26; (with_reducible refine (HV2.out _ HB4.out).mono ?_); rintro e w5 ⟨v5, rfl, ho, hb⟩; obtain ⟨q5, d5, rfl, _⟩ := row_see ho k HK.out; have HTx := hid (texts_bel _ _ _ _ L _ HLn.out (HR4.out.keep hb) ho); have HB5 := hid (below_out HB4.out hb); have HM5 := hid (HM4.out.next hb); clear hb ho HV2) | (go_at_call 24; (with_reducible refine HTx.out.mono ?_); rintro e w6 ⟨rfl, hb⟩; have HB6 := hid (below_out HB5.out hb); have HM6 := hid (HM5.out.next hb); clear hb HTx) | (go_at_call 12; (with_reducible refine (HN1.out _ HB6.out).mono ?_); rintro e w7 ⟨rfl, hb⟩; have HB7 := hid (below_out HB6.out hb); have HM7 := hid (HM6.out.next hb); clear hb HN1) | (go_at_call 27; (with_reducible refine (HH1.out _ q d HB7.out (HM7.out)).mono ?_); rintro e w8 ⟨rfl, hb⟩; have HB8 := hid (below_out HB7.out hb); have HM8 := hid (HM7.out.next hb); clear hb HH1) | (go_at_call 28; (with_reducible refine (HH2.out _ HB8.out).mono ?_); rintro e w9 ⟨rfl, hb⟩; have HB9 := hid (below_out HB8.out hb); have HM9 := hid (HM8.out.next hb); clear hb HH2) | (go_at_call 29; (with_reducible refine (HFs.out _ q d HB9.out (HM9.out)).mono ?_); rintro e w10 ⟨rfl, hb⟩; have HB10 := hid (below_out HB9.out hb); clear hb HFs) | (go_at_call 14; (with_reducible refine (HSu.out _).mono ?_); rintro e w11 ⟨rfl, hb⟩; have HB11 := hid (below_out HB10.out hb); clear hb))
  go_ret
  exact ⟨rfl, HB11.out⟩
set_option maxRecDepth 20000 in
set_option maxHeartbeats 8000000 in
theorem hfields_none (fs : List (B × B)) (n c : Nat) (hn : fs.length = n) (nm el : ByteArray) (w : World) (hF : FAt w none fs) (hsz : szB fs) (hnm : nm.size ≤ 1048576) (hnn : n ≤ 1048576) (hel : el.size ≤ 1048576) (hmx : ∃ m : Int, w.cell? ⟨1, 0, none⟩ = some (.int .i64 m)) (hE : EnvE w) :
    Calls Tryd.prog 5 #[.slice none n c, .string nm, .string el] w fun e w' => e = .returned (.bool true) ∧ Below w.heap.size w w' := by
  obtain ⟨mm, hmm⟩ := hmx
  have HO1 := hid (show ∀ (W : World) (p : Option Addr) (c : Nat), FAt W p fs → _ from fun W p c h => pone fs p n c hn nm W h hsz hnm hnn)
  have HO2 := hid (show ∀ W : World, Below w.heap.size w W → _ from fun W hb => done_ fs none n c hn nm W (hF.next hb) hsz hnm hnn)
  have HV1 := hid (show ∀ (W : World) (p : Option Addr) (c : Nat), FAt W p fs → _ from fun W p c h => pvals fs p n c hn nm W h hsz hnm hnn)
  have HV2 := hid (show ∀ W : World, Below w.heap.size w W → _ from fun W hb => dvals fs none n c hn nm W (hF.next hb) hsz hnm hnn)
  have HH1 := hid (show ∀ (W : World) (p : Option Addr) (c : Nat), Below w.heap.size w W → FAt W p fs → _ from fun W p c hb h => phas fs p n c hn nm el W h hsz hnm hnn hel ⟨mm, cell_keep hb hmm⟩)
  have HH2 := hid (show ∀ W : World, Below w.heap.size w W → _ from fun W hb => dhas fs none n c hn nm el W (hF.next hb) hsz hnm hnn hel)
  have HFs := hid (show ∀ (W : World) (p : Option Addr) (d : Nat), Below w.heap.size w W → FAt W p fs → _ from fun W p d hb h => fields_same fs p none n d c hn W h (hF.next hb) (by omega))
  have HN1 := hid (show ∀ W : World, Below w.heap.size w W → _ from fun W hb => num_any (oneB (valsB fs nm)).2 W (hE.next hb))
  have HSu := hid (show ∀ W : World, _ from fun W => sure_any W)
  have hLn : (valsB fs nm).length ≤ 2097152 := Nat.le_trans (vals_le fs nm) (by omega)
  obtain ⟨Y, hY⟩ : ∃ Y, hasB (valsB fs nm) el = Y := ⟨_, rfl⟩
  rw [hY] at HH1 HH2
  obtain ⟨O, hO⟩ : ∃ O, oneB (valsB fs nm) = O := ⟨_, rfl⟩
  rw [hO] at HO1 HO2 HN1
  obtain ⟨X, E⟩ := O
  dsimp only at HO1 HO2 HN1
  obtain ⟨V, hV⟩ : ∃ V, errOf E = V := ⟨_, rfl⟩
  rw [hV] at HO1 HN1
  obtain ⟨L, hL⟩ : ∃ L, valsB fs nm = L := ⟨_, rfl⟩
  rw [hL] at HV1 HV2 hLn
  have HLn := hid hLn
  obtain ⟨k, hk⟩ : ∃ k, L.length = k := ⟨_, rfl⟩
  have HK := hid hk
  have hfs : fs = [] := by
    cases fs with
    | nil => rfl
    | cons f l => obtain ⟨g, o, e, _⟩ := hF 0 f rfl; cases e
  have HFn := hid (show ∀ W : World, FAt W none fs from fun W j f h => by rw [hfs] at h; simp at h)
  have hn0 : n = 0 := by rw [← hn, hfs]; rfl
  subst hn0
  have HBw := hid (Below.refl w.heap.size w)
  clear hY hO hV hL hk hLn hF hn hE hmm hsz hfs
  go_enter Tryd.func5, Tryd.ntmps5
  go_wp2_with (first | (go_at_call 22; (with_reducible refine (HO1.out _ none 0 (HFn.out _)).mono ?_); rintro e w2 ⟨rfl, hb⟩; have HB2 := hid (below_out HBw.out hb); clear hb HO1) | (go_at_call 23; (with_reducible refine (HO2.out _ HB2.out).mono ?_); rintro e w3 ⟨rfl, hb⟩; have HB3 := hid (below_out HB2.out hb); clear hb HO2) | (go_at_call 25; (with_reducible refine (HV1.out _ none 0 (HFn.out _)).mono ?_); rintro e w4 ⟨v4, rfl, ho, hb⟩; obtain ⟨q4, d4, rfl, _⟩ := row_see ho k HK.out; have HR4 := hid ho; have HB4 := hid (below_out HB3.out hb); clear hb ho HV1) | (go_at_call 26; (with_reducible refine (HV2.out _ HB4.out).mono ?_); rintro e w5 ⟨v5, rfl, ho, hb⟩; obtain ⟨q5, d5, rfl, _⟩ := row_see ho k HK.out; have HTx := hid (texts_bel _ _ _ _ L _ HLn.out (HR4.out.keep hb) ho); have HB5 := hid (below_out HB4.out hb); clear hb ho HV2) | (go_at_call 24; (with_reducible refine HTx.out.mono ?_); rintro e w6 ⟨rfl, hb⟩; have HB6 := hid (below_out HB5.out hb); clear hb HTx) | (go_at_call 12; (with_reducible refine (HN1.out _ HB6.out).mono ?_); rintro e w7 ⟨rfl, hb⟩; have HB7 := hid (below_out HB6.out hb); clear hb HN1) | (go_at_call 27; (with_reducible refine (HH1.out _ none 0 HB7.out (HFn.out _)).mono ?_); rintro e w8 ⟨rfl, hb⟩; have HB8 := hid (below_out HB7.out hb); clear hb HH1) | (go_at_call 28; (with_reducible refine (HH2.out _ HB8.out).mono ?_); rintro e w9 ⟨rfl, hb⟩; have HB9 := hid (below_out HB8.out hb); clear hb HH2) | (go_at_call 29; (with_reducible refine (HFs.out _ none 0 HB9.out (HFn.out _)).mono ?_); rintro e w10 ⟨rfl, hb⟩; have HB10 := hid (below_out HB9.out hb); clear hb HFs) | (go_at_call 14; (with_reducible refine (HSu.out _).mono ?_); rintro e w11 ⟨rfl, hb⟩; have HB11 := hid (below_out HB10.out hb); clear hb))
  go_ret
  exact ⟨rfl, HB11.out⟩
theorem hfields_walk (fs : List (B × B)) (p : Option Addr) (n c : Nat) (hn : fs.length = n) (nm el : ByteArray) (w : World) (hF : FAt w p fs) (hsz : szB fs) (hnm : nm.size ≤ 1048576) (hnn : n ≤ 1048576) (hel : el.size ≤ 1048576) (hmx : ∃ m : Int, w.cell? ⟨1, 0, none⟩ = some (.int .i64 m)) (hE : EnvE w) :
    Calls Tryd.prog 5 #[.slice p n c, .string nm, .string el] w fun e w' => e = .returned (.bool true) ∧ Below w.heap.size w w' := by
  cases p with
  | none => exact hfields_none fs n c hn nm el w hF hsz hnm hnn hel hmx hE
  | some ad => exact hfields_some fs ad n c hn nm el w hF hsz hnm hnn hel hmx hE
end Go.Proofs.YtfmkkkkdfkjdlaaDoor
