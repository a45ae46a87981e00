/- Framing fields, one more Via, one more client, by the document. -/
import Derived.Test.YtnlmjlfoeodleaaGreatDoorOAdd
import Derived.Test.YtnlmjlfoeodleaaGreatDoorOFrm
import Derived.Test.YtnlmjlfoeodleaaGreatDoorWReq
namespace Go.Proofs.YtnlmjlfoeodleaaGreatDoor
open Go.RowKit

def frmL : List B := [clB, teB]
theorem str2 (w : World) : StrAt (w.alloc (.cells #[.string (⟨#[67, 111, 110, 116, 101, 110, 116, 45, 76, 101, 110, 103, 116, 104]⟩ : ByteArray), .string (⟨#[84, 114, 97, 110, 115, 102, 101, 114, 45, 69, 110, 99, 111, 100, 105, 110, 103]⟩ : ByteArray)] 9 (0, 0))) (some ⟨w.heap.size, 0, none⟩) frmL := by
  intro j y hj
  refine ⟨w.heap.size, 0, rfl, ?_⟩
  rw [World.cell?_alloc_new, Nat.zero_add]
  unfold frmL clB teB at hj
  rcases j with _ | _ | j <;> simp at hj <;> (subst hj; rfl)
set_option maxRecDepth 20000 in
set_option maxHeartbeats 4000000 in
theorem dframe1 (nm : B) (w : World) (hz : nm.length ≤ 140737488351232) :
    Calls Tryz.prog 48 #[.string (str nm)] w fun e w' => e = .returned (.bool (inB nm frmL)) ∧ Below w.heap.size w w' := by
  have HI := hid (din nm frmL (some ⟨w.heap.size, 0, none⟩) 2 2 rfl (w.alloc (.cells #[.string (⟨#[67, 111, 110, 116, 101, 110, 116, 45, 76, 101, 110, 103, 116, 104]⟩ : ByteArray), .string (⟨#[84, 114, 97, 110, 115, 102, 101, 114, 45, 69, 110, 99, 111, 100, 105, 110, 103]⟩ : ByteArray)] 9 (0, 0))) (str2 w) hz (by decide) (by decide))
  have HB0 := hid (below_new w (.cells #[.string (⟨#[67, 111, 110, 116, 101, 110, 116, 45, 76, 101, 110, 103, 116, 104]⟩ : ByteArray), .string (⟨#[84, 114, 97, 110, 115, 102, 101, 114, 45, 69, 110, 99, 111, 100, 105, 110, 103]⟩ : ByteArray)] 9 (0, 0)))
  go_enter Tryz.func48, Tryz.ntmps48
  go_wp2_with (go_at_call 88; (with_reducible refine HI.out.mono ?_); rintro e w1 ⟨rfl, hb⟩; have HB1 := hid (below_out HB0.out hb); clear hb HI)
  go_ret
  exact ⟨rfl, HB1.out⟩
theorem bare_filter (fs : List (B × B)) : bareF fs = fs.filter (fun f => !inB f.1 frmL) := by
  unfold bareF delB
  rw [List.filter_filter]
  congr 1
  funext f
  unfold inB frmL isF
  simp only [List.any_cons, List.any_nil, Bool.or_false]
  cases sameB (str f.1) (str clB) <;> cases sameB (str f.1) (str teB) <;> rfl
set_option maxRecDepth 20000 in
set_option maxHeartbeats 16000000 in
theorem dfrm1 (fs : List (B × B)) (L : Int) (p : Option Addr) (n c : Nat) (hn : fs.length = n) (w : World) (hF : FAt w p fs) (hsz : szW fs) (hnn : n ≤ 100000) (hL0 : -9223372036854775808 ≤ L) (hL1 : L ≤ 9223372036854775807) :
    Calls Tryz.prog 60 #[.slice p n c, .agg #[.int .i64 1, .int .i64 L]] w fun e w' => ∃ v, e = .returned v ∧ OwnF w' w.heap.size v (framF fs 1 L) ∧ Below w.heap.size w w' := by
  have HN := hid hn
  have HF := hid hF
  have HZ := hid hsz
  have HB0 := hid (below_new w (.cells #[.int .i64 1, .int .i64 L] 23 (0, 0)))
  have HX0 := hid (heap_alloc_new w (.cells #[.int .i64 1, .int .i64 L] 23 (0, 0)))
  obtain ⟨P, hP⟩ : ∃ P : B × B → Bool, (fun f : B × B => !inB f.1 frmL) = P := ⟨_, rfl⟩
  have HPe := hid (fun f : B × B => show inB f.1 frmL = !P f from by rw [← hP]; simp)
  have hbf : bareF fs = fs.filter P := by rw [bare_filter, hP]
  have HE := hid (show framF fs 1 L = fs.filter P ++ [(clB, Lib.itoa L)] from by unfold framF frmA; rw [hbf, if_pos rfl])
  have HTx := hid (show ∀ W : World, _ from fun W => dtext L W hL0 hL1)
  obtain ⟨T, hT⟩ : ∃ T, str (Lib.itoa L) = T := ⟨_, rfl⟩
  have HVA := hid hT
  rw [hT] at HTx
  clear hT
  obtain ⟨i0, hi0, hz0, hz1, hz2⟩ := info_parts infoF
  clear hn hF hsz hP hbf
  go_enter Tryz.func60, Tryz.ntmps60
  go_wp2
  go_loopg [5, 6] (n + 1) (fun gk s5 s6 wr => ∃ (i : Nat) (q : Option Addr) (k d : Nat), s5 = .slice q k d ∧ s6 = .int .i64 (i : Int) ∧ i ≤ n ∧ gk = n - i + 1 ∧ ((fs.take i).filter P).length = k ∧ OwnF wr (w.heap.size + 1) (.slice q k d) ((fs.take i).filter P) ∧ wr.heap[w.heap.size]? = some (.cells #[.int .i64 1, .int .i64 L] 23 (0, 0)) ∧ Below w.heap.size w wr)
  case atStart => exact ⟨0, none, 0, 0, rfl, rfl, by omega, rfl, rfl, OwnF.nil _ _, HX0.out, HB0.out⟩
  case round =>
    obtain ⟨i, q, k, d, rfl, rfl, hin, rfl, hk, ho, hx, hb⟩ := hrel
    rename World => wr
    have hki : k ≤ i := by rw [← hk]; exact filt_le i
    have HO := hid ho
    have HX := hid hx
    have HB := hid hb
    have HK := hid hk
    have HSz := hid (show w.heap.size + 1 ≤ wr.heap.size from Nat.succ_le_of_lt (lt_of_heap hx))
    clear ho hb hk hx HB0 HX0
    by_cases hlt : i < n
    · obtain ⟨f, hf⟩ : ∃ f, fs[i]? = some f := ⟨fs[i]'(by rw [HN.out]; exact hlt), List.getElem?_eq_getElem (by rw [HN.out]; exact hlt)⟩
      obtain ⟨g, o, hp, c0, c1⟩ := (HF.out.next HB.out) i f hf
      subst hp
      have hltI : (i : Int) < (n : Int) := by omega
      obtain ⟨z1, z2⟩ := HZ.out f (List.mem_of_getElem? hf)
      have HI := hid (show ∀ W : World, _ from fun W => dframe1 f.1 W z1)
      rw [HPe.out f] at HI
      have HYy := hid (fun (h : P f = true) => filt_yes (P := P) hf h)
      have HYn := hid (fun (h : P f = false) => filt_no (P := P) hf h)
      obtain ⟨N, hN⟩ : ∃ N, str f.1 = N := ⟨_, rfl⟩
      obtain ⟨V, hV⟩ : ∃ V, str f.2 = V := ⟨_, rfl⟩
      have HNN := hid hN
      have HVV := hid hV
      obtain ⟨R, hR⟩ : ∃ R, P f = R := ⟨_, rfl⟩
      rw [hR] at HI HYy HYn
      rw [hN] at c0 HI
      rw [hV] at c1
      clear hf hN hV z1 z2 hR
      cases R with
      | false =>
        have HY := hid (HYn.out rfl)
        go_wp2_with (go_at_call 48; (with_reducible refine (HI.out _).mono ?_); rintro e w2 ⟨rfl, hb⟩; have HB2 := hid (below_out HB.out hb); have HO2 := hid (HO.out.keep hb); have HX2 := hid ((hb.block _ (lt_of_heap HX.out)).trans HX.out); clear hb HI)
        go_roundg (n - (i + 1) + 1)
        case measure => omega
        case rel => exact ⟨i + 1, q, k, d, rfl, by go_num, by omega, rfl, by rw [HY.out]; exact HK.out, by rw [HY.out]; exact HO2.out, HX2.out, HB2.out⟩
      | true =>
        have HY := hid (HYy.out rfl)
        go_wp2_with (first | (go_at_call 48; (with_reducible refine (HI.out _).mono ?_); rintro e w2 ⟨rfl, hb⟩; have HB2 := hid (below_out HB.out hb); have HO2 := hid (HO.out.keep hb); have HX2 := hid ((hb.block _ (lt_of_heap HX.out)).trans HX.out); have x0 := cell_keep hb c0; have x1 := cell_keep hb c1; have HS2 := hid (Nat.le_trans HSz.out hb.size); clear hb HI c0 c1) | (at_builtin; refine wpList_append_own _ rfl (.tmp 20) (.tmp 25) 33 rfl (w.heap.size + 1) 88 i0 _ 2 32 Tryz.underlying33 hi0 hz0 hz1 hz2 rfl (by decide) (.slice q k d) k (fldC ((fs.take i).filter P)) (by go_simp) (by have h9 := HO2.out.alloc (.cells #[.string N, .string V] 88 (0, 0)); unfold OwnF at h9; rw [HK.out] at h9; exact h9) ⟨w2.heap.size, 0, none⟩ 1 1 [.string N, .string V] (by go_simp) rfl (cells_new w2 _ _) (by simp [Value.oneCell']) (by unfold maxLen; omega) (by omega) (Nat.le_trans HS2.out (below_new _ _).size) ?_; intro v' w7 hown' hgrow _; have hb7 := app_below' (B := w.heap.size + 1) (Below.refl _ w2) HS2.out HO2.out hgrow; have HX7 := hid ((hb7.block _ (Nat.lt_succ_self _)).trans HX2.out); have HB7 := hid (HB2.out.trans (hb7.mono (Nat.le_succ _))); obtain ⟨q', d', rfl⟩ := own_slice hown'; have HO7 := hid (show OwnF w7 (w.heap.size + 1) (.slice q' (k + 1) d') ((fs.take i).filter P ++ [f]) from OwnF.snocW HK.out.symm HNN.out HVV.out hown'); clear hown' hgrow hb7))
        go_roundg (n - (i + 1) + 1)
        case measure => omega
        case rel => exact ⟨i + 1, q', k + 1, d', rfl, by go_num, by omega, rfl, by rw [HY.out, List.length_append, HK.out]; rfl, by rw [HY.out]; exact HO7.out, HX7.out, HB7.out⟩
    · obtain rfl : i = n := by omega
      have hltI : ¬ (i : Int) < (i : Int) := by omega
      have HT := hid (show fs.take i = fs from List.take_of_length_le (by rw [HN.out]; exact Nat.le_refl _))
      rw [HT.out] at HO HK
      obtain ⟨x0, x1⟩ := box2W HX.out
      clear hlt HT
      have HNA := hid (show str clB = (⟨#[67, 111, 110, 116, 101, 110, 116, 45, 76, 101, 110, 103, 116, 104]⟩ : ByteArray) from rfl)
      go_wp2_with (first | (go_at_call 54; (with_reducible refine (HTx.out _).mono ?_); rintro e w2 ⟨rfl, hb⟩; have HB2 := hid (below_out HB.out hb); have HO2 := hid (HO.out.keep hb); have HS2 := hid (Nat.le_trans HSz.out hb.size); clear hb HTx) | (at_builtin; refine wpList_append_own _ rfl (.tmp 31) (.tmp 36) 33 rfl (w.heap.size + 1) 88 i0 _ 2 32 Tryz.underlying33 hi0 hz0 hz1 hz2 rfl (by decide) (.slice q k d) k (fldC (fs.filter P)) (by go_simp) (by have h9 := HO2.out.alloc (.cells #[.string (⟨#[67, 111, 110, 116, 101, 110, 116, 45, 76, 101, 110, 103, 116, 104]⟩ : ByteArray), .string T] 88 (0, 0)); unfold OwnF at h9; rw [HK.out] at h9; exact h9) ⟨w2.heap.size, 0, none⟩ 1 1 [.string (⟨#[67, 111, 110, 116, 101, 110, 116, 45, 76, 101, 110, 103, 116, 104]⟩ : ByteArray), .string T] (by go_simp) rfl (cells_new w2 _ _) (by simp [Value.oneCell']) (by unfold maxLen; omega) (by omega) (Nat.le_trans HS2.out (below_new _ _).size) ?_; intro v' w7 hown' hgrow _; have hb7 := app_below' (B := w.heap.size + 1) (Below.refl _ w2) HS2.out HO2.out hgrow; have HB7 := hid (HB2.out.trans (hb7.mono (Nat.le_succ _))); obtain ⟨q', d', rfl⟩ := own_slice hown'; have HO7 := hid (show OwnF w7 (w.heap.size + 1) (.slice q' (k + 1) d') (fs.filter P ++ [(clB, Lib.itoa L)]) from OwnF.snocW HK.out.symm HNA.out HVA.out hown'); clear hown' hgrow hb7))
      go_ret
      exact ⟨_, rfl, by rw [HE.out]; exact OwnF.lowW HO7.out (Nat.le_succ _), HB7.out⟩
set_option maxRecDepth 20000 in
set_option maxHeartbeats 16000000 in
theorem dfrm2 (fs : List (B × B)) (L : Int) (p : Option Addr) (n c : Nat) (hn : fs.length = n) (w : World) (hF : FAt w p fs) (hsz : szW fs) (hnn : n ≤ 100000) :
    Calls Tryz.prog 60 #[.slice p n c, .agg #[.int .i64 2, .int .i64 L]] w fun e w' => ∃ v, e = .returned v ∧ OwnF w' w.heap.size v (framF fs 2 L) ∧ Below w.heap.size w w' := by
  have HN := hid hn
  have HF := hid hF
  have HZ := hid hsz
  have HB0 := hid (below_new w (.cells #[.int .i64 2, .int .i64 L] 23 (0, 0)))
  have HX0 := hid (heap_alloc_new w (.cells #[.int .i64 2, .int .i64 L] 23 (0, 0)))
  obtain ⟨P, hP⟩ : ∃ P : B × B → Bool, (fun f : B × B => !inB f.1 frmL) = P := ⟨_, rfl⟩
  have HPe := hid (fun f : B × B => show inB f.1 frmL = !P f from by rw [← hP]; simp)
  have hbf : bareF fs = fs.filter P := by rw [bare_filter, hP]
  have HE := hid (show framF fs 2 L = fs.filter P ++ [(teB, chB)] from by unfold framF frmA; rw [hbf, if_neg (by decide), if_pos rfl])
  obtain ⟨i0, hi0, hz0, hz1, hz2⟩ := info_parts infoF
  clear hn hF hsz hP hbf
  go_enter Tryz.func60, Tryz.ntmps60
  go_wp2
  go_loopg [5, 6] (n + 1) (fun gk s5 s6 wr => ∃ (i : Nat) (q : Option Addr) (k d : Nat), s5 = .slice q k d ∧ s6 = .int .i64 (i : Int) ∧ i ≤ n ∧ gk = n - i + 1 ∧ ((fs.take i).filter P).length = k ∧ OwnF wr (w.heap.size + 1) (.slice q k d) ((fs.take i).filter P) ∧ wr.heap[w.heap.size]? = some (.cells #[.int .i64 2, .int .i64 L] 23 (0, 0)) ∧ Below w.heap.size w wr)
  case atStart => exact ⟨0, none, 0, 0, rfl, rfl, by omega, rfl, rfl, OwnF.nil _ _, HX0.out, HB0.out⟩
  case round =>
    obtain ⟨i, q, k, d, rfl, rfl, hin, rfl, hk, ho, hx, hb⟩ := hrel
    rename World => wr
    have hki : k ≤ i := by rw [← hk]; exact filt_le i
    have HO := hid ho
    have HX := hid hx
    have HB := hid hb
    have HK := hid hk
    have HSz := hid (show w.heap.size + 1 ≤ wr.heap.size from Nat.succ_le_of_lt (lt_of_heap hx))
    clear ho hb hk hx HB0 HX0
    by_cases hlt : i < n
    · obtain ⟨f, hf⟩ : ∃ f, fs[i]? = some f := ⟨fs[i]'(by rw [HN.out]; exact hlt), List.getElem?_eq_getElem (by rw [HN.out]; exact hlt)⟩
      obtain ⟨g, o, hp, c0, c1⟩ := (HF.out.next HB.out) i f hf
      subst hp
      have hltI : (i : Int) < (n : Int) := by omega
      obtain ⟨z1, z2⟩ := HZ.out f (List.mem_of_getElem? hf)
      have HI := hid (show ∀ W : World, _ from fun W => dframe1 f.1 W z1)
      rw [HPe.out f] at HI
      have HYy := hid (fun (h : P f = true) => filt_yes (P := P) hf h)
      have HYn := hid (fun (h : P f = false) => filt_no (P := P) hf h)
      obtain ⟨N, hN⟩ : ∃ N, str f.1 = N := ⟨_, rfl⟩
      obtain ⟨V, hV⟩ : ∃ V, str f.2 = V := ⟨_, rfl⟩
      have HNN := hid hN
      have HVV := hid hV
      obtain ⟨R, hR⟩ : ∃ R, P f = R := ⟨_, rfl⟩
      rw [hR] at HI HYy HYn
      rw [hN] at c0 HI
      rw [hV] at c1
      clear hf hN hV z1 z2 hR
      cases R with
      | false =>
        have HY := hid (HYn.out rfl)
        go_wp2_with (go_at_call 48; (with_reducible refine (HI.out _).mono ?_); rintro e w2 ⟨rfl, hb⟩; have HB2 := hid (below_out HB.out hb); have HO2 := hid (HO.out.keep hb); have HX2 := hid ((hb.block _ (lt_of_heap HX.out)).trans HX.out); clear hb HI)
        go_roundg (n - (i + 1) + 1)
        case measure => omega
        case rel => exact ⟨i + 1, q, k, d, rfl, by go_num, by omega, rfl, by rw [HY.out]; exact HK.out, by rw [HY.out]; exact HO2.out, HX2.out, HB2.out⟩
      | true =>
        have HY := hid (HYy.out rfl)
        go_wp2_with (first | (go_at_call 48; (with_reducible refine (HI.out _).mono ?_); rintro e w2 ⟨rfl, hb⟩; have HB2 := hid (below_out HB.out hb); have HO2 := hid (HO.out.keep hb); have HX2 := hid ((hb.block _ (lt_of_heap HX.out)).trans HX.out); have x0 := cell_keep hb c0; have x1 := cell_keep hb c1; have HS2 := hid (Nat.le_trans HSz.out hb.size); clear hb HI c0 c1) | (at_builtin; refine wpList_append_own _ rfl (.tmp 20) (.tmp 25) 33 rfl (w.heap.size + 1) 88 i0 _ 2 32 Tryz.underlying33 hi0 hz0 hz1 hz2 rfl (by decide) (.slice q k d) k (fldC ((fs.take i).filter P)) (by go_simp) (by have h9 := HO2.out.alloc (.cells #[.string N, .string V] 88 (0, 0)); unfold OwnF at h9; rw [HK.out] at h9; exact h9) ⟨w2.heap.size, 0, none⟩ 1 1 [.string N, .string V] (by go_simp) rfl (cells_new w2 _ _) (by simp [Value.oneCell']) (by unfold maxLen; omega) (by omega) (Nat.le_trans HS2.out (below_new _ _).size) ?_; intro v' w7 hown' hgrow _; have hb7 := app_below' (B := w.heap.size + 1) (Below.refl _ w2) HS2.out HO2.out hgrow; have HX7 := hid ((hb7.block _ (Nat.lt_succ_self _)).trans HX2.out); have HB7 := hid (HB2.out.trans (hb7.mono (Nat.le_succ _))); obtain ⟨q', d', rfl⟩ := own_slice hown'; have HO7 := hid (show OwnF w7 (w.heap.size + 1) (.slice q' (k + 1) d') ((fs.take i).filter P ++ [f]) from OwnF.snocW HK.out.symm HNN.out HVV.out hown'); clear hown' hgrow hb7))
        go_roundg (n - (i + 1) + 1)
        case measure => omega
        case rel => exact ⟨i + 1, q', k + 1, d', rfl, by go_num, by omega, rfl, by rw [HY.out, List.length_append, HK.out]; rfl, by rw [HY.out]; exact HO7.out, HX7.out, HB7.out⟩
    · obtain rfl : i = n := by omega
      have hltI : ¬ (i : Int) < (i : Int) := by omega
      have HT := hid (show fs.take i = fs from List.take_of_length_le (by rw [HN.out]; exact Nat.le_refl _))
      rw [HT.out] at HO HK
      obtain ⟨x0, x1⟩ := box2W HX.out
      clear hlt HT
      have HNA := hid (show str teB = (⟨#[84, 114, 97, 110, 115, 102, 101, 114, 45, 69, 110, 99, 111, 100, 105, 110, 103]⟩ : ByteArray) from rfl)
      have HVA := hid (show str chB = (⟨#[99, 104, 117, 110, 107, 101, 100]⟩ : ByteArray) from rfl)
      have HB2 := HB
      have HS2 := HSz
      go_wp2_with (at_builtin; refine wpList_append_own _ rfl (.tmp 40) (.tmp 42) 33 rfl (w.heap.size + 1) 88 i0 _ 2 32 Tryz.underlying33 hi0 hz0 hz1 hz2 rfl (by decide) (.slice q k d) k (fldC (fs.filter P)) (by go_simp) (by have h9 := HO.out.alloc (.cells #[.string (⟨#[84, 114, 97, 110, 115, 102, 101, 114, 45, 69, 110, 99, 111, 100, 105, 110, 103]⟩ : ByteArray), .string (⟨#[99, 104, 117, 110, 107, 101, 100]⟩ : ByteArray)] 88 (0, 0)); unfold OwnF at h9; rw [HK.out] at h9; exact h9) ⟨wr.heap.size, 0, none⟩ 1 1 [.string (⟨#[84, 114, 97, 110, 115, 102, 101, 114, 45, 69, 110, 99, 111, 100, 105, 110, 103]⟩ : ByteArray), .string (⟨#[99, 104, 117, 110, 107, 101, 100]⟩ : ByteArray)] (by go_simp) rfl (cells_new wr _ _) (by simp [Value.oneCell']) (by unfold maxLen; omega) (by omega) (Nat.le_trans HS2.out (below_new _ _).size) ?_; intro v' w7 hown' hgrow _; have hb7 := app_below' (B := w.heap.size + 1) (Below.refl _ wr) HS2.out HO.out hgrow; have HB7 := hid (HB2.out.trans (hb7.mono (Nat.le_succ _))); obtain ⟨q', d', rfl⟩ := own_slice hown'; have HO7 := hid (show OwnF w7 (w.heap.size + 1) (.slice q' (k + 1) d') (fs.filter P ++ [(teB, chB)]) from OwnF.snocW HK.out.symm HNA.out HVA.out hown'); clear hown' hgrow hb7)
      go_ret
      exact ⟨_, rfl, by rw [HE.out]; exact OwnF.lowW HO7.out (Nat.le_succ _), HB7.out⟩
set_option maxRecDepth 20000 in
set_option maxHeartbeats 16000000 in
theorem dfrm0 (fs : List (B × B)) (K L : Int) (p : Option Addr) (n c : Nat) (hn : fs.length = n) (w : World) (hF : FAt w p fs) (hsz : szW fs) (hnn : n ≤ 100000) (hK1 : ¬ K = 1) (hK2 : ¬ K = 2) :
    Calls Tryz.prog 60 #[.slice p n c, .agg #[.int .i64 K, .int .i64 L]] w fun e w' => ∃ v, e = .returned v ∧ OwnF w' w.heap.size v (framF fs K L) ∧ Below w.heap.size w w' := by
  have HN := hid hn
  have HF := hid hF
  have HZ := hid hsz
  have HB0 := hid (below_new w (.cells #[.int .i64 K, .int .i64 L] 23 (0, 0)))
  have HX0 := hid (heap_alloc_new w (.cells #[.int .i64 K, .int .i64 L] 23 (0, 0)))
  obtain ⟨P, hP⟩ : ∃ P : B × B → Bool, (fun f : B × B => !inB f.1 frmL) = P := ⟨_, rfl⟩
  have HPe := hid (fun f : B × B => show inB f.1 frmL = !P f from by rw [← hP]; simp)
  have hbf : bareF fs = fs.filter P := by rw [bare_filter, hP]
  have HE := hid (show framF fs K L = fs.filter P from by unfold framF frmA; rw [hbf, if_neg hK1, if_neg hK2, List.append_nil])
  obtain ⟨i0, hi0, hz0, hz1, hz2⟩ := info_parts infoF
  clear hn hF hsz hP hbf
  go_enter Tryz.func60, Tryz.ntmps60
  go_wp2
  go_loopg [5, 6] (n + 1) (fun gk s5 s6 wr => ∃ (i : Nat) (q : Option Addr) (k d : Nat), s5 = .slice q k d ∧ s6 = .int .i64 (i : Int) ∧ i ≤ n ∧ gk = n - i + 1 ∧ ((fs.take i).filter P).length = k ∧ OwnF wr (w.heap.size + 1) (.slice q k d) ((fs.take i).filter P) ∧ wr.heap[w.heap.size]? = some (.cells #[.int .i64 K, .int .i64 L] 23 (0, 0)) ∧ Below w.heap.size w wr)
  case atStart => exact ⟨0, none, 0, 0, rfl, rfl, by omega, rfl, rfl, OwnF.nil _ _, HX0.out, HB0.out⟩
  case round =>
    obtain ⟨i, q, k, d, rfl, rfl, hin, rfl, hk, ho, hx, hb⟩ := hrel
    rename World => wr
    have hki : k ≤ i := by rw [← hk]; exact filt_le i
    have HO := hid ho
    have HX := hid hx
    have HB := hid hb
    have HK := hid hk
    have HSz := hid (show w.heap.size + 1 ≤ wr.heap.size from Nat.succ_le_of_lt (lt_of_heap hx))
    clear ho hb hk hx HB0 HX0
    by_cases hlt : i < n
    · obtain ⟨f, hf⟩ : ∃ f, fs[i]? = some f := ⟨fs[i]'(by rw [HN.out]; exact hlt), List.getElem?_eq_getElem (by rw [HN.out]; exact hlt)⟩
      obtain ⟨g, o, hp, c0, c1⟩ := (HF.out.next HB.out) i f hf
      subst hp
      have hltI : (i : Int) < (n : Int) := by omega
      obtain ⟨z1, z2⟩ := HZ.out f (List.mem_of_getElem? hf)
      have HI := hid (show ∀ W : World, _ from fun W => dframe1 f.1 W z1)
      rw [HPe.out f] at HI
      have HYy := hid (fun (h : P f = true) => filt_yes (P := P) hf h)
      have HYn := hid (fun (h : P f = false) => filt_no (P := P) hf h)
      obtain ⟨N, hN⟩ : ∃ N, str f.1 = N := ⟨_, rfl⟩
      obtain ⟨V, hV⟩ : ∃ V, str f.2 = V := ⟨_, rfl⟩
      have HNN := hid hN
      have HVV := hid hV
      obtain ⟨R, hR⟩ : ∃ R, P f = R := ⟨_, rfl⟩
      rw [hR] at HI HYy HYn
      rw [hN] at c0 HI
      rw [hV] at c1
      clear hf hN hV z1 z2 hR
      cases R with
      | false =>
        have HY := hid (HYn.out rfl)
        go_wp2_with (go_at_call 48; (with_reducible refine (HI.out _).mono ?_); rintro e w2 ⟨rfl, hb⟩; have HB2 := hid (below_out HB.out hb); have HO2 := hid (HO.out.keep hb); have HX2 := hid ((hb.block _ (lt_of_heap HX.out)).trans HX.out); clear hb HI)
        go_roundg (n - (i + 1) + 1)
        case measure => omega
        case rel => exact ⟨i + 1, q, k, d, rfl, by go_num, by omega, rfl, by rw [HY.out]; exact HK.out, by rw [HY.out]; exact HO2.out, HX2.out, HB2.out⟩
      | true =>
        have HY := hid (HYy.out rfl)
        go_wp2_with (first | (go_at_call 48; (with_reducible refine (HI.out _).mono ?_); rintro e w2 ⟨rfl, hb⟩; have HB2 := hid (below_out HB.out hb); have HO2 := hid (HO.out.keep hb); have HX2 := hid ((hb.block _ (lt_of_heap HX.out)).trans HX.out); have x0 := cell_keep hb c0; have x1 := cell_keep hb c1; have HS2 := hid (Nat.le_trans HSz.out hb.size); clear hb HI c0 c1) | (at_builtin; refine wpList_append_own _ rfl (.tmp 20) (.tmp 25) 33 rfl (w.heap.size + 1) 88 i0 _ 2 32 Tryz.underlying33 hi0 hz0 hz1 hz2 rfl (by decide) (.slice q k d) k (fldC ((fs.take i).filter P)) (by go_simp) (by have h9 := HO2.out.alloc (.cells #[.string N, .string V] 88 (0, 0)); unfold OwnF at h9; rw [HK.out] at h9; exact h9) ⟨w2.heap.size, 0, none⟩ 1 1 [.string N, .string V] (by go_simp) rfl (cells_new w2 _ _) (by simp [Value.oneCell']) (by unfold maxLen; omega) (by omega) (Nat.le_trans HS2.out (below_new _ _).size) ?_; intro v' w7 hown' hgrow _; have hb7 := app_below' (B := w.heap.size + 1) (Below.refl _ w2) HS2.out HO2.out hgrow; have HX7 := hid ((hb7.block _ (Nat.lt_succ_self _)).trans HX2.out); have HB7 := hid (HB2.out.trans (hb7.mono (Nat.le_succ _))); obtain ⟨q', d', rfl⟩ := own_slice hown'; have HO7 := hid (show OwnF w7 (w.heap.size + 1) (.slice q' (k + 1) d') ((fs.take i).filter P ++ [f]) from OwnF.snocW HK.out.symm HNN.out HVV.out hown'); clear hown' hgrow hb7))
        go_roundg (n - (i + 1) + 1)
        case measure => omega
        case rel => exact ⟨i + 1, q', k + 1, d', rfl, by go_num, by omega, rfl, by rw [HY.out, List.length_append, HK.out]; rfl, by rw [HY.out]; exact HO7.out, HX7.out, HB7.out⟩
    · obtain rfl : i = n := by omega
      have hltI : ¬ (i : Int) < (i : Int) := by omega
      have HT := hid (show fs.take i = fs from List.take_of_length_le (by rw [HN.out]; exact Nat.le_refl _))
      rw [HT.out] at HO HK
      obtain ⟨x0, x1⟩ := box2W HX.out
      clear hlt HT
      go_wp2
      go_ret
      exact ⟨_, rfl, by rw [HE.out]; exact OwnF.lowW HO.out (Nat.le_succ _), HB.out⟩
theorem dframing (fs : List (B × B)) (K L : Int) (p : Option Addr) (n c : Nat) (hn : fs.length = n) (w : World) (hF : FAt w p fs) (hsz : szW fs) (hnn : n ≤ 100000) (hL0 : -9223372036854775808 ≤ L) (hL1 : L ≤ 9223372036854775807) :
    Calls Tryz.prog 60 #[.slice p n c, .agg #[.int .i64 K, .int .i64 L]] w fun e w' => ∃ v, e = .returned v ∧ OwnF w' w.heap.size v (framF fs K L) ∧ Below w.heap.size w w' := by
  by_cases h1 : K = 1
  · subst h1; exact dfrm1 fs L p n c hn w hF hsz hnn hL0 hL1
  · by_cases h2 : K = 2
    · subst h2; exact dfrm2 fs L p n c hn w hF hsz hnn
    · exact dfrm0 fs K L p n c hn w hF hsz hnn h1 h2
end Go.Proofs.YtnlmjlfoeodleaaGreatDoor
/- Requests that go on: what is told, in plain lists; the program's small functions. -/
namespace Go.Proofs.YtnlmjlfoeodleaaGreatDoor
open Go.RowKit

def expB : B := [69, 120, 112, 101, 99, 116]
def postB (m : B) : Bool := m == [80, 79, 83, 84] || m == [80, 85, 84] || m == [80, 65, 84, 67, 72]
def tellsB (m : B) (L : Int) : Bool := if postB m = true then decide (0 ≤ L) else decide (0 < L)
/-- The fields of a request that goes on. -/
def onQ1 (fs : List (B × B)) : List (B × B) := framF (delB (stripF fs) (str expB)) 0 0
def onQ2 (fs : List (B × B)) (cl : B) (k : Int) : List (B × B) := viaF (fwdF (onQ1 fs) cl) k
def onQ (m : B) (fs : List (B × B)) (cl : B) (k L : Int) : List (B × B) := if tellsB m L = true then onQ2 fs cl k ++ [(clB, Lib.itoa L)] else onQ2 fs cl k
def greatE (n e : Nat) : Nat := if 64 < n then 21 else if e = 22 then 22 else 0
theorem doc_tells (m : B) (L : Int) : (decide (0 < L) || (decide (L = 0) && postB m)) = tellsB m L := by
  unfold tellsB
  cases postB m with
  | true =>
    rw [if_pos rfl, Bool.and_true]
    by_cases h1 : 0 < L
    · rw [decide_eq_true h1, decide_eq_true (by omega : 0 ≤ L)]; rfl
    · by_cases h2 : L = 0
      · rw [decide_eq_true h2, decide_eq_true (by omega : 0 ≤ L)]; simp
      · rw [decide_eq_false h1, decide_eq_false h2, decide_eq_false (by omega)]; rfl
  | false => simp
theorem eql_errsO (w : World) (a b : Int) : (binOp .eql 29 (.iface 72 (.int .i64 a)) (.iface 72 (.int .i64 b))).run Tryz.prog w = .ok (.bool (a == b)) w := by
  obtain ⟨i, hi, hc⟩ : ∃ i, Tryz.prog.info? 72 = some i ∧ i.comparable = true := by
    have h : (Tryz.prog.info? 72).map (·.comparable) = some true := by kernel_rfl
    cases e : Tryz.prog.info? 72 with
    | none => rw [e] at h; cases h
    | some i => rw [e] at h; exact ⟨i, rfl, by simpa using h⟩
  have h : ∀ d, (Op.equalIn (d + 2) 29 (.iface 72 (.int .i64 a)) (.iface 72 (.int .i64 b))).run Tryz.prog w = .ok (a == b) w := fun d => by
    simp [Op.equalIn, run_underlying Tryz.underlying29, run_underlying Tryz.underlying72, typeInfo, hi, hc]
  simp only [binOp]
  simp [Op.equal, Op.maxDepth, h 9998]
theorem eql_noneO (w : World) (v : Value) : (binOp .eql 29 .nilIface (.iface 72 v)).run Tryz.prog w = .ok (.bool false) w := run_eql_iface_nil_left w 72 v Tryz.underlying29
set_option maxRecDepth 20000 in
set_option maxHeartbeats 4000000 in
theorem ptells (m : B) (L : Int) (w : World) : Calls Tryz.prog 41 #[.string (str m), .int .i64 L] w fun e w' => e = .returned (.bool (tellsB m L)) ∧ w' = w := by
  by_cases h0 : m = [80, 79, 83, 84]
  · have HT := hid (show tellsB m L = decide (0 ≤ L) from by unfold tellsB; rw [if_pos (by rw [h0]; decide)])
    rw [HT.out, h0]
    obtain ⟨S, hS⟩ : ∃ S, str [80, 79, 83, 84] = S := ⟨_, rfl⟩
    obtain rfl : (⟨#[80, 79, 83, 84]⟩ : ByteArray) = S := hS
    clear HT h0
    by_cases hL : 0 ≤ L
    · rw [decide_eq_true hL]
      go_enter Tryz.func41, Tryz.ntmps41
      go_wp2
      go_ret
      exact ⟨by simp, rfl⟩
    · rw [decide_eq_false hL]
      go_enter Tryz.func41, Tryz.ntmps41
      go_wp2
      go_ret
      exact ⟨by simp, rfl⟩
  by_cases h1 : m = [80, 85, 84]
  · have HT := hid (show tellsB m L = decide (0 ≤ L) from by unfold tellsB; rw [if_pos (by rw [h1]; decide)])
    rw [HT.out, h1]
    obtain ⟨S, hS⟩ : ∃ S, str [80, 85, 84] = S := ⟨_, rfl⟩
    obtain rfl : (⟨#[80, 85, 84]⟩ : ByteArray) = S := hS
    clear HT h0 h1
    by_cases hL : 0 ≤ L
    · rw [decide_eq_true hL]
      go_enter Tryz.func41, Tryz.ntmps41
      go_wp2
      go_ret
      exact ⟨by simp, rfl⟩
    · rw [decide_eq_false hL]
      go_enter Tryz.func41, Tryz.ntmps41
      go_wp2
      go_ret
      exact ⟨by simp, rfl⟩
  by_cases h2 : m = [80, 65, 84, 67, 72]
  · have HT := hid (show tellsB m L = decide (0 ≤ L) from by unfold tellsB; rw [if_pos (by rw [h2]; decide)])
    rw [HT.out, h2]
    obtain ⟨S, hS⟩ : ∃ S, str [80, 65, 84, 67, 72] = S := ⟨_, rfl⟩
    obtain rfl : (⟨#[80, 65, 84, 67, 72]⟩ : ByteArray) = S := hS
    clear HT h0 h1 h2
    by_cases hL : 0 ≤ L
    · rw [decide_eq_true hL]
      go_enter Tryz.func41, Tryz.ntmps41
      go_wp2
      go_ret
      exact ⟨by simp, rfl⟩
    · rw [decide_eq_false hL]
      go_enter Tryz.func41, Tryz.ntmps41
      go_wp2
      go_ret
      exact ⟨by simp, rfl⟩
  have HT := hid (show tellsB m L = decide (0 < L) from by unfold tellsB postB; rw [if_neg (by rw [beq_ne h0, beq_ne h1, beq_ne h2]; decide)])
  rw [HT.out]
  obtain ⟨S, hS⟩ : ∃ S, str m = S := ⟨_, rfl⟩
  obtain ⟨p0, q0⟩ := tl_ne hS h0
  replace p0 : (S.toList == (⟨#[80, 79, 83, 84]⟩ : ByteArray).toList) = false := p0
  obtain ⟨p1, q1⟩ := tl_ne hS h1
  replace p1 : (S.toList == (⟨#[80, 85, 84]⟩ : ByteArray).toList) = false := p1
  obtain ⟨p2, q2⟩ := tl_ne hS h2
  replace p2 : (S.toList == (⟨#[80, 65, 84, 67, 72]⟩ : ByteArray).toList) = false := p2
  rw [hS]
  clear HT hS h0 h1 h2
  by_cases hL : 0 < L
  · rw [decide_eq_true hL]
    go_enter Tryz.func41, Tryz.ntmps41
    go_wp2
    go_ret
    exact ⟨by simp, rfl⟩
  · rw [decide_eq_false hL]
    go_enter Tryz.func41, Tryz.ntmps41
    go_wp2
    go_ret
    exact ⟨by simp, rfl⟩
set_option maxRecDepth 20000 in
set_option maxHeartbeats 4000000 in
theorem pgreat (p : Option Addr) (n c e : Nat) (w : World) : Calls Tryz.prog 46 #[.slice p n c, errOf e] w fun r w' => r = .returned (errOf (greatE n e)) ∧ Below w.heap.size w w' := by
  have r0 := fun W => eql_noneO W (.int .i64 22)
  by_cases h1 : 64 < n
  · have HT := hid (show greatE n e = 21 from by unfold greatE; rw [if_pos h1])
    rw [HT.out]
    have h2 : (n : Int) > 64 := by omega
    go_enter Tryz.func46, Tryz.ntmps46
    go_wp2
    go_ret
    exact ⟨rfl, Below.refl _ _⟩
  · have h2 : ¬ (n : Int) > 64 := by omega
    by_cases h22 : e = 22
    · subst h22
      have HT := hid (show greatE n 22 = 22 from by unfold greatE; rw [if_neg h1, if_pos rfl])
      rw [HT.out]
      rw [show errOf 22 = .iface 72 (.int .i64 22) from rfl]
      have r8 := fun W => eql_errsO W 22 22
      go_enter Tryz.func46, Tryz.ntmps46
      go_wp2
      go_ret
      exact ⟨rfl, Below.refl _ _⟩
    · have HT := hid (show greatE n e = 0 from by unfold greatE; rw [if_neg h1, if_neg h22])
      rw [HT.out]
      by_cases h0 : e = 0
      · subst h0
        rw [show errOf 0 = .nilIface from rfl]
        go_enter Tryz.func46, Tryz.ntmps46
        go_wp2
        go_ret
        exact ⟨rfl, Below.refl _ _⟩
      · rw [show errOf 0 = .nilIface from rfl, errOf_pos h0]
        have r8 := fun W => eql_errsO W (e : Int) 22
        have h23 : ((e : Int) == 22) = false := by simp; omega
        have h24 : ¬ (e : Int) = 22 := by omega
        go_enter Tryz.func46, Tryz.ntmps46
        go_wp2
        go_ret
        exact ⟨rfl, Below.refl _ _⟩
end Go.Proofs.YtnlmjlfoeodleaaGreatDoor
