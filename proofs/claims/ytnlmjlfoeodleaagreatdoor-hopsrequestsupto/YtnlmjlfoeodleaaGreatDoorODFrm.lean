/- Framing fields, one more Via, one more client, by the document. -/
import Derived.Test.YtnlmjlfoeodleaaGreatDoorOStr
import Derived.Test.YtnlmjlfoeodleaaGreatDoorOFrm
namespace Go.Proofs.YtnlmjlfoeodleaaGreatDoor
open Go.RowKit

def frmL : List B := [clB, teB]
theorem str2 (w : World) : StrAt (w.alloc (.cells #[.string (⟨#[67, 111, 110, 116, 101, 110, 116, 45, 76, 101, 110, 103, 116, 104]⟩ : ByteArray), .string (⟨#[84, 114, 97, 110, 115, 102, 101, 114, 45, 69, 110, 99, 111, 100, 105, 110, 103]⟩ : ByteArray)] 9 (0, 0))) (some ⟨w.heap.size, 0, none⟩) frmL := by
  intro j y hj
  refine ⟨w.heap.size, 0, rfl, ?_⟩
  rw [World.cell?_alloc_new, Nat.zero_add]
  unfold frmL clB teB at hj
  rcases j with _ | _ | j <;> simp at hj <;> (subst hj; rfl)
set_option maxRecDepth 20000 in
set_option maxHeartbeats 4000000 in
theorem dframe1 (nm : B) (w : World) (hz : nm.length ≤ 140737488351232) :
    Calls Tryz.prog 48 #[.string (str nm)] w fun e w' => e = .returned (.bool (inB nm frmL)) ∧ Below w.heap.size w w' := by
  have HI := hid (din nm frmL (some ⟨w.heap.size, 0, none⟩) 2 2 rfl (w.alloc (.cells #[.string (⟨#[67, 111, 110, 116, 101, 110, 116, 45, 76, 101, 110, 103, 116, 104]⟩ : ByteArray), .string (⟨#[84, 114, 97, 110, 115, 102, 101, 114, 45, 69, 110, 99, 111, 100, 105, 110, 103]⟩ : ByteArray)] 9 (0, 0))) (str2 w) hz (by decide) (by decide))
  have HB0 := hid (below_new w (.cells #[.string (⟨#[67, 111, 110, 116, 101, 110, 116, 45, 76, 101, 110, 103, 116, 104]⟩ : ByteArray), .string (⟨#[84, 114, 97, 110, 115, 102, 101, 114, 45, 69, 110, 99, 111, 100, 105, 110, 103]⟩ : ByteArray)] 9 (0, 0)))
  go_enter Tryz.func48, Tryz.ntmps48
  go_wp2_with (go_at_call 88; (with_reducible refine HI.out.mono ?_); rintro e w1 ⟨rfl, hb⟩; have HB1 := hid (below_out HB0.out hb); clear hb HI)
  go_ret
  exact ⟨rfl, HB1.out⟩
theorem bare_filter (fs : List (B × B)) : bareF fs = fs.filter (fun f => !inB f.1 frmL) := by
  unfold bareF delB
  rw [List.filter_filter]
  congr 1
  funext f
  unfold inB frmL isF
  simp only [List.any_cons, List.any_nil, Bool.or_false]
  cases sameB (str f.1) (str clB) <;> cases sameB (str f.1) (str teB) <;> rfl
set_option maxRecDepth 20000 in
set_option maxHeartbeats 16000000 in
theorem dfrm1 (fs : List (B × B)) (L : Int) (p : Option Addr) (n c : Nat) (hn : fs.length = n) (w : World) (hF : FAt w p fs) (hsz : szW fs) (hnn : n ≤ 100000) (hL0 : -9223372036854775808 ≤ L) (hL1 : L ≤ 9223372036854775807) :
    Calls Tryz.prog 60 #[.slice p n c, .agg #[.int .i64 1, .int .i64 L]] w fun e w' => ∃ v, e = .returned v ∧ OwnF w' w.heap.size v (framF fs 1 L) ∧ Below w.heap.size w w' := by
  have HN := hid hn
  have HF := hid hF
  have HZ := hid hsz
  have HB0 := hid (below_new w (.cells #[.int .i64 1, .int .i64 L] 23 (0, 0)))
  have HX0 := hid (heap_alloc_new w (.cells #[.int .i64 1, .int .i64 L] 23 (0, 0)))
  obtain ⟨P, hP⟩ : ∃ P : B × B → Bool, (fun f : B × B => !inB f.1 frmL) = P := ⟨_, rfl⟩
  have HPe := hid (fun f : B × B => show inB f.1 frmL = !P f from by rw [← hP]; simp)
  have hbf : bareF fs = fs.filter P := by rw [bare_filter, hP]
  have HE := hid (show framF fs 1 L = fs.filter P ++ [(clB, Lib.itoa L)] from by unfold framF frmA; rw [hbf, if_pos rfl])
  have HTx := hid (show ∀ W : World, _ from fun W => dtext L W hL0 hL1)
  obtain ⟨T, hT⟩ : ∃ T, str (Lib.itoa L) = T := ⟨_, rfl⟩
  have HVA := hid hT
  rw [hT] at HTx
  clear hT
  obtain ⟨i0, hi0, hz0, hz1, hz2⟩ := info_parts infoF
  clear hn hF hsz hP hbf
  go_enter Tryz.func60, Tryz.ntmps60
  go_wp2
  go_loopg [5, 6] (n + 1) (fun gk s5 s6 wr => ∃ (i : Nat) (q : Option Addr) (k d : Nat), s5 = .slice q k d ∧ s6 = .int .i64 (i : Int) ∧ i ≤ n ∧ gk = n - i + 1 ∧ ((fs.take i).filter P).length = k ∧ OwnF wr (w.heap.size + 1) (.slice q k d) ((fs.take i).filter P) ∧ wr.heap[w.heap.size]? = some (.cells #[.int .i64 1, .int .i64 L] 23 (0, 0)) ∧ Below w.heap.size w wr)
  case atStart => exact ⟨0, none, 0, 0, rfl, rfl, by omega, rfl, rfl, OwnF.nil _ _, HX0.out, HB0.out⟩
  case round =>
    obtain ⟨i, q, k, d, rfl, rfl, hin, rfl, hk, ho, hx, hb⟩ := hrel
    rename World => wr
    have hki : k ≤ i := by rw [← hk]; exact filt_le i
    have HO := hid ho
    have HX := hid hx
    have HB := hid hb
    have HK := hid hk
    have HSz := hid (show w.heap.size + 1 ≤ wr.heap.size from Nat.succ_le_of_lt (lt_of_heap hx))
    clear ho hb hk hx HB0 HX0
    by_cases hlt : i < n
    · obtain ⟨f, hf⟩ : ∃ f, fs[i]? = some f := ⟨fs[i]'(by rw [HN.out]; exact hlt), List.getElem?_eq_getElem (by rw [HN.out]; exact hlt)⟩
      obtain ⟨g, o, hp, c0, c1⟩ := (HF.out.next HB.out) i f hf
      subst hp
      have hltI : (i : Int) < (n : Int) := by omega
      obtain ⟨z1, z2⟩ := HZ.out f (List.mem_of_getElem? hf)
      have HI := hid (show ∀ W : World, _ from fun W => dframe1 f.1 W z1)
      rw [HPe.out f] at HI
      have HYy := hid (fun (h : P f = true) => filt_yes (P := P) hf h)
      have HYn := hid (fun (h : P f = false) => filt_no (P := P) hf h)
      obtain ⟨N, hN⟩ : ∃ N, str f.1 = N := ⟨_, rfl⟩
      obtain ⟨V, hV⟩ : ∃ V, str f.2 = V := ⟨_, rfl⟩
      have HNN := hid hN
      have HVV := hid hV
      obtain ⟨R, hR⟩ : ∃ R, P f = R := ⟨_, rfl⟩
      rw [hR] at HI HYy HYn
      rw [hN] at c0 HI
      rw [hV] at c1
      clear hf hN hV z1 z2 hR
      cases R with
      | false =>
        have HY := hid (HYn.out rfl)
        go_wp2_with (go_at_call 48; (with_reducible refine (HI.out _).mono ?_); rintro e w2 ⟨rfl, hb⟩; have HB2 := hid (below_out HB.out hb); have HO2 := hid (HO.out.keep hb); have HX2 := hid ((hb.block _ (lt_of_heap HX.out)).trans HX.out); clear hb HI)
        go_roundg (n - (i + 1) + 1)
        case measure => omega
        case rel => exact ⟨i + 1, q, k, d, rfl, by go_num, by omega, rfl, by rw [HY.out]; exact HK.out, by rw [HY.out]; exact HO2.out, HX2.out, HB2.out⟩
      | true =>
        have HY := hid (HYy.out rfl)
        go_wp2_with (first | (go_at_call 48; (with_reducible refine (HI.out _).mono ?_); rintro e w2 ⟨rfl, hb⟩; have HB2 := hid (below_out HB.out hb); have HO2 := hid (HO.out.keep hb); have HX2 := hid ((hb.block _ (lt_of_heap HX.out)).trans HX.out); have x0 := cell_keep hb c0; have x1 := cell_keep hb c1; have HS2 := hid (Nat.le_trans HSz.out hb.size); clear hb HI c0 c1) | (at_builtin; refine wpList_append_own _ rfl (.tmp 20) (.tmp 25) 33 rfl (w.heap.size + 1) 88 i0 _ 2 32 Tryz.underlying33 hi0 hz0 hz1 hz2 rfl (by decide) (.slice q k d) k (fldC ((fs.take i).filter P)) (by go_simp) (by have h9 := HO2.out.alloc (.cells #[.string N, .string V] 88 (0, 0)); unfold OwnF at h9; rw [HK.out] at h9; exact h9) ⟨w2.heap.size, 0, none⟩ 1 1 [.string N, .string V] (by go_simp) rfl (cells_new w2 _ _) (by simp [Value.oneCell']) (by unfold maxLen; omega) (by omega) (Nat.le_trans HS2.out (below_new _ _).size) ?_; intro v' w7 hown' hgrow _; have hb7 := app_below' (B := w.heap.size + 1) (Below.refl _ w2) HS2.out HO2.out hgrow; have HX7 := hid ((hb7.block _ (Nat.lt_succ_self _)).trans HX2.out); have HB7 := hid (HB2.out.trans (hb7.mono (Nat.le_succ _))); obtain ⟨q', d', rfl⟩ := own_slice hown'; have HO7 := hid (show OwnF w7 (w.heap.size + 1) (.slice q' (k + 1) d') ((fs.take i).filter P ++ [f]) from OwnF.snocW HK.out.symm HNN.out HVV.out hown'); clear hown' hgrow hb7))
        go_roundg (n - (i + 1) + 1)
        case measure => omega
        case rel => exact ⟨i + 1, q', k + 1, d', rfl, by go_num, by omega, rfl, by rw [HY.out, List.length_append, HK.out]; rfl, by rw [HY.out]; exact HO7.out, HX7.out, HB7.out⟩
    · obtain rfl : i = n := by omega
      have hltI : ¬ (i : Int) < (i : Int) := by omega
      have HT := hid (show fs.take i = fs from List.take_of_length_le (by rw [HN.out]; exact Nat.le_refl _))
      rw [HT.out] at HO HK
      obtain ⟨x0, x1⟩ := box2W HX.out
      clear hlt HT
      have HNA := hid (show str clB = (⟨#[67, 111, 110, 116, 101, 110, 116, 45, 76, 101, 110, 103, 116, 104]⟩ : ByteArray) from rfl)
      go_wp2_with (first | (go_at_call 54; (with_reducible refine (HTx.out _).mono ?_); rintro e w2 ⟨rfl, hb⟩; have HB2 := hid (below_out HB.out hb); have HO2 := hid (HO.out.keep hb); have HS2 := hid (Nat.le_trans HSz.out hb.size); clear hb HTx) | (at_builtin; refine wpList_append_own _ rfl (.tmp 31) (.tmp 36) 33 rfl (w.heap.size + 1) 88 i0 _ 2 32 Tryz.underlying33 hi0 hz0 hz1 hz2 rfl (by decide) (.slice q k d) k (fldC (fs.filter P)) (by go_simp) (by have h9 := HO2.out.alloc (.cells #[.string (⟨#[67, 111, 110, 116, 101, 110, 116, 45, 76, 101, 110, 103, 116, 104]⟩ : ByteArray), .string T] 88 (0, 0)); unfold OwnF at h9; rw [HK.out] at h9; exact h9) ⟨w2.heap.size, 0, none⟩ 1 1 [.string (⟨#[67, 111, 110, 116, 101, 110, 116, 45, 76, 101, 110, 103, 116, 104]⟩ : ByteArray), .string T] (by go_simp) rfl (cells_new w2 _ _) (by simp [Value.oneCell']) (by unfold maxLen; omega) (by omega) (Nat.le_trans HS2.out (below_new _ _).size) ?_; intro v' w7 hown' hgrow _; have hb7 := app_below' (B := w.heap.size + 1) (Below.refl _ w2) HS2.out HO2.out hgrow; have HB7 := hid (HB2.out.trans (hb7.mono (Nat.le_succ _))); obtain ⟨q', d', rfl⟩ := own_slice hown'; have HO7 := hid (show OwnF w7 (w.heap.size + 1) (.slice q' (k + 1) d') (fs.filter P ++ [(clB, Lib.itoa L)]) from OwnF.snocW HK.out.symm HNA.out HVA.out hown'); clear hown' hgrow hb7))
      go_ret
      exact ⟨_, rfl, by rw [HE.out]; exact OwnF.lowW HO7.out (Nat.le_succ _), HB7.out⟩
set_option maxRecDepth 20000 in
set_option maxHeartbeats 16000000 in
theorem dfrm2 (fs : List (B × B)) (L : Int) (p : Option Addr) (n c : Nat) (hn : fs.length = n) (w : World) (hF : FAt w p fs) (hsz : szW fs) (hnn : n ≤ 100000) :
    Calls Tryz.prog 60 #[.slice p n c, .agg #[.int .i64 2, .int .i64 L]] w fun e w' => ∃ v, e = .returned v ∧ OwnF w' w.heap.size v (framF fs 2 L) ∧ Below w.heap.size w w' := by
  have HN := hid hn
  have HF := hid hF
  have HZ := hid hsz
  have HB0 := hid (below_new w (.cells #[.int .i64 2, .int .i64 L] 23 (0, 0)))
  have HX0 := hid (heap_alloc_new w (.cells #[.int .i64 2, .int .i64 L] 23 (0, 0)))
  obtain ⟨P, hP⟩ : ∃ P : B × B → Bool, (fun f : B × B => !inB f.1 frmL) = P := ⟨_, rfl⟩
  have HPe := hid (fun f : B × B => show inB f.1 frmL = !P f from by rw [← hP]; simp)
  have hbf : bareF fs = fs.filter P := by rw [bare_filter, hP]
  have HE := hid (show framF fs 2 L = fs.filter P ++ [(teB, chB)] from by unfold framF frmA; rw [hbf, if_neg (by decide), if_pos rfl])
  obtain ⟨i0, hi0, hz0, hz1, hz2⟩ := info_parts infoF
  clear hn hF hsz hP hbf
  go_enter Tryz.func60, Tryz.ntmps60
  go_wp2
  go_loopg [5, 6] (n + 1) (fun gk s5 s6 wr => ∃ (i : Nat) (q : Option Addr) (k d : Nat), s5 = .slice q k d ∧ s6 = .int .i64 (i : Int) ∧ i ≤ n ∧ gk = n - i + 1 ∧ ((fs.take i).filter P).length = k ∧ OwnF wr (w.heap.size + 1) (.slice q k d) ((fs.take i).filter P) ∧ wr.heap[w.heap.size]? = some (.cells #[.int .i64 2, .int .i64 L] 23 (0, 0)) ∧ Below w.heap.size w wr)
  case atStart => exact ⟨0, none, 0, 0, rfl, rfl, by omega, rfl, rfl, OwnF.nil _ _, HX0.out, HB0.out⟩
  case round =>
    obtain ⟨i, q, k, d, rfl, rfl, hin, rfl, hk, ho, hx, hb⟩ := hrel
    rename World => wr
    have hki : k ≤ i := by rw [← hk]; exact filt_le i
    have HO := hid ho
    have HX := hid hx
    have HB := hid hb
    have HK := hid hk
    have HSz := hid (show w.heap.size + 1 ≤ wr.heap.size from Nat.succ_le_of_lt (lt_of_heap hx))
    clear ho hb hk hx HB0 HX0
    by_cases hlt : i < n
    · obtain ⟨f, hf⟩ : ∃ f, fs[i]? = some f := ⟨fs[i]'(by rw [HN.out]; exact hlt), List.getElem?_eq_getElem (by rw [HN.out]; exact hlt)⟩
      obtain ⟨g, o, hp, c0, c1⟩ := (HF.out.next HB.out) i f hf
      subst hp
      have hltI : (i : Int) < (n : Int) := by omega
      obtain ⟨z1, z2⟩ := HZ.out f (List.mem_of_getElem? hf)
      have HI := hid (show ∀ W : World, _ from fun W => dframe1 f.1 W z1)
      rw [HPe.out f] at HI
      have HYy := hid (fun (h : P f = true) => filt_yes (P := P) hf h)
      have HYn := hid (fun (h : P f = false) => filt_no (P := P) hf h)
      obtain ⟨N, hN⟩ : ∃ N, str f.1 = N := ⟨_, rfl⟩
      obtain ⟨V, hV⟩ : ∃ V, str f.2 = V := ⟨_, rfl⟩
      have HNN := hid hN
      have HVV := hid hV
      obtain ⟨R, hR⟩ : ∃ R, P f = R := ⟨_, rfl⟩
      rw [hR] at HI HYy HYn
      rw [hN] at c0 HI
      rw [hV] at c1
      clear hf hN hV z1 z2 hR
      cases R with
      | false =>
        have HY := hid (HYn.out rfl)
        go_wp2_with (go_at_call 48; (with_reducible refine (HI.out _).mono ?_); rintro e w2 ⟨rfl, hb⟩; have HB2 := hid (below_out HB.out hb); have HO2 := hid (HO.out.keep hb); have HX2 := hid ((hb.block _ (lt_of_heap HX.out)).trans HX.out); clear hb HI)
        go_roundg (n - (i + 1) + 1)
        case measure => omega
        case rel => exact ⟨i + 1, q, k, d, rfl, by go_num, by omega, rfl, by rw [HY.out]; exact HK.out, by rw [HY.out]; exact HO2.out, HX2.out, HB2.out⟩
      | true =>
        have HY := hid (HYy.out rfl)
        go_wp2_with (first | (go_at_call 48; (with_reducible refine (HI.out _).mono ?_); rintro e w2 ⟨rfl, hb⟩; have HB2 := hid (below_out HB.out hb); have HO2 := hid (HO.out.keep hb); have HX2 := hid ((hb.block _ (lt_of_heap HX.out)).trans HX.out); have x0 := cell_keep hb c0; have x1 := cell_keep hb c1; have HS2 := hid (Nat.le_trans HSz.out hb.size); clear hb HI c0 c1) | (at_builtin; refine wpList_append_own _ rfl (.tmp 20) (.tmp 25) 33 rfl (w.heap.size + 1) 88 i0 _ 2 32 Tryz.underlying33 hi0 hz0 hz1 hz2 rfl (by decide) (.slice q k d) k (fldC ((fs.take i).filter P)) (by go_simp) (by have h9 := HO2.out.alloc (.cells #[.string N, .string V] 88 (0, 0)); unfold OwnF at h9; rw [HK.out] at h9; exact h9) ⟨w2.heap.size, 0, none⟩ 1 1 [.string N, .string V] (by go_simp) rfl (cells_new w2 _ _) (by simp [Value.oneCell']) (by unfold maxLen; omega) (by omega) (Nat.le_trans HS2.out (below_new _ _).size) ?_; intro v' w7 hown' hgrow _; have hb7 := app_below' (B := w.heap.size + 1) (Below.refl _ w2) HS2.out HO2.out hgrow; have HX7 := hid ((hb7.block _ (Nat.lt_succ_self _)).trans HX2.out); have HB7 := hid (HB2.out.trans (hb7.mono (Nat.le_succ _))); obtain ⟨q', d', rfl⟩ := own_slice hown'; have HO7 := hid (show OwnF w7 (w.heap.size + 1) (.slice q' (k + 1) d') ((fs.take i).filter P ++ [f]) from OwnF.snocW HK.out.symm HNN.out HVV.out hown'); clear hown' hgrow hb7))
        go_roundg (n - (i + 1) + 1)
        case measure => omega
        case rel => exact ⟨i + 1, q', k + 1, d', rfl, by go_num, by omega, rfl, by rw [HY.out, List.length_append, HK.out]; rfl, by rw [HY.out]; exact HO7.out, HX7.out, HB7.out⟩
    · obtain rfl : i = n := by omega
      have hltI : ¬ (i : Int) < (i : Int) := by omega
      have HT := hid (show fs.take i = fs from List.take_of_length_le (by rw [HN.out]; exact Nat.le_refl _))
      rw [HT.out] at HO HK
      obtain ⟨x0, x1⟩ := box2W HX.out
      clear hlt HT
      have HNA := hid (show str teB = (⟨#[84, 114, 97, 110, 115, 102, 101, 114, 45, 69, 110, 99, 111, 100, 105, 110, 103]⟩ : ByteArray) from rfl)
      have HVA := hid (show str chB = (⟨#[99, 104, 117, 110, 107, 101, 100]⟩ : ByteArray) from rfl)
      have HB2 := HB
      have HS2 := HSz
      go_wp2_with (at_builtin; refine wpList_append_own _ rfl (.tmp 40) (.tmp 42) 33 rfl (w.heap.size + 1) 88 i0 _ 2 32 Tryz.underlying33 hi0 hz0 hz1 hz2 rfl (by decide) (.slice q k d) k (fldC (fs.filter P)) (by go_simp) (by have h9 := HO.out.alloc (.cells #[.string (⟨#[84, 114, 97, 110, 115, 102, 101, 114, 45, 69, 110, 99, 111, 100, 105, 110, 103]⟩ : ByteArray), .string (⟨#[99, 104, 117, 110, 107, 101, 100]⟩ : ByteArray)] 88 (0, 0)); unfold OwnF at h9; rw [HK.out] at h9; exact h9) ⟨wr.heap.size, 0, none⟩ 1 1 [.string (⟨#[84, 114, 97, 110, 115, 102, 101, 114, 45, 69, 110, 99, 111, 100, 105, 110, 103]⟩ : ByteArray), .string (⟨#[99, 104, 117, 110, 107, 101, 100]⟩ : ByteArray)] (by go_simp) rfl (cells_new wr _ _) (by simp [Value.oneCell']) (by unfold maxLen; omega) (by omega) (Nat.le_trans HS2.out (below_new _ _).size) ?_; intro v' w7 hown' hgrow _; have hb7 := app_below' (B := w.heap.size + 1) (Below.refl _ wr) HS2.out HO.out hgrow; have HB7 := hid (HB2.out.trans (hb7.mono (Nat.le_succ _))); obtain ⟨q', d', rfl⟩ := own_slice hown'; have HO7 := hid (show OwnF w7 (w.heap.size + 1) (.slice q' (k + 1) d') (fs.filter P ++ [(teB, chB)]) from OwnF.snocW HK.out.symm HNA.out HVA.out hown'); clear hown' hgrow hb7)
      go_ret
      exact ⟨_, rfl, by rw [HE.out]; exact OwnF.lowW HO7.out (Nat.le_succ _), HB7.out⟩
set_option maxRecDepth 20000 in
set_option maxHeartbeats 16000000 in
theorem dfrm0 (fs : List (B × B)) (K L : Int) (p : Option Addr) (n c : Nat) (hn : fs.length = n) (w : World) (hF : FAt w p fs) (hsz : szW fs) (hnn : n ≤ 100000) (hK1 : ¬ K = 1) (hK2 : ¬ K = 2) :
    Calls Tryz.prog 60 #[.slice p n c, .agg #[.int .i64 K, .int .i64 L]] w fun e w' => ∃ v, e = .returned v ∧ OwnF w' w.heap.size v (framF fs K L) ∧ Below w.heap.size w w' := by
  have HN := hid hn
  have HF := hid hF
  have HZ := hid hsz
  have HB0 := hid (below_new w (.cells #[.int .i64 K, .int .i64 L] 23 (0, 0)))
  have HX0 := hid (heap_alloc_new w (.cells #[.int .i64 K, .int .i64 L] 23 (0, 0)))
  obtain ⟨P, hP⟩ : ∃ P : B × B → Bool, (fun f : B × B => !inB f.1 frmL) = P := ⟨_, rfl⟩
  have HPe := hid (fun f : B × B => show inB f.1 frmL = !P f from by rw [← hP]; simp)
  have hbf : bareF fs = fs.filter P := by rw [bare_filter, hP]
  have HE := hid (show framF fs K L = fs.filter P from by unfold framF frmA; rw [hbf, if_neg hK1, if_neg hK2, List.append_nil])
  obtain ⟨i0, hi0, hz0, hz1, hz2⟩ := info_parts infoF
  clear hn hF hsz hP hbf
  go_enter Tryz.func60, Tryz.ntmps60
  go_wp2
  go_loopg [5, 6] (n + 1) (fun gk s5 s6 wr => ∃ (i : Nat) (q : Option Addr) (k d : Nat), s5 = .slice q k d ∧ s6 = .int .i64 (i : Int) ∧ i ≤ n ∧ gk = n - i + 1 ∧ ((fs.take i).filter P).length = k ∧ OwnF wr (w.heap.size + 1) (.slice q k d) ((fs.take i).filter P) ∧ wr.heap[w.heap.size]? = some (.cells #[.int .i64 K, .int .i64 L] 23 (0, 0)) ∧ Below w.heap.size w wr)
  case atStart => exact ⟨0, none, 0, 0, rfl, rfl, by omega, rfl, rfl, OwnF.nil _ _, HX0.out, HB0.out⟩
  case round =>
    obtain ⟨i, q, k, d, rfl, rfl, hin, rfl, hk, ho, hx, hb⟩ := hrel
    rename World => wr
    have hki : k ≤ i := by rw [← hk]; exact filt_le i
    have HO := hid ho
    have HX := hid hx
    have HB := hid hb
    have HK := hid hk
    have HSz := hid (show w.heap.size + 1 ≤ wr.heap.size from Nat.succ_le_of_lt (lt_of_heap hx))
    clear ho hb hk hx HB0 HX0
    by_cases hlt : i < n
    · obtain ⟨f, hf⟩ : ∃ f, fs[i]? = some f := ⟨fs[i]'(by rw [HN.out]; exact hlt), List.getElem?_eq_getElem (by rw [HN.out]; exact hlt)⟩
      obtain ⟨g, o, hp, c0, c1⟩ := (HF.out.next HB.out) i f hf
      subst hp
      have hltI : (i : Int) < (n : Int) := by omega
      obtain ⟨z1, z2⟩ := HZ.out f (List.mem_of_getElem? hf)
      have HI := hid (show ∀ W : World, _ from fun W => dframe1 f.1 W z1)
      rw [HPe.out f] at HI
      have HYy := hid (fun (h : P f = true) => filt_yes (P := P) hf h)
      have HYn := hid (fun (h : P f = false) => filt_no (P := P) hf h)
      obtain ⟨N, hN⟩ : ∃ N, str f.1 = N := ⟨_, rfl⟩
      obtain ⟨V, hV⟩ : ∃ V, str f.2 = V := ⟨_, rfl⟩
      have HNN := hid hN
      have HVV := hid hV
      obtain ⟨R, hR⟩ : ∃ R, P f = R := ⟨_, rfl⟩
      rw [hR] at HI HYy HYn
      rw [hN] at c0 HI
      rw [hV] at c1
      clear hf hN hV z1 z2 hR
      cases R with
      | false =>
        have HY := hid (HYn.out rfl)
        go_wp2_with (go_at_call 48; (with_reducible refine (HI.out _).mono ?_); rintro e w2 ⟨rfl, hb⟩; have HB2 := hid (below_out HB.out hb); have HO2 := hid (HO.out.keep hb); have HX2 := hid ((hb.block _ (lt_of_heap HX.out)).trans HX.out); clear hb HI)
        go_roundg (n - (i + 1) + 1)
        case measure => omega
        case rel => exact ⟨i + 1, q, k, d, rfl, by go_num, by omega, rfl, by rw [HY.out]; exact HK.out, by rw [HY.out]; exact HO2.out, HX2.out, HB2.out⟩
      | true =>
        have HY := hid (HYy.out rfl)
        go_wp2_with (first | (go_at_call 48; (with_reducible refine (HI.out _).mono ?_); rintro e w2 ⟨rfl, hb⟩; have HB2 := hid (below_out HB.out hb); have HO2 := hid (HO.out.keep hb); have HX2 := hid ((hb.block _ (lt_of_heap HX.out)).trans HX.out); have x0 := cell_keep hb c0; have x1 := cell_keep hb c1; have HS2 := hid (Nat.le_trans HSz.out hb.size); clear hb HI c0 c1) | (at_builtin; refine wpList_append_own _ rfl (.tmp 20) (.tmp 25) 33 rfl (w.heap.size + 1) 88 i0 _ 2 32 Tryz.underlying33 hi0 hz0 hz1 hz2 rfl (by decide) (.slice q k d) k (fldC ((fs.take i).filter P)) (by go_simp) (by have h9 := HO2.out.alloc (.cells #[.string N, .string V] 88 (0, 0)); unfold OwnF at h9; rw [HK.out] at h9; exact h9) ⟨w2.heap.size, 0, none⟩ 1 1 [.string N, .string V] (by go_simp) rfl (cells_new w2 _ _) (by simp [Value.oneCell']) (by unfold maxLen; omega) (by omega) (Nat.le_trans HS2.out (below_new _ _).size) ?_; intro v' w7 hown' hgrow _; have hb7 := app_below' (B := w.heap.size + 1) (Below.refl _ w2) HS2.out HO2.out hgrow; have HX7 := hid ((hb7.block _ (Nat.lt_succ_self _)).trans HX2.out); have HB7 := hid (HB2.out.trans (hb7.mono (Nat.le_succ _))); obtain ⟨q', d', rfl⟩ := own_slice hown'; have HO7 := hid (show OwnF w7 (w.heap.size + 1) (.slice q' (k + 1) d') ((fs.take i).filter P ++ [f]) from OwnF.snocW HK.out.symm HNN.out HVV.out hown'); clear hown' hgrow hb7))
        go_roundg (n - (i + 1) + 1)
        case measure => omega
        case rel => exact ⟨i + 1, q', k + 1, d', rfl, by go_num, by omega, rfl, by rw [HY.out, List.length_append, HK.out]; rfl, by rw [HY.out]; exact HO7.out, HX7.out, HB7.out⟩
    · obtain rfl : i = n := by omega
      have hltI : ¬ (i : Int) < (i : Int) := by omega
      have HT := hid (show fs.take i = fs from List.take_of_length_le (by rw [HN.out]; exact Nat.le_refl _))
      rw [HT.out] at HO HK
      obtain ⟨x0, x1⟩ := box2W HX.out
      clear hlt HT
      go_wp2
      go_ret
      exact ⟨_, rfl, by rw [HE.out]; exact OwnF.lowW HO.out (Nat.le_succ _), HB.out⟩
theorem dframing (fs : List (B × B)) (K L : Int) (p : Option Addr) (n c : Nat) (hn : fs.length = n) (w : World) (hF : FAt w p fs) (hsz : szW fs) (hnn : n ≤ 100000) (hL0 : -9223372036854775808 ≤ L) (hL1 : L ≤ 9223372036854775807) :
    Calls Tryz.prog 60 #[.slice p n c, .agg #[.int .i64 K, .int .i64 L]] w fun e w' => ∃ v, e = .returned v ∧ OwnF w' w.heap.size v (framF fs K L) ∧ Below w.heap.size w w' := by
  by_cases h1 : K = 1
  · subst h1; exact dfrm1 fs L p n c hn w hF hsz hnn hL0 hL1
  · by_cases h2 : K = 2
    · subst h2; exact dfrm2 fs L p n c hn w hF hsz hnn
    · exact dfrm0 fs K L p n c hn w hF hsz hnn h1 h2
set_option maxRecDepth 20000 in
set_option maxHeartbeats 4000000 in
theorem dvia1 (fs : List (B × B)) (M : Int) (p : Option Addr) (n c : Nat) (hn : fs.length = n) (hc0 : p = none → c = 0) (w : World) (hF : FAt w p fs) (hnn : n ≤ 100000) (hM : M = 1) :
    Calls Tryz.prog 50 #[.slice p n c, .int .i64 M] w fun e w' => ToldF w (viaF fs M) (n + 1) e w' := by
  have HAd0 := hid (dadd fs p n c hn viaN [49, 46, 49, 32, 116, 117, 114, 110, 115, 116, 105, 108, 101] w hF hc0 (by omega))
  have HE := hid (show viaF fs M = fs ++ [(viaN, [49, 46, 49, 32, 116, 117, 114, 110, 115, 116, 105, 108, 101])] from by unfold viaF viaV; rw [if_pos hM])
  rw [HE.out]
  have HAd := hid (show Calls Tryz.prog 53 #[.slice p n c, .string (⟨#[86, 105, 97]⟩ : ByteArray), .string (⟨#[49, 46, 49, 32, 116, 117, 114, 110, 115, 116, 105, 108, 101]⟩ : ByteArray)] w _ from HAd0.out)
  subst hM
  clear hF hn HAd0 HE
  go_enter Tryz.func50, Tryz.ntmps50
  go_wp2_with (go_at_call 53; (with_reducible refine HAd.out.mono ?_); rintro e w9 ⟨q9, d9, rfl, hf, hb⟩; have HF9 := hid hf; have HB9 := hid hb; clear hb hf HAd)
  go_ret
  exact toldF_mk rfl HF9.out HB9.out
set_option maxRecDepth 20000 in
set_option maxHeartbeats 4000000 in
theorem dvia0 (fs : List (B × B)) (M : Int) (p : Option Addr) (n c : Nat) (hn : fs.length = n) (hc0 : p = none → c = 0) (w : World) (hF : FAt w p fs) (hnn : n ≤ 100000) (hM : ¬ M = 1) :
    Calls Tryz.prog 50 #[.slice p n c, .int .i64 M] w fun e w' => ToldF w (viaF fs M) (n + 1) e w' := by
  have HAd0 := hid (dadd fs p n c hn viaN [49, 46, 48, 32, 116, 117, 114, 110, 115, 116, 105, 108, 101] w hF hc0 (by omega))
  have HE := hid (show viaF fs M = fs ++ [(viaN, [49, 46, 48, 32, 116, 117, 114, 110, 115, 116, 105, 108, 101])] from by unfold viaF viaV; rw [if_neg hM])
  rw [HE.out]
  have HAd := hid (show Calls Tryz.prog 53 #[.slice p n c, .string (⟨#[86, 105, 97]⟩ : ByteArray), .string (⟨#[49, 46, 48, 32, 116, 117, 114, 110, 115, 116, 105, 108, 101]⟩ : ByteArray)] w _ from HAd0.out)
  clear hF hn HAd0 HE
  go_enter Tryz.func50, Tryz.ntmps50
  go_wp2_with (go_at_call 53; (with_reducible refine HAd.out.mono ?_); rintro e w9 ⟨q9, d9, rfl, hf, hb⟩; have HF9 := hid hf; have HB9 := hid hb; clear hb hf HAd)
  go_ret
  exact toldF_mk rfl HF9.out HB9.out
theorem dvia (fs : List (B × B)) (M : Int) (p : Option Addr) (n c : Nat) (hn : fs.length = n) (hc0 : p = none → c = 0) (w : World) (hF : FAt w p fs) (hnn : n ≤ 100000) :
    Calls Tryz.prog 50 #[.slice p n c, .int .i64 M] w fun e w' => ToldF w (viaF fs M) (n + 1) e w' := by
  by_cases h1 : M = 1
  · exact dvia1 fs M p n c hn hc0 w hF hnn h1
  · exact dvia0 fs M p n c hn hc0 w hF hnn h1
theorem getB_has {fs : List (B × B)} {nm : ByteArray} (h : ¬ (getB fs nm).1.data.toList = []) : (getB fs nm).2 = true := by
  unfold getB at h ⊢
  split
  · rfl
  · rename_i e
    rw [e] at h
    exact absurd rfl h
set_option maxRecDepth 20000 in
set_option maxHeartbeats 8000000 in
theorem dfwd0 (fs : List (B × B)) (cl : B) (p : Option Addr) (n c : Nat) (hn : fs.length = n) (hc0 : p = none → c = 0) (w : World) (hF : FAt w p fs) (hsz : szW fs) (hnn : n ≤ 100000) (hG : (getB fs (str xfB)).1.data.toList = []) :
    Calls Tryz.prog 51 #[.slice p n c, .string (str cl)] w fun e w' => ToldF w (fwdF fs cl) (fwdF fs cl).length e w' := by
  have HGe1 := hid (dget fs p n c hn (str xfB) w hF hsz (by decide) (by omega))
  have HV := hid (show fwdV fs cl = cl from by unfold fwdV; rw [if_pos hG])
  have HSt0 := hid (show ∀ W : World, Below w.heap.size w W → _ from fun W hb => dset fs p n c hn xfB (fwdV fs cl) W (hF.next hb) hsz (by decide) hc0 (by omega))
  rw [show setB fs (str xfB) (xfB, fwdV fs cl) = fwdF fs cl from rfl] at HSt0
  obtain ⟨R, hR⟩ : ∃ R, fwdF fs cl = R := ⟨_, rfl⟩
  rw [hR] at HSt0
  rw [hR]
  rw [HV.out] at HSt0
  have HAd := hid (show ∀ W : World, Below w.heap.size w W → Calls Tryz.prog 91 #[.slice p n c, .string (⟨#[88, 45, 70, 111, 114, 119, 97, 114, 100, 101, 100, 45, 70, 111, 114]⟩ : ByteArray), .string (str cl)] W _ from HSt0.out)
  have hS0 : (getB fs (str xfB)).1 = ⟨#[]⟩ := by
    rw [← str_back (getB fs (str xfB)).1, hG]
  obtain ⟨S2, hS2⟩ : ∃ S2, (getB fs (str xfB)).2 = S2 := ⟨_, rfl⟩
  have HGe := hid (show Calls Tryz.prog 90 #[.slice p n c, .string (⟨#[88, 45, 70, 111, 114, 119, 97, 114, 100, 101, 100, 45, 70, 111, 114]⟩ : ByteArray)] w fun e w' => e = .returned (.tuple #[.string ⟨#[]⟩, .bool S2]) ∧ Below w.heap.size w w' from by
    have h := HGe1.out
    rw [hS0, hS2] at h
    exact h)
  clear hS0 hS2 HSt0 hR hG
  clear hF hsz hn HGe1
  cases S2 with
  | true =>
    go_enter Tryz.func51, Tryz.ntmps51
    go_wp2_with (first | (go_at_call 90; (with_reducible refine HGe.out.mono ?_); rintro e w3 ⟨rfl, hb⟩; have HB3 := hid hb; clear hb HGe) | (go_at_call 91; (with_reducible refine (HAd.out _ HB3.out).mono ?_); rintro e w9 ⟨q9, d9, rfl, hf, hb⟩; have HF9 := hid hf; have HB9 := hid (below_out HB3.out hb); clear hb hf HAd))
    go_ret
    exact toldF_mk rfl HF9.out HB9.out
  | false =>
    go_enter Tryz.func51, Tryz.ntmps51
    go_wp2_with (first | (go_at_call 90; (with_reducible refine HGe.out.mono ?_); rintro e w3 ⟨rfl, hb⟩; have HB3 := hid hb; clear hb HGe) | (go_at_call 91; (with_reducible refine (HAd.out _ HB3.out).mono ?_); rintro e w9 ⟨q9, d9, rfl, hf, hb⟩; have HF9 := hid hf; have HB9 := hid (below_out HB3.out hb); clear hb hf HAd))
    go_ret
    exact toldF_mk rfl HF9.out HB9.out
set_option maxRecDepth 20000 in
set_option maxHeartbeats 8000000 in
theorem dfwd1 (fs : List (B × B)) (cl : B) (p : Option Addr) (n c : Nat) (hn : fs.length = n) (hc0 : p = none → c = 0) (w : World) (hF : FAt w p fs) (hsz : szW fs) (hnn : n ≤ 100000) (hcl : cl.length ≤ 35184372088832) (hvz : ∀ f ∈ fs, f.2.length ≤ 35184372088832) (hG : ¬ (getB fs (str xfB)).1.data.toList = []) :
    Calls Tryz.prog 51 #[.slice p n c, .string (str cl)] w fun e w' => ToldF w (fwdF fs cl) (fwdF fs cl).length e w' := by
  have hgz := getB_small (nm := str xfB) hvz
  have HGe1 := hid (dget fs p n c hn (str xfB) w hF hsz (by decide) (by omega))
  obtain ⟨S, hS⟩ : ∃ S, (getB fs (str xfB)).1 = S := ⟨_, rfl⟩
  have hS2 : (getB fs (str xfB)).2 = true := getB_has hG
  rw [hS] at hG hgz
  have HV := hid (show str (fwdV fs cl) = (S ++ (⟨#[44, 32]⟩ : ByteArray)) ++ str cl from by
    unfold fwdV
    rw [hS, if_neg hG]
    apply ByteArray.ext
    simp [str])
  have HSt0 := hid (show ∀ W : World, Below w.heap.size w W → _ from fun W hb => dset fs p n c hn xfB (fwdV fs cl) W (hF.next hb) hsz (by decide) hc0 (by omega))
  rw [show setB fs (str xfB) (xfB, fwdV fs cl) = fwdF fs cl from rfl] at HSt0
  obtain ⟨R, hR⟩ : ∃ R, fwdF fs cl = R := ⟨_, rfl⟩
  rw [hR] at HSt0
  rw [hR]
  rw [HV.out] at HSt0
  have hcs : (str cl).size ≤ 35184372088832 := by rw [str_size]; exact hcl
  obtain ⟨C, hC⟩ : ∃ C, str cl = C := ⟨_, rfl⟩
  rw [hC] at HSt0 hcs
  rw [hC]
  have HAd := hid (show ∀ W : World, Below w.heap.size w W → Calls Tryz.prog 91 #[.slice p n c, .string (⟨#[88, 45, 70, 111, 114, 119, 97, 114, 100, 101, 100, 45, 70, 111, 114]⟩ : ByteArray), .string ((S ++ (⟨#[44, 32]⟩ : ByteArray)) ++ C)] W _ from HSt0.out)
  have hne : ¬ S = ⟨#[]⟩ := fun e => hG (by rw [e])
  have hn1 : (S.toList == (⟨#[]⟩ : ByteArray).toList) = false := ne_list hne
  have hn4 : ¬ S.toList = [] := by rw [Lib.toList_data]; exact hG
  have hn2 : (S.toList == []) = false := by
    cases h : S.toList with
    | nil => exact absurd h hn4
    | cons a l => rfl
  have hn3 : S.toList.isEmpty = false := by
    cases h : S.toList with
    | nil => exact absurd h hn4
    | cons a l => rfl
  have HGe := hid (show Calls Tryz.prog 90 #[.slice p n c, .string (⟨#[88, 45, 70, 111, 114, 119, 97, 114, 100, 101, 100, 45, 70, 111, 114]⟩ : ByteArray)] w fun e w' => e = .returned (.tuple #[.string S, .bool true]) ∧ Below w.heap.size w w' from by
    have h := HGe1.out
    rw [hS, hS2] at h
    exact h)
  clear hS hS2 HSt0 hR hG hC hne HV
  clear hF hsz hn HGe1
  go_enter Tryz.func51, Tryz.ntmps51
  go_wp2_with (first | (go_at_call 90; (with_reducible refine HGe.out.mono ?_); rintro e w3 ⟨rfl, hb⟩; have HB3 := hid hb; clear hb HGe) | (go_at_call 91; (with_reducible refine (HAd.out _ HB3.out).mono ?_); rintro e w9 ⟨q9, d9, rfl, hf, hb⟩; have HF9 := hid hf; have HB9 := hid (below_out HB3.out hb); clear hb hf HAd))
  go_ret
  exact toldF_mk rfl HF9.out HB9.out
theorem dforwarded (fs : List (B × B)) (cl : B) (p : Option Addr) (n c : Nat) (hn : fs.length = n) (hc0 : p = none → c = 0) (w : World) (hF : FAt w p fs) (hsz : szW fs) (hnn : n ≤ 100000) (hcl : cl.length ≤ 35184372088832) (hvz : ∀ f ∈ fs, f.2.length ≤ 35184372088832) :
    Calls Tryz.prog 51 #[.slice p n c, .string (str cl)] w fun e w' => ToldF w (fwdF fs cl) (fwdF fs cl).length e w' := by
  by_cases h1 : (getB fs (str xfB)).1.data.toList = []
  · exact dfwd0 fs cl p n c hn hc0 w hF hsz hnn h1
  · exact dfwd1 fs cl p n c hn hc0 w hF hsz hnn hcl hvz h1
end Go.Proofs.YtnlmjlfoeodleaaGreatDoor
