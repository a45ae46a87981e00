/- The program's Host and Keep. -/
import Derived.Test.YthakldcfpndabaaGreatDoorHHost
import Derived.Test.YthakldcfpndabaaGreatDoorPReq
import Derived.Lib.Strings
import Derived.Lib.SplitLaws
import Derived.LaidEql
namespace Go.Proofs.YthakldcfpndabaaGreatDoor
open Go.RowKit

theorem byte_missX (x : UInt8) : ∀ l : List UInt8, Lib.indexByte l x = -1 → ∀ y ∈ l, y ≠ x
  | [], _, y, hy => by simp at hy
  | b :: l, h, y, hy => by
    unfold Lib.indexByte at h
    split at h
    · simp at h
    · rename_i hb
      split at h
      · rename_i h2
        rcases List.mem_cons.1 hy with rfl | hy
        · simpa using hb
        · exact byte_missX x l (by simpa using h2) y hy
      · rename_i h2
        have := Lib.indexByte_ge l x
        simp at h2
        omega
theorem byte_hitX (x : UInt8) : ∀ (l : List UInt8) (i : Nat), Lib.indexByte l x = i → (∀ y ∈ l.take i, y ≠ x) ∧ l = l.take i ++ x :: l.drop (i + 1)
  | [], i, h => by simp [Lib.indexByte] at h
  | b :: l, i, h => by
    unfold Lib.indexByte at h
    split at h
    · rename_i hb
      have hi : i = 0 := by omega
      subst hi
      have hb' : b = x := by simpa using hb
      subst hb'
      simp
    · rename_i hb
      split at h
      · omega
      · rename_i h2
        have := Lib.indexByte_ge l x
        simp at h2
        obtain ⟨j, rfl⟩ : ∃ j, i = j + 1 := ⟨i - 1, by omega⟩
        obtain ⟨h3, h4⟩ := byte_hitX x l j (by omega)
        refine ⟨?_, ?_⟩
        · intro y hy
          rw [List.take_succ_cons] at hy
          rcases List.mem_cons.1 hy with rfl | hy
          · simpa using hb
          · exact h3 y hy
        · rw [List.take_succ_cons, List.drop_succ_cons, List.cons_append, ← h4]
theorem cut_libX (x : UInt8) (s : B) : Lib.cut s [x] = cutF x s := by
  unfold Lib.cut
  rw [Lib.index_one]
  have hge := Lib.indexByte_ge s x
  by_cases h : Lib.indexByte s x = -1
  · rw [h, if_neg (by decide), cutF_no s (byte_missX x s h)]
  · obtain ⟨i, hi⟩ : ∃ i : Nat, Lib.indexByte s x = i := ⟨(Lib.indexByte s x).toNat, by omega⟩
    obtain ⟨h1, h2⟩ := byte_hitX x s i hi
    rw [hi, if_pos (by omega)]
    conv => rhs; rw [h2]
    rw [cutF_at _ _ h1]
    rfl
theorem eql_errsH (w : World) (a b : Int) : (binOp .eql 26 (.iface 37 (.int .i64 a)) (.iface 37 (.int .i64 b))).run Tryz.prog w = .ok (.bool (a == b)) w := by
  obtain ⟨i, hi, hc⟩ : ∃ i, Tryz.prog.info? 37 = some i ∧ i.comparable = true := by
    have h : (Tryz.prog.info? 37).map (·.comparable) = some true := by kernel_rfl
    cases e : Tryz.prog.info? 37 with
    | none => rw [e] at h; cases h
    | some i => rw [e] at h; exact ⟨i, rfl, by simpa using h⟩
  have h : ∀ d, (Op.equalIn (d + 2) 26 (.iface 37 (.int .i64 a)) (.iface 37 (.int .i64 b))).run Tryz.prog w = .ok (a == b) w := fun d => by
    simp [Op.equalIn, run_underlying Tryz.underlying26, run_underlying Tryz.underlying37, typeInfo, hi, hc]
  simp only [binOp]
  simp [Op.equal, Op.maxDepth, h 9998]
theorem eql_noneH (w : World) (v : Value) : (binOp .eql 26 .nilIface (.iface 37 v)).run Tryz.prog w = .ok (.bool false) w := run_eql_iface_nil_left w 37 v Tryz.underlying26
theorem hcut_any (x : UInt8) (s : B) (hs : s.length ≤ 4294967280) (w : World) (hmx : ∃ m : Int, w.cell? ⟨1, 0, none⟩ = some (.int .i64 m)) : Calls Tryz.prog 11 #[.string (str s), .string ⟨#[x]⟩] w fun e w' => e = .returned (.tuple #[.string (str (cutF x s).1), .string (str (cutF x s).2.1), .bool (cutF x s).2.2]) ∧ Below w.heap.size w w' := by
  obtain ⟨m, hm⟩ := hmx
  refine (Tryz.strings_Cut (str s) ⟨#[x]⟩ m w (by rw [str_size]; omega) hm).mono ?_
  rintro e w' ⟨rfl, q, rfl⟩
  have e1 : Lib.cut (str s).data.toList (⟨#[x]⟩ : ByteArray).data.toList = cutF x s := cut_libX x s
  rw [e1]
  exact ⟨rfl, below_drew (Below.refl _ _) q⟩
theorem cutF_take : ∀ v : B, (cutF 58 v).1 = v.takeWhile (fun c => c != 58) ∧ (cutF 58 v).2.1 = v.drop ((v.takeWhile (fun c => c != 58)).length + 1)
  | [] => ⟨rfl, rfl⟩
  | c :: l => by
    obtain ⟨h1, h2⟩ := cutF_take l
    unfold cutF
    by_cases h : c = 58
    · subst h; simp
    · simp [h, h1, h2]
theorem cutF58_len (v : B) : (cutF 58 v).1.length ≤ v.length ∧ (cutF 58 v).2.1.length ≤ v.length := by
  obtain ⟨h1, h2⟩ := cutF_take v
  rw [h1, h2]
  refine ⟨(List.takeWhile_prefix _).length_le, ?_⟩
  rw [List.length_drop]
  omega
theorem hostP_cut (ok : B → Bool) (v : B) : hostP ok v = if (!(cutF 58 v).1.isEmpty && (cutF 58 v).1.all hostB) = true ∧ ((cutF 58 v).2.1.isEmpty || ok (cutF 58 v).2.1) = true then some ((cutF 58 v).1, (cutF 58 v).2.1) else none := by
  obtain ⟨h1, h2⟩ := cutF_take v
  unfold hostP
  rw [h1, h2]
  dsimp only
  congr 1
  simp [and_assoc, List.isEmpty_iff]
def hostOut (k : Int) (O : ByteArray × Nat) : B × B × Nat := if O.2 = 8 ∧ k = 0 then ([], [], 0) else if O.2 ≠ 0 then ([], [], O.2) else match hostP okP O.1.data.toList with | some (h, p) => (h, p, 0) | none => ([], [], 3)
def hostName : ByteArray := ⟨#[72, 111, 115, 116]⟩
theorem str_of (x : ByteArray) : str x.data.toList = x := by cases x; rfl
theorem str_nil : str [] = ⟨#[]⟩ := rfl
set_option maxRecDepth 20000 in
set_option maxHeartbeats 8000000 in
theorem phost (M T : ByteArray) (k : Int) (fs : List (B × B)) (p : Option Addr) (n c : Nat) (hn : fs.length = n) (w : World) (hF : FAt w p fs) (hsz : szB fs) (hnn : n ≤ 1048576) (hmx : ∃ m : Int, w.cell? ⟨1, 0, none⟩ = some (.int .i64 m)) :
    Calls Tryz.prog 4 #[.agg #[.string M, .string T, .int .i64 k, .slice p n c]] w fun e w' => e = .returned (.tuple #[.string (str (hostOut k (oneB (valsB fs hostName))).1), .string (str (hostOut k (oneB (valsB fs hostName))).2.1), errOf (hostOut k (oneB (valsB fs hostName))).2.2]) ∧ Below w.heap.size w w' := by
  have HO := hid (show ∀ W : World, Below w.heap.size w W → _ from fun W hb => pone fs p n c hn hostName W (hF.next hb) hsz (by decide) hnn)
  have HZ := hid (show ∀ x ∈ valsB fs hostName, x.size ≤ 1048576 from fun x hx => vals_small hsz hx)
  obtain ⟨L, hL⟩ : ∃ L, valsB fs hostName = L := ⟨_, rfl⟩
  rw [hL] at HO HZ
  rw [hL]
  unfold hostName at HO
  have r8 := fun W => eql_errsH W 8 8
  have r6 := fun W => eql_errsH W 6 8
  have r0 := fun W => eql_noneH W (.int .i64 8)
  have HB0 := hid (below_new w (.cells #[.string M, .string T, .int .i64 k, .slice p n c] 24 (0, 0)))
  have HX0 := hid (heap_alloc_new w (.cells #[.string M, .string T, .int .i64 k, .slice p n c] 24 (0, 0)))
  have HM := hid hmx
  clear hL hF hsz hn hmx
  rcases L with _ | ⟨x, _ | ⟨y, rr⟩⟩
  · rw [show oneB [] = (⟨#[]⟩, 8) from rfl] at HO
    rw [show oneB [] = (⟨#[]⟩, 8) from rfl]
    dsimp only at HO
    rw [show errOf 8 = .iface 37 (.int .i64 8) from rfl] at HO
    by_cases hk : k = 0
    · subst hk
      rw [show hostOut 0 (⟨#[]⟩, 8) = ([], [], 0) from rfl]
      go_enter Tryz.func4, Tryz.ntmps4
      go_wp2_with ((go_at_call 10; (with_reducible refine (HO.out _ HB0.out).mono ?_); rintro e w1 ⟨rfl, hb⟩; have HB1 := hid (below_out HB0.out hb); obtain ⟨y0, y1, y2, y3, _⟩ := cells4 ((hb.block _ (lt_of_heap HX0.out)).trans HX0.out); clear hb HO))
      go_ret3
      exact ⟨rfl, HB1.out⟩
    · rw [show hostOut k (⟨#[]⟩, 8) = ([], [], 8) from by unfold hostOut; rw [if_neg (fun h => hk h.2)]; rfl]
      have hk2 : (k == 0) = false := by simpa using hk
      go_enter Tryz.func4, Tryz.ntmps4
      go_wp2_with ((go_at_call 10; (with_reducible refine (HO.out _ HB0.out).mono ?_); rintro e w1 ⟨rfl, hb⟩; have HB1 := hid (below_out HB0.out hb); obtain ⟨y0, y1, y2, y3, _⟩ := cells4 ((hb.block _ (lt_of_heap HX0.out)).trans HX0.out); clear hb HO))
      go_ret3
      exact ⟨rfl, HB1.out⟩
  · rw [show oneB [x] = (x, 0) from rfl] at HO
    rw [show oneB [x] = (x, 0) from rfl]
    dsimp only at HO
    rw [show errOf 0 = .nilIface from rfl] at HO
    have hxs := HZ.out x (by simp)
    have h99 : x.data.toList.length ≤ 4294967280 := by
      have h9 : x.data.toList.length = x.size := by simp
      omega
    have HCu := hid (show ∀ W : World, Below w.heap.size w W → _ from fun W hb => hcut_any 58 x.data.toList h99 W ⟨HM.out.choose, cell_keep hb HM.out.choose_spec⟩)
    rw [str_of] at HCu
    obtain ⟨hl1, hl2⟩ := cutF58_len x.data.toList
    have h9 : x.data.toList.length = x.size := by simp
    rw [h9] at hl1 hl2
    have HHo := hid (show ∀ W : World, _ from fun W => ishost_any (cutF 58 x.data.toList).1 (by omega) W)
    have HPo := hid (show ∀ W : World, _ from fun W => isport_any (cutF 58 x.data.toList).2.1 (by omega) W)
    have HR := hid (show hostOut k (x, 0) = if (!(cutF 58 x.data.toList).1.isEmpty && (cutF 58 x.data.toList).1.all hostB) = true ∧ ((cutF 58 x.data.toList).2.1.isEmpty || okP (cutF 58 x.data.toList).2.1) = true then ((cutF 58 x.data.toList).1, (cutF 58 x.data.toList).2.1, 0) else ([], [], 3) from by
      unfold hostOut
      rw [if_neg (fun h => by cases h.1), if_neg (by simp)]
      show (match hostP okP x.data.toList with | some (h, p) => (h, p, 0) | none => ([], [], 3)) = _
      rw [hostP_cut]
      by_cases hc : (!(cutF 58 x.data.toList).1.isEmpty && (cutF 58 x.data.toList).1.all hostB) = true ∧ ((cutF 58 x.data.toList).2.1.isEmpty || okP (cutF 58 x.data.toList).2.1) = true
      · rw [if_pos hc, if_pos hc]
      · rw [if_neg hc, if_neg hc])
    rw [HR.out]
    clear HR hl1 hl2 h9
    obtain ⟨⟨a, b, t⟩, hab⟩ : ∃ q, cutF 58 x.data.toList = q := ⟨_, rfl⟩
    rw [hab] at HCu HHo HPo
    rw [hab]
    dsimp only at HCu HHo HPo
    dsimp only
    obtain ⟨bh, hbh⟩ : ∃ bh, (!a.isEmpty && a.all hostB) = bh := ⟨_, rfl⟩
    obtain ⟨bp, hbp⟩ : ∃ bp, (b.isEmpty || okP b) = bp := ⟨_, rfl⟩
    rw [hbh] at HHo
    rw [hbp] at HPo
    rw [hbh, hbp]
    obtain ⟨SA, hSA⟩ : ∃ S, str a = S := ⟨_, rfl⟩
    obtain ⟨SB, hSB⟩ : ∃ S, str b = S := ⟨_, rfl⟩
    rw [hSA] at HCu HHo
    rw [hSB] at HCu HPo
    have HSA := hid hSA
    have HSB := hid hSB
    clear hab hbh hbp hSA hSB
    cases bh with
    | false =>
      rw [if_neg (fun h => by cases h.1)]
      go_enter Tryz.func4, Tryz.ntmps4
      go_wp2_with (first | (go_at_call 10; (with_reducible refine (HO.out _ HB0.out).mono ?_); rintro e w1 ⟨rfl, hb⟩; have HB1 := hid (below_out HB0.out hb); obtain ⟨y0, y1, y2, y3, _⟩ := cells4 ((hb.block _ (lt_of_heap HX0.out)).trans HX0.out); clear hb HO) | (go_at_call 11; (with_reducible refine (HCu.out _ HB1.out).mono ?_); rintro e w2 ⟨rfl, hb⟩; have HB2 := hid (below_out HB1.out hb); clear hb HCu) | (go_at_call 12; (with_reducible refine (HHo.out _).mono ?_); rintro e w3 ⟨rfl, hb⟩; have HB3 := hid (below_out HB2.out hb); clear hb HHo))
      go_ret3
      exact ⟨rfl, HB3.out⟩
    | true =>
      cases bp with
      | false =>
        rw [if_neg (fun h => by cases h.2)]
        go_enter Tryz.func4, Tryz.ntmps4
        go_wp2_with (first | (go_at_call 10; (with_reducible refine (HO.out _ HB0.out).mono ?_); rintro e w1 ⟨rfl, hb⟩; have HB1 := hid (below_out HB0.out hb); obtain ⟨y0, y1, y2, y3, _⟩ := cells4 ((hb.block _ (lt_of_heap HX0.out)).trans HX0.out); clear hb HO) | (go_at_call 11; (with_reducible refine (HCu.out _ HB1.out).mono ?_); rintro e w2 ⟨rfl, hb⟩; have HB2 := hid (below_out HB1.out hb); clear hb HCu) | (go_at_call 12; (with_reducible refine (HHo.out _).mono ?_); rintro e w3 ⟨rfl, hb⟩; have HB3 := hid (below_out HB2.out hb); clear hb HHo) | (go_at_call 13; (with_reducible refine (HPo.out _).mono ?_); rintro e w4 ⟨rfl, hw4⟩; subst w4; clear HPo))
        go_ret3
        exact ⟨rfl, HB3.out⟩
      | true =>
        rw [if_pos ⟨rfl, rfl⟩]
        dsimp only
        rw [HSA.out, HSB.out]
        go_enter Tryz.func4, Tryz.ntmps4
        go_wp2_with (first | (go_at_call 10; (with_reducible refine (HO.out _ HB0.out).mono ?_); rintro e w1 ⟨rfl, hb⟩; have HB1 := hid (below_out HB0.out hb); obtain ⟨y0, y1, y2, y3, _⟩ := cells4 ((hb.block _ (lt_of_heap HX0.out)).trans HX0.out); clear hb HO) | (go_at_call 11; (with_reducible refine (HCu.out _ HB1.out).mono ?_); rintro e w2 ⟨rfl, hb⟩; have HB2 := hid (below_out HB1.out hb); clear hb HCu) | (go_at_call 12; (with_reducible refine (HHo.out _).mono ?_); rintro e w3 ⟨rfl, hb⟩; have HB3 := hid (below_out HB2.out hb); clear hb HHo) | (go_at_call 13; (with_reducible refine (HPo.out _).mono ?_); rintro e w4 ⟨rfl, hw4⟩; subst w4; clear HPo))
        go_ret3
        exact ⟨rfl, HB3.out⟩
  · rw [show oneB (x :: y :: rr) = (⟨#[]⟩, 6) from rfl] at HO
    rw [show oneB (x :: y :: rr) = (⟨#[]⟩, 6) from rfl]
    dsimp only at HO
    rw [show errOf 6 = .iface 37 (.int .i64 6) from rfl] at HO
    rw [show hostOut k (⟨#[]⟩, 6) = ([], [], 6) from by unfold hostOut; rw [if_neg (fun h => by cases h.1)]; rfl]
    go_enter Tryz.func4, Tryz.ntmps4
    go_wp2_with ((go_at_call 10; (with_reducible refine (HO.out _ HB0.out).mono ?_); rintro e w1 ⟨rfl, hb⟩; have HB1 := hid (below_out HB0.out hb); obtain ⟨y0, y1, y2, y3, _⟩ := cells4 ((hb.block _ (lt_of_heap HX0.out)).trans HX0.out); clear hb HO))
    go_ret3
    exact ⟨rfl, HB1.out⟩
end Go.Proofs.YthakldcfpndabaaGreatDoor
