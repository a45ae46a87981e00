/- The document's paths and queries; what stands ahead of a byte and behind it; small letters. -/
import Derived.Test.YtbdbmlklijmefaaDoorRMade
import Derived.Maps.AppendAt
import Derived.Laws.BitsLemmas
namespace Go.Proofs.YtbdbmlklijmefaaDoor
open Go.RowKit

theorem arr_inj {a b : ByteArray} (h : a.data.toList = b.data.toList) : a = b := by
  apply ByteArray.ext
  exact Array.toList_inj.1 h
theorem str_inj {a b : B} (h : str a = str b) : a = b := by
  have := congrArg (fun x : ByteArray => x.data.toList) h
  simpa using this
theorem ne_list {A C : ByteArray} (h : ¬ A = C) : (A.toList == C.toList) = false := by
  rw [ByteArray.toList_eq, ByteArray.toList_eq, beq_eq_false_iff_ne]
  exact fun e => h (arr_inj e)
theorem ne_empty {A : ByteArray} (h : ¬ A = ⟨#[]⟩) : A.toList.isEmpty = false := by
  rw [ByteArray.toList_eq]
  cases e : A.data.toList with
  | nil => exact absurd (arr_inj (b := ⟨#[]⟩) e) h
  | cons _ _ => rfl
theorem str_ne {a b : B} (h : a ≠ b) : str a ≠ str b := fun e => h (str_inj e)
theorem ext_str (p : B) (f k : Nat) : (str p).extract f k = str ((p.drop f).take (k - f)) := by
  apply arr_inj
  simp [List.extract]
theorem below_out {w W w' : World} (h1 : Below w.heap.size w W) (h2 : Below W.heap.size W w') : Below w.heap.size w w' := h1.trans (h2.mono h1.size)
set_option maxRecDepth 20000 in
set_option maxHeartbeats 8000000 in
theorem rpath_any (s : B) (hs : s.length ≤ 35184372088832) (w : World) : Calls Tryd.prog 38 #[.string (str s)] w fun e w' => e = .returned (.bool (isPath s)) ∧ Below w.heap.size w w' := by
  have HM := hid (made_any s [47] true hs (by decide))
  cases s with
  | nil =>
    clear HM hs
    rw [show isPath [] = false from by decide]
    go_enter Tryd.func38, Tryd.ntmps38
    go_wp2
    go_ret
    exact ⟨rfl, Below.refl _ _⟩
  | cons c l =>
    have hq := ne_empty (A := str (c :: l)) (str_ne (a := c :: l) (b := []) (by simp))
    have e0 : isPath (c :: l) = (decide (c = 47) && made [47] true (c :: l)) := by simp [isPath]
    rw [e0]
    obtain ⟨M, hM⟩ : ∃ M, made [47] true (c :: l) = M := ⟨_, rfl⟩
    rw [hM] at HM ⊢
    have hsz : 0 < (str (c :: l)).size := by rw [str_size]; simp
    have hb0 : ∀ h : 0 < (str (c :: l)).size, (str (c :: l))[0]'h = c := fun h => rfl
    have hs2 : (str (c :: l)).size ≤ 35184372088832 := by rw [str_size]; exact hs
    obtain ⟨S, hS⟩ : ∃ S, str (c :: l) = S := ⟨_, rfl⟩
    rw [hS] at HM hq hsz hs2 ⊢
    have hb1 : ∀ h : 0 < S.size, S[0]'h = c := fun h => by subst hS; exact hb0 h
    clear hS hb0 e0 hM hs
    by_cases hc : c = 47
    · subst hc
      go_enter Tryd.func38, Tryd.ntmps38
      go_wp2_with (go_at_call 64; (with_reducible refine (HM.out _).mono ?_); rintro e w1 ⟨rfl, hb⟩; have HB := hid hb; clear hb)
      go_ret
      exact ⟨by simp, HB.out⟩
    · have z1 : ¬ (c.toNat : Int) = 47 := fun e => hc (UInt8.toNat_inj.1 (by show c.toNat = 47; omega))
      have z2 : ((c.toNat : Int) == 47) = false := by simpa using z1
      have HV := hid (show (decide (c = 47) && M) = false from by simp [hc])
      rw [HV.out]
      clear hc
      go_enter Tryd.func38, Tryd.ntmps38
      go_wp2
      go_ret
      exact ⟨rfl, Below.refl _ _⟩
theorem rquery_any (s : B) (hs : s.length ≤ 35184372088832) (w : World) : Calls Tryd.prog 50 #[.string (str s)] w fun e w' => e = .returned (.bool (isQuery s)) ∧ Below w.heap.size w w' := by
  have HM := hid (made_any s [47, 63] false hs (by decide))
  unfold isQuery
  obtain ⟨M, hM⟩ : ∃ M, made [47, 63] false s = M := ⟨_, rfl⟩
  rw [hM] at HM ⊢
  obtain ⟨S, hS⟩ : ∃ S, str s = S := ⟨_, rfl⟩
  rw [hS] at HM ⊢
  clear hS hM hs
  go_enter Tryd.func50, Tryd.ntmps50
  go_wp2_with (go_at_call 64; (with_reducible refine (HM.out _).mono ?_); rintro e w1 ⟨rfl, hb⟩; have HB := hid hb; clear hb)
  go_ret
  exact ⟨rfl, HB.out⟩
set_option maxRecDepth 20000 in
set_option maxHeartbeats 8000000 in
theorem rcut_any (s : B) (x : UInt8) (hs : s.length ≤ 35184372088832) (w : World) : Calls Tryd.prog 51 #[.string (str s), byteV x] w fun e w' => e = .returned (.tuple #[.string (str (cutF x s).1), .string (str (cutF x s).2.1), .bool (cutF x s).2.2]) ∧ Below w.heap.size w w' := by
  have hx1 : x.toNat < 256 := x.toNat_lt
  obtain ⟨n, hn⟩ : ∃ n, s.length = n := ⟨_, rfl⟩
  have HN := hid hn
  have HEx := hid (ext_str s)
  obtain ⟨S, hS⟩ : ∃ S, str s = S := ⟨_, rfl⟩
  have hSn : S.size = n := by rw [← hS, str_size, hn]
  have HByte := hid (show ∀ (k : Nat) (h : k < s.length) (h2 : k < S.size), S[k]'h2 = s[k]'h from fun k h h2 => by subst hS; rfl)
  obtain ⟨R, hR⟩ : ∃ R, cutF x s = R := ⟨_, rfl⟩
  have HR := hid hR
  have HSs := hid hS
  rw [hS] at HEx
  rw [hn] at hs
  rw [hS, hR]
  clear hn hS hR
  go_enter Tryd.func51, Tryd.ntmps51
  go_wp2
  go_loopg [7] (n + 1) (fun gk s7 wr => ∃ i : Nat, i ≤ n ∧ gk = n - i + 1 ∧ s7 = .int .i64 (i : Int) ∧ (∀ y ∈ s.take i, y ≠ x) ∧ wr = w)
  case atStart => exact ⟨0, by omega, rfl, rfl, fun y hy => by simp at hy, rfl⟩
  case round =>
    obtain ⟨i, hi, rfl, rfl, hno, rfl⟩ := hrel
    have HNo := hid hno
    clear hno
    by_cases hin : i < n
    · have hi1 : i < s.length := by rw [HN.out]; exact hin
      obtain ⟨y, hy⟩ : ∃ y, s[i] = y := ⟨_, rfl⟩
      have hbyte : ∀ h : i < S.size, (S[i]'h) = y := fun h => by rw [HByte.out i hi1 h, hy]
      have HTk := hid (show s.take (i + 1) = s.take i ++ [y] from by rw [List.take_add_one, List.getElem?_eq_getElem hi1, hy]; rfl)
      have HSp := hid (show s = s.take i ++ y :: s.drop (i + 1) from by conv => lhs; rw [← List.take_append_drop i s, List.drop_eq_getElem_cons hi1, hy])
      clear hy hi1
      by_cases hyx : y = x
      · subst hyx
        have HV := hid (show R = (s.take i, s.drop (i + 1), true) from by
          rw [← HR.out]
          conv => lhs; rw [HSp.out]
          exact cutF_at _ _ HNo.out)
        have hx1 : S.extract 0 i = str (s.take i) := by rw [HEx.out]; simp
        have hx2 : S.extract (i + 1) n = str (s.drop (i + 1)) := by
          rw [HEx.out]
          congr 2
          exact List.take_of_length_le (by rw [List.length_drop, HN.out]; exact Nat.le_refl _)
        have hw1 : IntKind.i64.wrap ((i : Int) + 1) = (i : Int) + 1 := by rw [IntKind.wrap_i64]; omega
        go_wp2
        refine wp_region_noPanic ?_
        refine any_begin 10 (by kernel_rfl) (by kernel_rfl) ?_
        refine any_take (i := 0) (some 19) rfl rfl (by kernel_rfl) (by kernel_rfl) (by kernel_rfl) (fun _ _ _ h => h) (by rfl) (v := ?v0q) ?hy0q ?rest0q
        case hy0q => intro w0; go_simp; try with_reducible rfl
        simp only [Act.put, List.setIfInBounds_toArray, List.set_cons_zero, List.set_cons_succ]
        refine any_take (i := 1) (some 20) rfl rfl (by kernel_rfl) (by kernel_rfl) (by kernel_rfl) (fun _ _ _ h => h) (by rfl) (v := ?v1q) ?hy1q ?rest1q
        case hy1q => intro w0; go_simp; try with_reducible rfl
        simp only [Act.put, List.setIfInBounds_toArray, List.set_cons_zero, List.set_cons_succ]
        refine any_take (i := 2) (some 21) rfl rfl (by kernel_rfl) (by kernel_rfl) (by kernel_rfl) (fun _ _ _ h => h) (by rfl) (v := .string (str (s.take i))) ?hy2q ?rest2q
        case hy2q => intro w0; go_simp; first | (rw [hx1]; done) | (simp only [hx1]; done) | skip
        simp only [Act.put, List.setIfInBounds_toArray, List.set_cons_zero, List.set_cons_succ]
        refine any_take (i := 3) (some 22) rfl rfl (by kernel_rfl) (by kernel_rfl) (by kernel_rfl) (fun _ _ _ h => h) (by rfl) (v := ?v3q) ?hy3q ?rest3q
        case hy3q => intro w0; go_simp; try with_reducible rfl
        simp only [Act.put, List.setIfInBounds_toArray, List.set_cons_zero, List.set_cons_succ]
        refine any_take (i := 4) (some 23) rfl rfl (by kernel_rfl) (by kernel_rfl) (by kernel_rfl) (fun _ _ _ h => h) (by rfl) (v := ?v4q) ?hy4q ?rest4q
        case hy4q => intro w0; go_simp; try with_reducible rfl
        simp only [Act.put, List.setIfInBounds_toArray, List.set_cons_zero, List.set_cons_succ]
        refine any_take (i := 5) (some 24) rfl rfl (by kernel_rfl) (by kernel_rfl) (by kernel_rfl) (fun _ _ _ h => h) (by rfl) (v := ?v5q) ?hy5q ?rest5q
        case hy5q => intro w0; go_simp; try with_reducible rfl
        simp only [Act.put, List.setIfInBounds_toArray, List.set_cons_zero, List.set_cons_succ]
        refine any_take (i := 6) (some 25) rfl rfl (by kernel_rfl) (by kernel_rfl) (by kernel_rfl) (fun _ _ _ h => h) (by rfl) (v := .string (str (s.drop (i + 1)))) ?hy6q ?rest6q
        case hy6q => intro w0; go_simp; first | (rw [hx2]; done) | (simp only [hx2]; done) | (intro hbad; exfalso; have := hbad (by omega); omega)
        simp only [Act.put, List.setIfInBounds_toArray, List.set_cons_zero, List.set_cons_succ]
        refine any_take (i := 7) (some 4) rfl rfl (by kernel_rfl) (by kernel_rfl) (by kernel_rfl) (fun _ _ _ h => h) (by rfl) (v := ?v7q) ?hy7q ?rest7q
        case hy7q => intro w0; go_simp; try with_reducible rfl
        simp only [Act.put, List.setIfInBounds_toArray, List.set_cons_zero, List.set_cons_succ]
        refine any_take (i := 8) (some 5) rfl rfl (by kernel_rfl) (by kernel_rfl) (by kernel_rfl) (fun _ _ _ h => h) (by rfl) (v := ?v8q) ?hy8q ?rest8q
        case hy8q => intro w0; go_simp; try with_reducible rfl
        simp only [Act.put, List.setIfInBounds_toArray, List.set_cons_zero, List.set_cons_succ]
        refine any_take (i := 9) (some 6) rfl rfl (by kernel_rfl) (by kernel_rfl) (by kernel_rfl) (fun _ _ _ h => h) (by rfl) (v := ?v9q) ?hy9q ?rest9q
        case hy9q => intro w0; go_simp; try with_reducible rfl
        simp only [Act.put, List.setIfInBounds_toArray, List.set_cons_zero, List.set_cons_succ]
        refine any_done (by kernel_rfl) ?_ _
        refine NoPanic.normal ?_
        go_wp2
        go_ret3
        rw [HV.out]
        exact ⟨rfl, below_drew (Below.refl _ _) 1⟩
      · have hb2 : ((y.toNat : Int) == (x.toNat : Int)) = false := by
          simp only [beq_eq_false_iff_ne, ne_eq]
          intro e
          exact hyx (UInt8.toNat_inj.1 (by omega))
        have hb3 : ¬ (y.toNat : Int) = (x.toNat : Int) := by simpa using hb2
        have HNx := hid (show ∀ z ∈ s.take (i + 1), z ≠ x from fun z hz => by
          rw [HTk.out] at hz
          rcases List.mem_append.1 hz with hz | hz
          · exact HNo.out z hz
          · simp at hz
            rw [hz]
            exact hyx)
        clear hyx
        go_wp2
        go_roundg (n - (i + 1) + 1)
        case measure => omega
        case rel => exact ⟨i + 1, by omega, rfl, by push_cast; rfl, HNx.out, rfl⟩
    · obtain rfl : n = i := by omega
      have HV := hid (show R = (s, [], false) from by
        rw [← HR.out]
        exact cutF_no s (by have := HNo.out; rw [List.take_of_length_le (by rw [HN.out]; exact Nat.le_refl _)] at this; exact this))
      go_wp2
      go_ret3
      rw [HV.out, ← HSs.out]
      exact ⟨rfl, Below.refl _ _⟩
end Go.Proofs.YtbdbmlklijmefaaDoor
