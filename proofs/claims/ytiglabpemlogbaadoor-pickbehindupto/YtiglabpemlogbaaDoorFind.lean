/- The program's way along a path: a number, a place, the steps, the value of a kind. -/
import Derived.Test.YtiglabpemlogbaaDoorMem
import Derived.Test.YtiglabpemlogbaaDoorOrder
namespace Go.Proofs.YtiglabpemlogbaaDoor
open Go.RowKit

/-- A place that was found is told; else none that is there. -/
def Pl (n : Nat) (r : Option Nat) (z : Int) : Prop := match r with
  | some i => z = (i : Int)
  | none => z < 0 ∨ (n : Int) ≤ z
theorem Pl.none_neg (n : Nat) : Pl n none (-1) := .inl (by omega)
theorem pl_ok {s : B} {v : Int} (h : Lib.atoiAll s = .ok v) (hi : Lib.itoa v = s) (n : Nat) : Pl n (numAt n s) v := by
  unfold numAt
  rw [h]
  show Pl n (if 0 ≤ v ∧ v < n ∧ Lib.itoa v = s then some v.toNat else none) v
  by_cases hc : 0 ≤ v ∧ v < n
  · rw [if_pos ⟨hc.1, hc.2, hi⟩]
    show v = ((v.toNat : Nat) : Int)
    omega
  · rw [if_neg (fun q => hc ⟨q.1, q.2.1⟩)]
    show v < 0 ∨ (n : Int) ≤ v
    omega
theorem pl_no {s : B} {v : Int} (h : Lib.atoiAll s = .ok v) (hi : Lib.itoa v ≠ s) (n : Nat) : Pl n (numAt n s) (-1) := by
  unfold numAt
  rw [h]
  show Pl n (if 0 ≤ v ∧ v < n ∧ Lib.itoa v = s then some v.toNat else none) (-1)
  rw [if_neg (fun q => hi q.2.2)]
  exact Pl.none_neg n
theorem arr_inj {a b : ByteArray} (h : a.data.toList = b.data.toList) : a = b := by
  apply ByteArray.ext
  exact Array.toList_inj.1 h
theorem ne_list {A C : ByteArray} (h : ¬ A = C) : (A.toList == C.toList) = false := by
  rw [ByteArray.toList_eq, ByteArray.toList_eq, beq_eq_false_iff_ne]
  exact fun e => h (arr_inj e)
theorem ne_empty {A : ByteArray} (h : ¬ A = ⟨#[]⟩) : A.toList.isEmpty = false := by
  rw [ByteArray.toList_eq]
  cases e : A.data.toList with
  | nil => exact absurd (arr_inj (b := ⟨#[]⟩) e) h
  | cons _ _ => rfl
theorem str_ne {a b : B} (h : a ≠ b) : str a ≠ str b := fun e => h (str_inj e)
set_option maxRecDepth 20000 in
set_option maxHeartbeats 8000000 in
theorem number_any (s : B) (hs : s.length ≤ 1048577) (w : World) (hE : Env w) : Calls Tryd.prog 42 #[.string (str s)] w fun e w' => ∃ z : Int, e = .returned (.int .i64 z) ∧ (∀ n : Nat, Pl n (numAt n s) z) ∧ Below w.heap.size w w' := by
  have hsz : (str s).size ≤ 1048577 := by rw [str_size]; exact hs
  have hd : (str s).data.toList = s := by simp
  have HE := hid hE
  have HSz := hid hsz
  cases ha : Lib.atoiAll s with
  | ok v =>
    have hb := Lib.atoiAll_bounds ha
    have HA := hid (show Lib.atoiAll (str s).data.toList = .ok v by rw [hd]; exact ha)
    by_cases hi : Lib.itoa v = s
    · have HP := hid (pl_ok ha hi)
      have hq : (⟨(Lib.itoa v).toArray⟩ : ByteArray) = str s := by rw [hi]
      obtain ⟨S, hS⟩ : ∃ S, str s = S := ⟨_, rfl⟩
      rw [hS] at HA HSz hq ⊢
      clear ha hi hd hS hsz hs hE
      go_enter Tryd.func42, Tryd.ntmps42
      go_wp2_with (first
        | (go_at_call 48; refine (Tryd.strconv_Atoi_ok S (by have := HSz.out; omega) v HA.out _).mono ?_; rintro e w1 ⟨rfl, hw⟩; have HB1 := hid (below_or hw); clear hw)
        | (go_at_call 49; refine (Tryd.strconv_Itoa v hb.1 hb.2 w1 (HE.out.below HB1.out).pow).mono ?_; rintro e w2 ⟨rfl, k, os, hw⟩; have HB2 := hid (below_out HB1.out (show Below w1.heap.size w1 w2 by rw [hw]; exact Lib.below_grow _ _ (Nat.le_refl _) _ _)); clear hw; rw [hq]))
      go_ret
      exact ⟨v, rfl, HP.out, HB2.out⟩
    · have HP := hid (pl_no ha hi)
      have hq : ¬ (⟨(Lib.itoa v).toArray⟩ : ByteArray) = str s := str_ne hi
      obtain ⟨S, hS⟩ : ∃ S, str s = S := ⟨_, rfl⟩
      obtain ⟨T, hT⟩ : ∃ T : ByteArray, ⟨(Lib.itoa v).toArray⟩ = T := ⟨_, rfl⟩
      have HT := hid hT
      rw [hS] at HA HSz hq ⊢
      rw [hT] at hq
      have hq2 := ne_list hq
      clear ha hi hd hS hsz hs hE hT
      go_enter Tryd.func42, Tryd.ntmps42
      go_wp2_with (first
        | (go_at_call 48; refine (Tryd.strconv_Atoi_ok S (by have := HSz.out; omega) v HA.out _).mono ?_; rintro e w1 ⟨rfl, hw⟩; have HB1 := hid (below_or hw); clear hw)
        | (go_at_call 49; refine (Tryd.strconv_Itoa v hb.1 hb.2 w1 (HE.out.below HB1.out).pow).mono ?_; rintro e w2 ⟨rfl, k, os, hw⟩; have HB2 := hid (below_out HB1.out (show Below w1.heap.size w1 w2 by rw [hw]; exact Lib.below_grow _ _ (Nat.le_refl _) _ _)); clear hw; rw [HT.out]))
      go_ret
      exact ⟨-1, rfl, HP.out, HB2.out⟩
  | «syntax» =>
    have HA := hid (show Lib.atoiAll (str s).data.toList = .«syntax» by rw [hd]; exact ha)
    have HP := hid (show ∀ n : Nat, Pl n (numAt n s) (-1) from fun n => by unfold numAt; rw [ha]; exact Pl.none_neg n)
    obtain ⟨S, hS⟩ : ∃ S, str s = S := ⟨_, rfl⟩
    rw [hS] at HA HSz ⊢
    clear ha hd hS hsz hs hE
    go_enter Tryd.func42, Tryd.ntmps42
    go_wp2_with (go_at_call 48; obtain ⟨te, pe, hv⟩ := HE.out.syn; refine (Tryd.strconv_Atoi_syntax S (by have := HSz.out; omega) HA.out _ _ hv (Or.inr ⟨_, _, rfl⟩)).mono ?_; rintro e w1 ⟨N, rfl, _, _, hb1⟩; have HB1 := hid hb1; clear hb1 hv)
    go_ret
    exact ⟨-1, rfl, HP.out, HB1.out⟩
  | range =>
    have HA := hid (show Lib.atoiAll (str s).data.toList = .range by rw [hd]; exact ha)
    have HP := hid (show ∀ n : Nat, Pl n (numAt n s) (-1) from fun n => by unfold numAt; rw [ha]; exact Pl.none_neg n)
    obtain ⟨S, hS⟩ : ∃ S, str s = S := ⟨_, rfl⟩
    rw [hS] at HA HSz ⊢
    clear ha hd hS hsz hs hE
    go_enter Tryd.func42, Tryd.ntmps42
    go_wp2_with (go_at_call 48; obtain ⟨te, pe, hv⟩ := HE.out.rng; refine (Tryd.strconv_Atoi_range S (by have := HSz.out; omega) HA.out _ _ hv (Or.inr ⟨_, _, rfl⟩)).mono ?_; rintro e w1 ⟨N, rfl, _, _, hb1⟩; have HB1 := hid hb1; clear hb1 hv)
    go_ret
    exact ⟨-1, rfl, HP.out, HB1.out⟩
/-! ### The place of a name -/
theorem idx_spec : ∀ (ns : List B) (s : B) (i : Nat), Lib.idxFromS (ns.map str) (str s) i = if ns.idxOf s < ns.length then ((i + ns.idxOf s : Nat) : Int) else -1
  | [], s, i => by simp [Lib.idxFromS]
  | x :: xs, s, i => by
    rw [List.map_cons, Lib.idxFromS]
    by_cases h : x = s
    · subst h
      simp
    · have h2 := str_ne h
      have h3 : (x == s) = false := by simpa using h
      have := idx_spec xs s (i + 1)
      rw [List.idxOf_cons, h3]
      simp only [cond_false, List.length_cons]
      split
      · rename_i q
        simp_all
      · rw [this]
        by_cases q : xs.idxOf s < xs.length
        · rw [if_pos q, if_pos (by omega)]
          congr 1
          omega
        · rw [if_neg q, if_neg (by omega)]
theorem names_list {w : World} {ns : List B} {g o : Nat} (h : NamesOn w ns (some ⟨g, o, none⟩)) : ∀ j, j < (ns.map str).length → w.cell? ⟨g, o + j, none⟩ = some (.string ((ns.map str).getD j ByteArray.empty)) := by
  intro j hj
  have hj2 : j < ns.length := by simpa using hj
  obtain ⟨g', o', e, hc⟩ := h j ns[j] (List.getElem?_eq_getElem hj2)
  simp only [Option.some.injEq, Addr.mk.injEq] at e
  obtain ⟨rfl, rfl, _⟩ := e
  rw [hc]
  simp [hj2]
theorem take_map (ns : List B) : (ns.map str).take ns.length = ns.map str := by
  rw [List.take_of_length_le (by simp)]
theorem index_any {w : World} {ns : List B} {p : Option Addr} {c : Nat} (s : B) (h : NamesOn w ns p) (hn : ns.length ≤ 1048576) : Calls Tryd.prog 41 #[.slice p ns.length c, .string (str s)] w fun e w' => ∃ z : Int, e = .returned (.int .i64 z) ∧ (∀ m : Nat, Pl m (nameAt m ns s) z) ∧ w' = w := by
  have key : ∀ m : Nat, Pl m (nameAt m ns s) (Lib.idxOfS (ns.map str) (str s)) := by
    intro m
    unfold Lib.idxOfS nameAt
    rw [idx_spec]
    by_cases q : ns.idxOf s < ns.length
    · rw [if_pos q]
      by_cases q2 : ns.idxOf s < m
      · rw [if_pos ⟨q, q2⟩]
        show ((0 + ns.idxOf s : Nat) : Int) = _
        simp
      · rw [if_neg (fun z => q2 z.2)]
        right
        omega
    · rw [if_neg q, if_neg (fun z => q z.1)]
      exact Pl.none_neg m
  cases ns with
  | nil =>
    refine (Tryd.slices_Index_string_empty p c (str s) w).mono ?_
    rintro e w' ⟨rfl, rfl⟩
    exact ⟨_, rfl, key, rfl⟩
  | cons x xs =>
    obtain ⟨g, o, rfl, _⟩ := h 0 x rfl
    refine (Tryd.slices_Index_string g o (x :: xs).length c ((x :: xs).map str) (str s) w (by simp) (by omega) (names_list h)).mono ?_
    rintro e w' ⟨rfl, rfl⟩
    refine ⟨_, rfl, ?_, rfl⟩
    rw [take_map]
    exact key
set_option maxRecDepth 20000 in
set_option maxHeartbeats 8000000 in
theorem placeOf_any (t : JV) (s : B) (hs : s.length ≤ 1048577) (w : World) (cs : List Value) (hE : Env w) (hv : ValOn w t cs) (hn : t.names.length ≤ 1048576) : Calls Tryd.prog 37 #[.agg cs.toArray, .string (str s)] w fun e w' => ∃ z : Int, e = .returned (.int .i64 z) ∧ Pl t.parts.length (placeN t s) z ∧ Below w.heap.size w w' := by
  obtain ⟨k, b, tx, n, hh, ls, ns⟩ := t
  obtain ⟨p1, c1, p2, c2, rfl, hp1, hp2⟩ := hv.open
  simp only [JV.parts, JV.names] at hn ⊢
  obtain ⟨n1, e1⟩ : ∃ n1, ls.length = n1 := ⟨_, rfl⟩
  obtain ⟨n2, e2⟩ : ∃ n2, ns.length = n2 := ⟨_, rfl⟩
  have HB0 := hid (below_new w (C7 k b tx n hh p1 n1 c1 p2 n2 c2))
  have HE := hid hE
  have HN := hid (hp2.below HB0.out)
  have HNl := hid e2
  have HNn := hid hn
  have HSz := hid hs
  rw [e1, e2]
  by_cases h0 : s = []
  · subst h0
    have HP := hid (show Pl n1 (placeN (.mk k b tx n hh ls ns) []) (-1) from by rw [place_nil]; exact Pl.none_neg n1)
    clear hE hv hp1 hp2 hn e1 e2 hs
    go_enter Tryd.func37, Tryd.ntmps37
    go_wp2
    go_ret
    exact ⟨-1, rfl, HP.out, HB0.out⟩
  · have hq : ¬ str s = ⟨#[]⟩ := str_ne (b := []) h0
    by_cases h6 : k = 6
    · subst h6
      have HP := hid (show placeN (.mk 6 b tx n hh ls ns) s = nameAt n1 ns s from by rw [place_obj h0, e1])
      obtain ⟨S, hS⟩ : ∃ S, str s = S := ⟨_, rfl⟩
      rw [hS] at hq ⊢
      have hq2 := ne_empty hq
      have HS := hid hS
      clear hE hv hp1 hp2 hn e1 e2 hs h0 hS
      go_enter Tryd.func37, Tryd.ntmps37
      go_wp2_with (go_at_call 41; have hcall := index_any (c := c2) s HN.out HNn.out; rw [HS.out, HNl.out] at hcall; (with_reducible refine hcall.mono ?_); clear hcall; rintro e w1 ⟨z, rfl, hz, rfl⟩; have HZ := hid hz; clear hz)
      go_ret
      exact ⟨z, rfl, by rw [HP.out]; exact HZ.out n1, HB0.out⟩
    · have q6 : (k == 6) = false := by simpa using h6
      by_cases h5 : k = 5
      · subst h5
        have HP := hid (show placeN (.mk 5 b tx n hh ls ns) s = numAt n1 s from by rw [place_list h0, e1])
        obtain ⟨S, hS⟩ : ∃ S, str s = S := ⟨_, rfl⟩
        rw [hS] at hq ⊢
        have hq2 := ne_empty hq
        have HS := hid hS
        clear hE hv hp1 hp2 hn e1 e2 hs h0 hS h6 q6
        go_enter Tryd.func37, Tryd.ntmps37
        go_wp2_with (go_at_call 42; have hcall := number_any s HSz.out _ (HE.out.below HB0.out); rw [HS.out] at hcall; (with_reducible refine hcall.mono ?_); clear hcall; rintro e w1 ⟨z, rfl, hz, hb⟩; have HZ := hid hz; have HB1 := hid (below_out HB0.out hb); clear hz hb)
        go_ret
        exact ⟨z, rfl, by rw [HP.out]; exact HZ.out n1, HB1.out⟩
      · have q5 : (k == 5) = false := by simpa using h5
        have HP := hid (show placeN (.mk k b tx n hh ls ns) s = none from place_else h6 h5)
        obtain ⟨S, hS⟩ : ∃ S, str s = S := ⟨_, rfl⟩
        rw [hS] at hq ⊢
        have hq2 := ne_empty hq
        clear hE hv hp1 hp2 hn e1 e2 hs h0 hS
        go_enter Tryd.func37, Tryd.ntmps37
        go_wp2
        go_ret
        exact ⟨-1, rfl, by rw [HP.out]; exact Pl.none_neg n1, HB0.out⟩
end Go.Proofs.YtiglabpemlogbaaDoor
