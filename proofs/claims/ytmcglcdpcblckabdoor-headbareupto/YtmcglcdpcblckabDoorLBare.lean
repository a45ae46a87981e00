/- The law of bare bytes. -/
import Derived.Test.YtmcglcdpcblckabDoorPBare
namespace Go.Proofs.YtmcglcdpcblckabDoor
open Go.RowKit

theorem any_two {P : Program} {ops : Array Oper} {Q : Exit → Act → World → Prop} {md : Region.Mode} {i j : Nat} {oi oj : Oper} {fuel : Nat} {listed : Array Bool} {a : Act} {w : World} (hr : Region.ready md ops listed = [i, j]) (hoi : ops[i]? = some oi) (hoj : ops[j]? = some oj)
    (h1 : ∀ K' : Act → World → Prop, (∀ a w, wpAny P md ops Q fuel (listed.setIfInBounds i true) a w → K' a w) → if Region.wanted oi (yielded ops a.tmps) = true then Oper.wp P oi a w K' Q else K' (a.put oi.dst undef) w)
    (h2 : ∀ K' : Act → World → Prop, (∀ a w, wpAny P md ops Q fuel (listed.setIfInBounds j true) a w → K' a w) → if Region.wanted oj (yielded ops a.tmps) = true then Oper.wp P oj a w K' Q else K' (a.put oj.dst undef) w) :
    wpAny P md ops Q (fuel + 1) listed a w := by
  refine ⟨fun h0 => (by rw [hr] at h0; cases h0), fun k hk => ?_⟩
  rw [hr] at hk
  simp only [List.mem_cons, List.not_mem_nil, or_false] at hk
  rcases hk with rfl | rfl
  · exact wpOp_step hoi h1
  · exact wpOp_step hoj h2
theorem wrapUB {n : Nat} (h : n ≤ 140737488355328) : IntKind.u64.wrap (n : Int) = (n : Int) := by rw [IntKind.wrap_u64]; omega
theorem wrapSB {i x : Nat} (h : i ≤ x) (hx : x ≤ 140737488355328) : wrap64 (i : Int) = (i : Int) := by unfold wrap64; omega
theorem cut_at (a : Int) {x : Nat} (h : 0 < x) : ∃ i : Nat, (IntKind.u64.wrap a).tmod (x : Int) = (i : Int) ∧ i < x := by
  have h0 : 0 ≤ IntKind.u64.wrap a := by rw [IntKind.wrap_u64]; omega
  rw [Int.tmod_eq_emod_of_nonneg h0]
  have h1 := Int.emod_nonneg (IntKind.u64.wrap a) (show (x : Int) ≠ 0 by omega)
  have h2 := Int.emod_lt_of_pos (IntKind.u64.wrap a) (show (0 : Int) < (x : Int) by omega)
  exact ⟨(IntKind.u64.wrap a % (x : Int)).toNat, by omega, by omega⟩
theorem Lib_len (l : B) : (Lib.byteCells l).length = l.length * 1 := by simp [Lib.byteCells]
theorem near {i x : Nat} (h : i < x) (hx : x ≤ 32768) : wrap64 (i : Int) = (i : Int) ∧ wrap64 ((i : Int) - 2) = (i : Int) - 2 ∧ wrap64 ((i : Int) + 2) = (i : Int) + 2 ∧ ∃ lo : Nat, max ((i : Int) - 2) 0 = (lo : Int) ∧ lo ≤ i ∧ lo ≤ i - 1 ∧ ∃ u : Nat, min ((i : Int) + 2) (x : Int) = (u : Int) ∧ u ≤ x ∧ i < u := by
  refine ⟨by unfold wrap64; omega, by unfold wrap64; omega, by unfold wrap64; omega, i - 2, ?_, by omega, by omega, min (i + 2) x, ?_, by omega, by omega⟩
  · omega
  · omega
theorem wrap_one {j x : Nat} (h : j < x) (hx : x ≤ 32768) : wrap64 ((j : Int) + 1) = (j : Int) + 1 := by unfold wrap64; omega
theorem at_some {L : B} {x j : Nat} (hx : L.length = x) (h : j < x) : ∃ y, L[j]? = some y := ⟨L[j]'(by omega), List.getElem?_eq_getElem (by omega)⟩
theorem bare_len {L : B} {x i : Nat} {c : UInt8} (hx : L.length = x) (h : i < x) : (L.take i ++ c :: L.drop i).length = x + 1 := by rw [List.length_append, List.length_cons, List.length_take, List.length_drop, hx]; omega
theorem drop_len {L : B} {x i : Nat} (hx : L.length = x) : (Lib.byteCells (L.drop i)).length = (x - i) * 1 := by rw [Lib_len, List.length_drop, hx]
theorem nat_or {E : Nat} (h : E = 20 ∨ E = 21) : E ≠ 0 := by omega
theorem sum_i {i x : Nat} (h : i < x) : i + 1 + (x - i) = x + 1 := by omega
theorem take_len {L : B} {i x : Nat} (hx : L.length = x) (h : i < x) : (L.take i).length = i := by rw [List.length_take, hx]; omega
theorem byte_one (l : B) : ∀ u ∈ Lib.byteCells l, u.oneCell' = true := by
  intro u hu
  unfold Lib.byteCells at hu
  obtain ⟨c, _, rfl⟩ := List.mem_map.1 hu
  rfl
theorem addr_off (g o j : Nat) : (⟨g, o, none⟩ : Addr).add j = ⟨g, o + j, none⟩ := by unfold Addr.add; split <;> simp_all
theorem take_cells {w : World} {g o : Nat} {L : B} {i : Nat} (h : ArgAt w (some ⟨g, o, none⟩) L) : ∀ j u, (Lib.byteCells (L.take i))[j]? = some u → w.cell? ((⟨g, o, none⟩ : Addr).add j) = some u := by
  intro j u hj
  unfold Lib.byteCells at hj
  rw [List.getElem?_map] at hj
  cases hy : (L.take i)[j]? with
  | none => rw [hy] at hj; cases hj
  | some y =>
    rw [hy] at hj
    obtain rfl := Option.some.inj hj
    rw [List.getElem?_take] at hy
    split at hy
    · obtain ⟨g2, o2, e, hc⟩ := h j y hy
      simp only [Option.some.injEq, Addr.mk.injEq, and_true] at e
      obtain ⟨rfl, rfl⟩ := e
      rw [addr_off]
      exact hc
    · cases hy
theorem drop_cells {w : World} {g o : Nat} {L : B} {i : Nat} (h : ArgAt w (some ⟨g, o, none⟩) L) : ∀ j u, (Lib.byteCells (L.drop i))[j]? = some u → w.cell? ((⟨g, o + i, none⟩ : Addr).add j) = some u := by
  intro j u hj
  unfold Lib.byteCells at hj
  rw [List.getElem?_map] at hj
  cases hy : (L.drop i)[j]? with
  | none => rw [hy] at hj; cases hj
  | some y =>
    rw [hy] at hj
    obtain rfl := Option.some.inj hj
    rw [List.getElem?_drop] at hy
    obtain ⟨g2, o2, e, hc⟩ := h (i + j) y hy
    simp only [Option.some.injEq, Addr.mk.injEq, and_true] at e
    obtain ⟨rfl, rfl⟩ := e
    rw [addr_off, Nat.add_assoc]
    exact hc
set_option maxRecDepth 20000 in
set_option maxHeartbeats 8000000 in
theorem bare_walk (m t : B) (k : Int) (fs : List (B × B)) (p : Option Addr) (n c : Nat) (hn : fs.length = n) (at_ : Int) (fd : Bool) (w : World) (hF : FAt w p fs) (hsz : ∀ f ∈ fs, f.1.length ≤ 1048576 ∧ f.2.length ≤ 1048576) (hnn : n ≤ 1048576) (hm : m.length ≤ 1048576) (ht : t.length ≤ 1048576) (he : EnvE w) : Calls Tryd.prog 4 #[.agg #[.string (str m), .string (str t), .int .i64 k, .slice p n c], .int .i64 at_, .bool fd] w fun e w' => e = .returned (.bool true) ∧ Below w.heap.size w w' := by
  obtain ⟨W0, hW0⟩ : ∃ W0, W0 = w.alloc (.cells #[.string (str m), .string (str t), .int .i64 k, .slice p n c] 24 (0, 0)) := ⟨_, rfl⟩
  have HB0 := hid (show Below w.heap.size w W0 from by rw [hW0]; exact below_new w _)
  have HW0 := hid hW0
  have HE := hid he
  cases hok : okQ m t k fs with
  | false =>
    have HWr := hid (written_no m t k fs p n c hn W0 (hF.next HB0.out) hsz hnn hm ht hok)
    obtain ⟨M, hM⟩ : ∃ M, str m = M := ⟨_, rfl⟩
    obtain ⟨T, hT⟩ : ∃ T, str t = T := ⟨_, rfl⟩
    rw [hM, hT] at HWr HW0
    rw [hM, hT]
    clear hF hsz hn hM hT hW0 he hok
    go_enter Tryd.func4, Tryd.ntmps4
    go_wp2_with (first | (go_at_call 5; (rw [← HW0.out]); (with_reducible refine HWr.out.mono ?_); rintro e w1 ⟨rfl, hb⟩; have HB1 := hid (HB0.out.trans (hb.mono HB0.out.size)); clear hb) | (go_at_call 6; (with_reducible refine (sure_any _).mono ?_); rintro e w9 ⟨rfl, hb⟩; have HB9 := hid (HB1.out.trans (hb.mono HB1.out.size)); clear hb))
    go_ret
    exact ⟨rfl, HB9.out⟩
  | true =>
    have HWr := hid (written_yes m t k fs p n c hn W0 (hF.next HB0.out) hsz hnn hm ht hok)
    have HRd := hid (fun (most : Int) (hl : ((headW (firstQ m t (verC k)) fs).length : Int) ≤ most) => read_request hok hl)
    have H2 := hid (headW_two m t (verC k) fs)
    obtain ⟨L, hL⟩ : ∃ L, headW (firstQ m t (verC k)) fs = L := ⟨_, rfl⟩
    rw [hL] at HWr HRd H2
    obtain ⟨x, hx⟩ : ∃ x, L.length = x := ⟨_, rfl⟩
    have HX := hid hx
    have h2 : 2 ≤ x := by rw [← hx]; exact H2.out
    obtain ⟨M, hM⟩ : ∃ M, str m = M := ⟨_, rfl⟩
    obtain ⟨T, hT⟩ : ∃ T, str t = T := ⟨_, rfl⟩
    rw [hM, hT] at HWr HW0
    rw [hM, hT]
    by_cases hbig : x ≤ 65536
    · have hb1 : decide (x ≤ 65536) = true := decide_eq_true hbig
      by_cases hmid : x ≤ 32768
      · have hb3 : decide ((32768 : Int) < (x : Int)) = false := decide_eq_false (by omega)
        have hb4 : ¬ (32768 : Int) < (x : Int) := by omega
        have HMid := hid hmid
        have hrd := HRd.out 65536 (by rw [hx]; omega)
        have HRd2 := hid hrd
        obtain ⟨i, hi, hil⟩ := cut_at at_ (show 0 < x by omega)
        have HI : Value.int .i64 (wrap64 ((IntKind.u64.wrap at_).tmod (x : Int))) = .int .i64 (i : Int) := by rw [hi, wrapSB (i := i) (x := x) (Nat.le_of_lt hil) (Nat.le_trans hmid (by decide))]
        have hz : ¬ IntKind.u64.wrap (x : Int) = 0 := by rw [wrapUB (Nat.le_trans hmid (by decide))]; omega
        clear hi
        obtain ⟨hwi, hwi2, hwi3, lo, hlo, hlo2, hlo3, u, hu, hu2, hu3⟩ := near hil hmid
        have hx1 : decide ((x : Int) < 1) = false := decide_eq_false (by omega)
        have HLo : Value.int .i64 (max ((i : Int) - 2) 0) = .int .i64 (lo : Int) := by rw [hlo]
        have HU : Value.int .i64 (min ((i : Int) + 2) (x : Int)) = .int .i64 (u : Int) := by rw [hu]
        clear hu hlo
        have HLi := hid (take_len hx hil)
        clear hF hsz hn hM hT hW0 he hok hL hx hbig hmid hrd
        cases fd with
        | false =>
          have hcl : (13 : UInt8) = 13 ∨ (13 : UInt8) = 10 := by decide
          obtain ⟨i0, hi0, hz0, hz1, hz2⟩ := info_parts infoB
          go_enter Tryd.func4, Tryd.ntmps4
          go_wp2_with (go_at_call 5; (rw [← HW0.out]); (with_reducible refine HWr.out.mono ?_); rintro e w1 ⟨q, x2, d, rfl, hx2, ho, hb⟩; rw [HX.out] at hx2; have hx3 := hx2.symm; subst hx3; rw [hb1]; have HB1 := hid (HB0.out.trans (hb.mono HB0.out.size)); have HO1 := hid ho; clear ho hb HWr)
          
          rw [HI]
          clear HI HLo hz hwi hwi2 hx1 hb3 hb1 hb4
          obtain ⟨y0, hy0⟩ := at_some HX.out (Nat.lt_of_lt_of_le (show 0 < 2 by decide) h2)
          obtain ⟨g, o, rfl, _⟩ := HO1.out.arg 0 y0 hy0
          clear hy0
          have HA1 := hid HO1.out.arg
          have hcap := Own.cap HO1.out
          go_loopg [11] (u - lo + 1) (fun gk s11 wr => ∃ j : Nat, s11 = .int .i64 (j : Int) ∧ lo ≤ j ∧ j ≤ max lo u ∧ gk = u - j + 1 ∧ wr = w1 ∧ ∀ k, lo ≤ k → k < j → ∀ y, L[k]? = some y → y ≠ 13 ∧ y ≠ 10)
          case atStart => exact ⟨lo, rfl, Nat.le_refl _, Nat.le_max_left _ _, rfl, rfl, fun k h1 h2 => by omega⟩
          case round =>
            obtain ⟨j, rfl, hj1, hj2, rfl, hw, hall⟩ := hrel
            have hw2 := hw.symm
            clear hw
            subst hw2
            have HAll := hid hall
            clear hall
            by_cases hju : j < u
            · have hjx : j < x := Nat.lt_of_lt_of_le hju hu2
              obtain ⟨y, hy⟩ := at_some HX.out hjx
              skip
              have HY := hid hy
              obtain ⟨g2, o2, eg, hcell⟩ := HA1.out j y hy
              simp only [Option.some.injEq, Addr.mk.injEq, and_true] at eg
              obtain ⟨rfl, rfl⟩ := eg
              have hjI : (j : Int) < (u : Int) := Int.ofNat_lt.2 hju
              clear hy
              by_cases h13 : y = 13
              · subst h13
                rw [show ((13 : UInt8).toNat : Int) = 13 from rfl] at hcell
                go_wp2_with (go_at_call 6; (with_reducible refine (sure_any _).mono ?_); rintro e w9 ⟨rfl, hb⟩; have HB9 := hid (HB1.out.trans (hb.mono HB1.out.size)); clear hb)
                go_ret
                exact ⟨rfl, HB9.out⟩
              · have e13 := u8_ne h13
                rw [show ((13 : UInt8).toNat : Int) = 13 from rfl] at e13
                by_cases h10 : y = 10
                · subst h10
                  rw [show ((10 : UInt8).toNat : Int) = 10 from rfl] at hcell e13
                  go_wp2_with (go_at_call 6; (with_reducible refine (sure_any _).mono ?_); rintro e w9 ⟨rfl, hb⟩; have HB9 := hid (HB1.out.trans (hb.mono HB1.out.size)); clear hb)
                  go_ret
                  exact ⟨rfl, HB9.out⟩
                · have e10 := u8_ne h10
                  rw [show ((10 : UInt8).toNat : Int) = 10 from rfl] at e10
                  have hwj := wrap_one hjx HMid.out
                  go_wp2
                  go_roundg (u - (j + 1) + 1)
                  case measure => exact Nat.succ_lt_succ (Nat.sub_lt_sub_left hju (Nat.lt_succ_self j))
                  case rel =>
                    refine ⟨j + 1, (by rw [hwj]; push_cast; rfl), Nat.le_succ_of_le hj1, Nat.le_trans hju (Nat.le_max_right _ _), rfl, rfl, fun k h1 h2 z hz => ?_⟩
                    by_cases hk : k < j
                    · exact HAll.out k h1 hk z hz
                    · obtain rfl : k = j := Nat.le_antisymm (Nat.le_of_lt_succ h2) (Nat.le_of_not_lt hk)
                      rw [HY.out] at hz
                      obtain rfl := Option.some.inj hz
                      exact ⟨h13, h10⟩
            · skip
              have hjI : ¬ (j : Int) < (u : Int) := fun h => hju (Int.ofNat_lt.1 h)
              have HNear := hid (show ∀ k, lo ≤ k → k < u → ∀ y, L[k]? = some y → y ≠ 13 ∧ y ≠ 10 from fun k h1 h2 => HAll.out k h1 (Nat.lt_of_lt_of_le h2 (Nat.le_of_not_lt hju)))
              clear hj1 hj2 hju HAll
              obtain ⟨y, hy⟩ := at_some HX.out hil
              have HPl := hid (show allE (feedP (newP false 65536) (L.take i ++ 13 :: L.drop i)) = 20 ∨ allE (feedP (newP false 65536) (L.take i ++ 13 :: L.drop i)) = 21 from by
                obtain ⟨s, r1, r2, r3, _, r5, _⟩ := HRd2.out
                refine bare_plain r1 r2 r3 r5 (by rw [HX.out]; exact HMid.out) hy (by decide) (HNear.out i hlo2 hu3 y hy) (fun z h0 hz => HNear.out (i - 1) hlo3 (Nat.lt_of_le_of_lt (Nat.sub_le _ _) hu3) z hz)
          )
              clear hy
              have hsi : (i : Int) ≤ (d : Int) := Int.ofNat_le.2 (Nat.le_trans (Nat.le_of_lt hil) hcap)
              have hdi : ¬ d = i := Nat.ne_of_gt (Nat.lt_of_lt_of_le hil hcap)
              have hix : (i : Int) ≤ (x : Int) := Int.ofNat_le.2 (Nat.le_of_lt hil)
              go_wp2
              clear HU
              refine wp_region_noPanic ?_
              refine any_begin 13 (by kernel_rfl) (by kernel_rfl) ?_
              refine any_take (i := 0) (some 67) rfl rfl (by kernel_rfl) (by kernel_rfl) (by kernel_rfl) (fun _ _ _ h => h) (by rfl) (v := ?v0bf) ?hy0bf ?rest0bf
              case hy0bf => intro w0; go_simp; try with_reducible rfl
              simp only [Act.put, List.setIfInBounds_toArray, List.set_cons_zero, List.set_cons_succ]
              refine any_take (i := 1) (some 68) rfl rfl (by kernel_rfl) (by kernel_rfl) (by kernel_rfl) (fun _ _ _ h => h) (by rfl) (v := ?v1bf) ?hy1bf ?rest1bf
              case hy1bf => intro w0; go_simp; try with_reducible rfl
              simp only [Act.put, List.setIfInBounds_toArray, List.set_cons_zero, List.set_cons_succ]
              refine any_take (i := 2) (some 69) rfl rfl (by kernel_rfl) (by kernel_rfl) (by kernel_rfl) (fun _ _ _ h => h) (by rfl) (v := ?v2bf) ?hy2bf ?rest2bf
              case hy2bf => intro w0; go_simp; try with_reducible rfl
              simp only [Act.put, List.setIfInBounds_toArray, List.set_cons_zero, List.set_cons_succ]
              refine any_take (i := 3) (some 70) rfl rfl (by kernel_rfl) (by kernel_rfl) (by kernel_rfl) (fun _ _ _ h => h) (by rfl) (v := ?v3bf) ?hy3bf ?rest3bf
              case hy3bf => intro w0; go_simp; try with_reducible rfl
              simp only [Act.put, List.setIfInBounds_toArray, List.set_cons_zero, List.set_cons_succ]
              refine any_take (i := 5) (some 72) rfl rfl (by kernel_rfl) (by kernel_rfl) (by kernel_rfl) (fun _ _ _ h => h) (by rfl) (v := ?v5bf) ?hy5bf ?rest5bf
              case hy5bf => intro w0; go_simp; try with_reducible rfl
              simp only [Act.put, List.setIfInBounds_toArray, List.set_cons_zero, List.set_cons_succ]
              refine any_take (i := 8) (some 75) rfl rfl (by kernel_rfl) (by kernel_rfl) (by kernel_rfl) (fun _ _ _ h => h) (by rfl) (v := ?v8bf) ?hy8bf ?rest8bf
              case hy8bf => intro w0; go_simp; try with_reducible rfl
              simp only [Act.put, List.setIfInBounds_toArray, List.set_cons_zero, List.set_cons_succ]
              refine any_take (i := 9) (some 76) rfl rfl (by kernel_rfl) (by kernel_rfl) (by kernel_rfl) (fun _ _ _ h => h) (by rfl) (v := ?v9bf) ?hy9bf ?rest9bf
              case hy9bf => intro w0; go_simp; try with_reducible rfl
              simp only [Act.put, List.setIfInBounds_toArray, List.set_cons_zero, List.set_cons_succ]
              refine any_take (i := 10) (some 77) rfl rfl (by kernel_rfl) (by kernel_rfl) (by kernel_rfl) (fun _ _ _ h => h) (by rfl) (v := ?v10bf) ?hy10bf ?rest10bf
              case hy10bf => intro w0; go_simp; try with_reducible rfl
              simp only [Act.put, List.setIfInBounds_toArray, List.set_cons_zero, List.set_cons_succ]
              refine any_two (i := 4) (j := 6) (by kernel_rfl) rfl rfl (fun K hK => ?_) (fun K hK => ?_)
              · rw [if_pos (by rfl)]
                refine wp_append_own_at (.tmp 67) (.tmp 70) 25 rfl w1.heap.size 5 i0 _ 1 1 Tryd.underlying25 hi0 hz0 hz1 hz2 rfl (by decide) (.slice none 0 0) 0 [] (by go_simp) (⟨rfl, .inl ⟨rfl, rfl⟩⟩) ⟨g, o, none⟩ i d (Lib.byteCells (L.take i)) (by go_simp) (by rw [Lib_len, HLi.out]) (take_cells HA1.out) (byte_one _) (by have := HMid.out; unfold maxLen; omega) (by have := HMid.out; omega) (Nat.le_refl _) ?_
                intro v4 wA hown hgr _
                have HO4a := hid (show Own wA w1.heap.size v4 (L.take i) from by have h9 := Own.put (acc := []) (bs := L.take i) (k := i) (by rw [List.nil_append] at hown; simpa [Lib.byteCells] using hown) rfl HLi.out; simpa using h9)
                have HBA := hid (show Below w1.heap.size w1 wA from below_grown (show w1.grownBy wA none from ⟨hgr.os, hgr.tape, hgr.output, hgr.size, hgr.block⟩))
                rw [Nat.zero_add] at hown
                obtain ⟨p4, c4, rfl⟩ := own_slice hown
                clear hown hgr
                show K (Act.put _ (some 71) _) _
                refine hK _ _ ?_
                clear hK K
                simp only [Act.put, List.setIfInBounds_toArray, List.set_cons_zero, List.set_cons_succ]
                refine any_one (i := 6) (by kernel_rfl) rfl (fun K hK => ?_)
                go_simp
                refine hK _ _ ?_
                clear hK K
                obtain ⟨U, hU⟩ : ∃ U, U = wA.alloc (.cells #[.int .u8 13] 5 (0, 0)) := ⟨_, rfl⟩
                rw [← hU]
                obtain ⟨G6, hG6⟩ : ∃ G6, G6 = wA.heap.size := ⟨_, rfl⟩
                have HBU := hid (show Below w1.heap.size w1 U from by rw [hU]; exact HBA.out.trans ((below_new wA _).mono HBA.out.size))
                have HO4 := hid (show Own U w1.heap.size (.slice p4 i c4) (L.take i) from by rw [hU]; exact HO4a.out.alloc _)
                have HC6 := hid (show ∀ j u, [Value.int .u8 13][j]? = some u → U.cell? ((⟨G6, 0, none⟩ : Addr).add j) = some u from by rw [hU, hG6]; exact cells_new wA _ _)
                rw [← hG6]
                clear hU hG6
                refine any_one (i := 7) (by kernel_rfl) rfl (fun K hK => ?_)
                rw [if_pos (by rfl)]
                refine wp_append_own_at (.tmp 71) (.tmp 73) 25 rfl w1.heap.size 5 i0 _ 1 1 Tryd.underlying25 hi0 hz0 hz1 hz2 rfl (by decide) (.slice p4 i c4) i (Lib.byteCells (L.take i)) (by go_simp) (by have := HO4.out; unfold Own at this; rw [HLi.out] at this; exact this) ⟨G6, 0, none⟩ 1 1 [.int .u8 13] (by go_simp) rfl (HC6.out) (by simp [Value.oneCell']) (by have := HMid.out; unfold maxLen; omega) (by have := HMid.out; omega) HBU.out.size ?_
                intro v7 w7 hown hgr _
                have HO7 := hid (show Own w7 w1.heap.size v7 (L.take i ++ [13]) from Own.put (acc := L.take i) (bs := [13]) (by rw [HLi.out]; exact hown) rfl rfl)
                have HB7 := hid (HBU.out.trans (Own.below HO4.out HBU.out.size hgr))
                obtain ⟨p7, c7, rfl⟩ := own_slice hown
                clear hown hgr
                show K (Act.put _ (some 74) _) _
                refine hK _ _ ?_
                clear hK K
                simp only [Act.put, List.setIfInBounds_toArray, List.set_cons_zero, List.set_cons_succ]
                refine any_one (i := 11) (by kernel_rfl) rfl (fun K hK => ?_)
                rw [if_pos (by rfl)]
                refine wp_append_own_at (.tmp 74) (.tmp 77) 25 rfl w1.heap.size 5 i0 _ 1 1 Tryd.underlying25 hi0 hz0 hz1 hz2 rfl (by decide) (.slice p7 (i + 1) c7) (i + 1) (Lib.byteCells (L.take i ++ [13])) (by go_simp) (by have := HO7.out; unfold Own at this; rw [List.length_append, HLi.out] at this; exact this) ⟨g, o + i, none⟩ (x - i) (d - i) (Lib.byteCells (L.drop i)) (by go_simp) (drop_len HX.out) (drop_cells (HA1.out.next HB7.out)) (byte_one _) (by have := HMid.out; unfold maxLen; omega) (by have := HMid.out; omega) HB7.out.size ?_
                intro v8 w8 hown hgr _
                have HO8 := hid (show Own w8 w1.heap.size v8 (L.take i ++ 13 :: L.drop i) from by have h9 := Own.put (acc := L.take i ++ [13]) (bs := L.drop i) (k := x - i) (by rw [List.length_append, HLi.out]; exact hown) rfl (by rw [List.length_drop, HX.out]); simpa using h9)
                have HB8 := hid (HB7.out.trans (Own.below HO7.out HB7.out.size hgr))
                rw [sum_i hil] at hown
                obtain ⟨p8, c8, rfl⟩ := own_slice hown
                clear hown hgr
                show K (Act.put _ (some 78) _) _
                refine hK _ _ ?_
                clear hK K
                simp only [Act.put, List.setIfInBounds_toArray, List.set_cons_zero, List.set_cons_succ]
                refine any_take (i := 12) (some 12) rfl rfl (by kernel_rfl) (by kernel_rfl) (by kernel_rfl) (fun _ _ _ h => h) (by rfl) (v := ?v12baf) ?hy12baf ?rest12baf
                case hy12baf => intro w0; go_simp; try with_reducible rfl
                simp only [Act.put, List.setIfInBounds_toArray, List.set_cons_zero, List.set_cons_succ]
                refine any_done (by kernel_rfl) ?_ _
                refine NoPanic.normal ?_
                have HB8w := hid (HB1.out.trans (HB8.out.mono HB1.out.size))
                obtain ⟨E, hE⟩ : ∃ E, allE (feedP (newP false 65536) (L.take i ++ 13 :: L.drop i)) = E := ⟨_, rfl⟩
                have HEe := hid (show E = 20 ∨ E = 21 from by rw [← hE]; exact HPl.out)
                have HP := hid (parse_req_err (L.take i ++ 13 :: L.drop i) p8 (x + 1) c8 65536 w8 (bare_len HX.out hil) HO8.out.arg (by have := HMid.out; omega) (by omega) (by rw [hE]; exact nat_or HEe.out))
                rw [hE] at HP
                obtain ⟨W9, hW9⟩ : ∃ W9 : World → World, W9 = fun w9 => w9.alloc (.cells reqZ 24 (0, 0)) := ⟨_, rfl⟩
                clear hE hW9
                rcases HEe.out with rfl | rfl
                · rw [errOf_pos (by decide), show ((20 : Nat) : Int) = 20 from rfl] at HP
                  go_wp2_with (first | (go_at_call 7; (with_reducible refine HP.out.mono ?_); rintro e w4 ⟨rfl, hb⟩; have HB4 := hid (HB8w.out.trans (hb.mono HB8w.out.size)); clear hb HP; obtain ⟨W5, hW5⟩ : ∃ W5, W5 = w4.alloc (.cells reqZ 24 (0, 0)) := ⟨_, rfl⟩; have HW5 := hid hW5; have HB5 := hid (show Below w.heap.size w W5 from (by rw [hW5]; exact HB4.out.trans ((below_new _ _).mono HB4.out.size))); have HNu := hid (num_any 20 W5 (HE.out.next HB5.out)); rw [errOf_pos (by decide), show ((20 : Nat) : Int) = 20 from rfl] at HNu; unfold reqZ at HW5 ⊢; clear hW5) | (go_at_call 8; (rw [← HW5.out]); (with_reducible refine HNu.out.mono ?_); rintro e w6 ⟨rfl, hb⟩; have HB6 := hid (HB5.out.trans (hb.mono HB5.out.size)); clear hb) | (go_at_call 6; (with_reducible refine (sure_any _).mono ?_); rintro e w9 ⟨rfl, hb⟩; have HB9 := hid (HB6.out.trans (hb.mono HB6.out.size)); clear hb))
                  go_ret
                  exact ⟨rfl, HB9.out⟩
                · rw [errOf_pos (by decide), show ((21 : Nat) : Int) = 21 from rfl] at HP
                  go_wp2_with (first | (go_at_call 7; (with_reducible refine HP.out.mono ?_); rintro e w4 ⟨rfl, hb⟩; have HB4 := hid (HB8w.out.trans (hb.mono HB8w.out.size)); clear hb HP; obtain ⟨W5, hW5⟩ : ∃ W5, W5 = w4.alloc (.cells reqZ 24 (0, 0)) := ⟨_, rfl⟩; have HW5 := hid hW5; have HB5 := hid (show Below w.heap.size w W5 from (by rw [hW5]; exact HB4.out.trans ((below_new _ _).mono HB4.out.size))); have HNu := hid (num_any 21 W5 (HE.out.next HB5.out)); rw [errOf_pos (by decide), show ((21 : Nat) : Int) = 21 from rfl] at HNu; unfold reqZ at HW5 ⊢; clear hW5) | (go_at_call 8; (rw [← HW5.out]); (with_reducible refine HNu.out.mono ?_); rintro e w6 ⟨rfl, hb⟩; have HB6 := hid (HB5.out.trans (hb.mono HB5.out.size)); have HNu2 := hid (num_any 21 w6 (HE.out.next HB6.out)); rw [errOf_pos (by decide), show ((21 : Nat) : Int) = 21 from rfl] at HNu2; clear hb HNu) | (go_at_call 8; (with_reducible refine HNu2.out.mono ?_); rintro e w7 ⟨rfl, hb⟩; have HB7x := hid (HB6.out.trans (hb.mono HB6.out.size)); clear hb) | (go_at_call 6; (with_reducible refine (sure_any _).mono ?_); rintro e w9 ⟨rfl, hb⟩; have HB9 := hid (HB7x.out.trans (hb.mono HB7x.out.size)); clear hb))
                  go_ret
                  exact ⟨rfl, HB9.out⟩
              · go_simp
                refine hK _ _ ?_
                clear hK K
                obtain ⟨wB, hwB⟩ : ∃ wB, wB = (w1.alloc (.cells #[.int .u8 13] 5 (0, 0))).drew := ⟨_, rfl⟩
                try rw [← hwB]
                obtain ⟨G6, hG6⟩ : ∃ G6, G6 = w1.heap.size := ⟨_, rfl⟩
                have HBB := hid (show Below w1.heap.size w1 wB from by rw [hwB]; exact (below_new w1 _).drew)
                have HC6b := hid (show ∀ j u, [Value.int .u8 13][j]? = some u → wB.cell? ((⟨G6, 0, none⟩ : Addr).add j) = some u from by rw [hwB, hG6]; exact cells_new w1 _ _)
                have HLtB := hid (show G6 < wB.heap.size from by rw [hwB, hG6]; simp)
                rw [← hG6]
                clear hwB hG6
                refine any_one (i := 4) (by kernel_rfl) rfl (fun K hK => ?_)
                rw [if_pos (by rfl)]
                refine wp_append_own_at (.tmp 67) (.tmp 70) 25 rfl w1.heap.size 5 i0 _ 1 1 Tryd.underlying25 hi0 hz0 hz1 hz2 rfl (by decide) (.slice none 0 0) 0 [] (by go_simp) (⟨rfl, .inl ⟨rfl, rfl⟩⟩) ⟨g, o, none⟩ i d (Lib.byteCells (L.take i)) (by go_simp) (by rw [Lib_len, HLi.out]) (take_cells (HA1.out.next HBB.out)) (byte_one _) (by have := HMid.out; unfold maxLen; omega) (by have := HMid.out; omega) HBB.out.size ?_
                intro v4 U hown hgr _
                have HO4 := hid (show Own U w1.heap.size v4 (L.take i) from by have h9 := Own.put (acc := []) (bs := L.take i) (k := i) (by rw [List.nil_append] at hown; simpa [Lib.byteCells] using hown) rfl HLi.out; simpa using h9)
                have HBU := hid (show Below w1.heap.size w1 U from HBB.out.trans ((below_grown hgr).mono HBB.out.size))
                have HC6 := hid (show ∀ j u, [Value.int .u8 13][j]? = some u → U.cell? ((⟨G6, 0, none⟩ : Addr).add j) = some u from fun j u hj => by rw [(below_grown hgr).cell (by rw [add_off]; exact HLtB.out)]; exact HC6b.out j u hj)
                rw [Nat.zero_add] at hown
                obtain ⟨p4, c4, rfl⟩ := own_slice hown
                clear hown hgr
                show K (Act.put _ (some 71) _) _
                refine hK _ _ ?_
                clear hK K
                simp only [Act.put, List.setIfInBounds_toArray, List.set_cons_zero, List.set_cons_succ]
                refine any_one (i := 7) (by kernel_rfl) rfl (fun K hK => ?_)
                rw [if_pos (by rfl)]
                refine wp_append_own_at (.tmp 71) (.tmp 73) 25 rfl w1.heap.size 5 i0 _ 1 1 Tryd.underlying25 hi0 hz0 hz1 hz2 rfl (by decide) (.slice p4 i c4) i (Lib.byteCells (L.take i)) (by go_simp) (by have := HO4.out; unfold Own at this; rw [HLi.out] at this; exact this) ⟨G6, 0, none⟩ 1 1 [.int .u8 13] (by go_simp) rfl (HC6.out) (by simp [Value.oneCell']) (by have := HMid.out; unfold maxLen; omega) (by have := HMid.out; omega) HBU.out.size ?_
                intro v7 w7 hown hgr _
                have HO7 := hid (show Own w7 w1.heap.size v7 (L.take i ++ [13]) from Own.put (acc := L.take i) (bs := [13]) (by rw [HLi.out]; exact hown) rfl rfl)
                have HB7 := hid (HBU.out.trans (Own.below HO4.out HBU.out.size hgr))
                obtain ⟨p7, c7, rfl⟩ := own_slice hown
                clear hown hgr
                show K (Act.put _ (some 74) _) _
                refine hK _ _ ?_
                clear hK K
                simp only [Act.put, List.setIfInBounds_toArray, List.set_cons_zero, List.set_cons_succ]
                refine any_one (i := 11) (by kernel_rfl) rfl (fun K hK => ?_)
                rw [if_pos (by rfl)]
                refine wp_append_own_at (.tmp 74) (.tmp 77) 25 rfl w1.heap.size 5 i0 _ 1 1 Tryd.underlying25 hi0 hz0 hz1 hz2 rfl (by decide) (.slice p7 (i + 1) c7) (i + 1) (Lib.byteCells (L.take i ++ [13])) (by go_simp) (by have := HO7.out; unfold Own at this; rw [List.length_append, HLi.out] at this; exact this) ⟨g, o + i, none⟩ (x - i) (d - i) (Lib.byteCells (L.drop i)) (by go_simp) (drop_len HX.out) (drop_cells (HA1.out.next HB7.out)) (byte_one _) (by have := HMid.out; unfold maxLen; omega) (by have := HMid.out; omega) HB7.out.size ?_
                intro v8 w8 hown hgr _
                have HO8 := hid (show Own w8 w1.heap.size v8 (L.take i ++ 13 :: L.drop i) from by have h9 := Own.put (acc := L.take i ++ [13]) (bs := L.drop i) (k := x - i) (by rw [List.length_append, HLi.out]; exact hown) rfl (by rw [List.length_drop, HX.out]); simpa using h9)
                have HB8 := hid (HB7.out.trans (Own.below HO7.out HB7.out.size hgr))
                rw [sum_i hil] at hown
                obtain ⟨p8, c8, rfl⟩ := own_slice hown
                clear hown hgr
                show K (Act.put _ (some 78) _) _
                refine hK _ _ ?_
                clear hK K
                simp only [Act.put, List.setIfInBounds_toArray, List.set_cons_zero, List.set_cons_succ]
                refine any_take (i := 12) (some 12) rfl rfl (by kernel_rfl) (by kernel_rfl) (by kernel_rfl) (fun _ _ _ h => h) (by rfl) (v := ?v12bbf) ?hy12bbf ?rest12bbf
                case hy12bbf => intro w0; go_simp; try with_reducible rfl
                simp only [Act.put, List.setIfInBounds_toArray, List.set_cons_zero, List.set_cons_succ]
                refine any_done (by kernel_rfl) ?_ _
                refine NoPanic.normal ?_
                have HB8w := hid (HB1.out.trans (HB8.out.mono HB1.out.size))
                obtain ⟨E, hE⟩ : ∃ E, allE (feedP (newP false 65536) (L.take i ++ 13 :: L.drop i)) = E := ⟨_, rfl⟩
                have HEe := hid (show E = 20 ∨ E = 21 from by rw [← hE]; exact HPl.out)
                have HP := hid (parse_req_err (L.take i ++ 13 :: L.drop i) p8 (x + 1) c8 65536 w8 (bare_len HX.out hil) HO8.out.arg (by have := HMid.out; omega) (by omega) (by rw [hE]; exact nat_or HEe.out))
                rw [hE] at HP
                obtain ⟨W9, hW9⟩ : ∃ W9 : World → World, W9 = fun w9 => w9.alloc (.cells reqZ 24 (0, 0)) := ⟨_, rfl⟩
                clear hE hW9
                rcases HEe.out with rfl | rfl
                · rw [errOf_pos (by decide), show ((20 : Nat) : Int) = 20 from rfl] at HP
                  go_wp2_with (first | (go_at_call 7; (with_reducible refine HP.out.mono ?_); rintro e w4 ⟨rfl, hb⟩; have HB4 := hid (HB8w.out.trans (hb.mono HB8w.out.size)); clear hb HP; obtain ⟨W5, hW5⟩ : ∃ W5, W5 = w4.alloc (.cells reqZ 24 (0, 0)) := ⟨_, rfl⟩; have HW5 := hid hW5; have HB5 := hid (show Below w.heap.size w W5 from (by rw [hW5]; exact HB4.out.trans ((below_new _ _).mono HB4.out.size))); have HNu := hid (num_any 20 W5 (HE.out.next HB5.out)); rw [errOf_pos (by decide), show ((20 : Nat) : Int) = 20 from rfl] at HNu; unfold reqZ at HW5 ⊢; clear hW5) | (go_at_call 8; (rw [← HW5.out]); (with_reducible refine HNu.out.mono ?_); rintro e w6 ⟨rfl, hb⟩; have HB6 := hid (HB5.out.trans (hb.mono HB5.out.size)); clear hb) | (go_at_call 6; (with_reducible refine (sure_any _).mono ?_); rintro e w9 ⟨rfl, hb⟩; have HB9 := hid (HB6.out.trans (hb.mono HB6.out.size)); clear hb))
                  go_ret
                  exact ⟨rfl, HB9.out⟩
                · rw [errOf_pos (by decide), show ((21 : Nat) : Int) = 21 from rfl] at HP
                  go_wp2_with (first | (go_at_call 7; (with_reducible refine HP.out.mono ?_); rintro e w4 ⟨rfl, hb⟩; have HB4 := hid (HB8w.out.trans (hb.mono HB8w.out.size)); clear hb HP; obtain ⟨W5, hW5⟩ : ∃ W5, W5 = w4.alloc (.cells reqZ 24 (0, 0)) := ⟨_, rfl⟩; have HW5 := hid hW5; have HB5 := hid (show Below w.heap.size w W5 from (by rw [hW5]; exact HB4.out.trans ((below_new _ _).mono HB4.out.size))); have HNu := hid (num_any 21 W5 (HE.out.next HB5.out)); rw [errOf_pos (by decide), show ((21 : Nat) : Int) = 21 from rfl] at HNu; unfold reqZ at HW5 ⊢; clear hW5) | (go_at_call 8; (rw [← HW5.out]); (with_reducible refine HNu.out.mono ?_); rintro e w6 ⟨rfl, hb⟩; have HB6 := hid (HB5.out.trans (hb.mono HB5.out.size)); have HNu2 := hid (num_any 21 w6 (HE.out.next HB6.out)); rw [errOf_pos (by decide), show ((21 : Nat) : Int) = 21 from rfl] at HNu2; clear hb HNu) | (go_at_call 8; (with_reducible refine HNu2.out.mono ?_); rintro e w7 ⟨rfl, hb⟩; have HB7x := hid (HB6.out.trans (hb.mono HB6.out.size)); clear hb) | (go_at_call 6; (with_reducible refine (sure_any _).mono ?_); rintro e w9 ⟨rfl, hb⟩; have HB9 := hid (HB7x.out.trans (hb.mono HB7x.out.size)); clear hb))
                  go_ret
                  exact ⟨rfl, HB9.out⟩
        | true =>
          have hcl : (10 : UInt8) = 13 ∨ (10 : UInt8) = 10 := by decide
          skip
          obtain ⟨i0, hi0, hz0, hz1, hz2⟩ := info_parts infoB
          go_enter Tryd.func4, Tryd.ntmps4
          go_wp2_with (go_at_call 5; (rw [← HW0.out]); (with_reducible refine HWr.out.mono ?_); rintro e w1 ⟨q, x2, d, rfl, hx2, ho, hb⟩; rw [HX.out] at hx2; have hx3 := hx2.symm; subst hx3; rw [hb1]; have HB1 := hid (HB0.out.trans (hb.mono HB0.out.size)); have HO1 := hid ho; clear ho hb HWr)
          
          rw [HI]
          clear HI HLo hz hwi hwi2 hx1 hb3 hb1 hb4
          obtain ⟨y0, hy0⟩ := at_some HX.out (Nat.lt_of_lt_of_le (show 0 < 2 by decide) h2)
          obtain ⟨g, o, rfl, _⟩ := HO1.out.arg 0 y0 hy0
          clear hy0
          have HA1 := hid HO1.out.arg
          have hcap := Own.cap HO1.out
          go_loopg [11] (u - lo + 1) (fun gk s11 wr => ∃ j : Nat, s11 = .int .i64 (j : Int) ∧ lo ≤ j ∧ j ≤ max lo u ∧ gk = u - j + 1 ∧ wr = w1 ∧ ∀ k, lo ≤ k → k < j → ∀ y, L[k]? = some y → y ≠ 13 ∧ y ≠ 10)
          case atStart => exact ⟨lo, rfl, Nat.le_refl _, Nat.le_max_left _ _, rfl, rfl, fun k h1 h2 => by omega⟩
          case round =>
            obtain ⟨j, rfl, hj1, hj2, rfl, hw, hall⟩ := hrel
            have hw2 := hw.symm
            clear hw
            subst hw2
            have HAll := hid hall
            clear hall
            by_cases hju : j < u
            · have hjx : j < x := Nat.lt_of_lt_of_le hju hu2
              obtain ⟨y, hy⟩ := at_some HX.out hjx
              skip
              have HY := hid hy
              obtain ⟨g2, o2, eg, hcell⟩ := HA1.out j y hy
              simp only [Option.some.injEq, Addr.mk.injEq, and_true] at eg
              obtain ⟨rfl, rfl⟩ := eg
              have hjI : (j : Int) < (u : Int) := Int.ofNat_lt.2 hju
              clear hy
              by_cases h13 : y = 13
              · subst h13
                rw [show ((13 : UInt8).toNat : Int) = 13 from rfl] at hcell
                go_wp2_with (go_at_call 6; (with_reducible refine (sure_any _).mono ?_); rintro e w9 ⟨rfl, hb⟩; have HB9 := hid (HB1.out.trans (hb.mono HB1.out.size)); clear hb)
                go_ret
                exact ⟨rfl, HB9.out⟩
              · have e13 := u8_ne h13
                rw [show ((13 : UInt8).toNat : Int) = 13 from rfl] at e13
                by_cases h10 : y = 10
                · subst h10
                  rw [show ((10 : UInt8).toNat : Int) = 10 from rfl] at hcell e13
                  go_wp2_with (go_at_call 6; (with_reducible refine (sure_any _).mono ?_); rintro e w9 ⟨rfl, hb⟩; have HB9 := hid (HB1.out.trans (hb.mono HB1.out.size)); clear hb)
                  go_ret
                  exact ⟨rfl, HB9.out⟩
                · have e10 := u8_ne h10
                  rw [show ((10 : UInt8).toNat : Int) = 10 from rfl] at e10
                  have hwj := wrap_one hjx HMid.out
                  go_wp2
                  go_roundg (u - (j + 1) + 1)
                  case measure => exact Nat.succ_lt_succ (Nat.sub_lt_sub_left hju (Nat.lt_succ_self j))
                  case rel =>
                    refine ⟨j + 1, (by rw [hwj]; push_cast; rfl), Nat.le_succ_of_le hj1, Nat.le_trans hju (Nat.le_max_right _ _), rfl, rfl, fun k h1 h2 z hz => ?_⟩
                    by_cases hk : k < j
                    · exact HAll.out k h1 hk z hz
                    · obtain rfl : k = j := Nat.le_antisymm (Nat.le_of_lt_succ h2) (Nat.le_of_not_lt hk)
                      rw [HY.out] at hz
                      obtain rfl := Option.some.inj hz
                      exact ⟨h13, h10⟩
            · skip
              have hjI : ¬ (j : Int) < (u : Int) := fun h => hju (Int.ofNat_lt.1 h)
              have HNear := hid (show ∀ k, lo ≤ k → k < u → ∀ y, L[k]? = some y → y ≠ 13 ∧ y ≠ 10 from fun k h1 h2 => HAll.out k h1 (Nat.lt_of_lt_of_le h2 (Nat.le_of_not_lt hju)))
              clear hj1 hj2 hju HAll
              obtain ⟨y, hy⟩ := at_some HX.out hil
              have HPl := hid (show allE (feedP (newP false 65536) (L.take i ++ 10 :: L.drop i)) = 20 ∨ allE (feedP (newP false 65536) (L.take i ++ 10 :: L.drop i)) = 21 from by
                obtain ⟨s, r1, r2, r3, _, r5, _⟩ := HRd2.out
                refine bare_plain r1 r2 r3 r5 (by rw [HX.out]; exact HMid.out) hy (by decide) (HNear.out i hlo2 hu3 y hy) (fun z h0 hz => HNear.out (i - 1) hlo3 (Nat.lt_of_le_of_lt (Nat.sub_le _ _) hu3) z hz)
          )
              clear hy
              have hsi : (i : Int) ≤ (d : Int) := Int.ofNat_le.2 (Nat.le_trans (Nat.le_of_lt hil) hcap)
              have hdi : ¬ d = i := Nat.ne_of_gt (Nat.lt_of_lt_of_le hil hcap)
              have hix : (i : Int) ≤ (x : Int) := Int.ofNat_le.2 (Nat.le_of_lt hil)
              go_wp2
              clear HU
              refine wp_region_noPanic ?_
              refine any_begin 13 (by kernel_rfl) (by kernel_rfl) ?_
              refine any_take (i := 0) (some 67) rfl rfl (by kernel_rfl) (by kernel_rfl) (by kernel_rfl) (fun _ _ _ h => h) (by rfl) (v := ?v0bt) ?hy0bt ?rest0bt
              case hy0bt => intro w0; go_simp; try with_reducible rfl
              simp only [Act.put, List.setIfInBounds_toArray, List.set_cons_zero, List.set_cons_succ]
              refine any_take (i := 1) (some 68) rfl rfl (by kernel_rfl) (by kernel_rfl) (by kernel_rfl) (fun _ _ _ h => h) (by rfl) (v := ?v1bt) ?hy1bt ?rest1bt
              case hy1bt => intro w0; go_simp; try with_reducible rfl
              simp only [Act.put, List.setIfInBounds_toArray, List.set_cons_zero, List.set_cons_succ]
              refine any_take (i := 2) (some 69) rfl rfl (by kernel_rfl) (by kernel_rfl) (by kernel_rfl) (fun _ _ _ h => h) (by rfl) (v := ?v2bt) ?hy2bt ?rest2bt
              case hy2bt => intro w0; go_simp; try with_reducible rfl
              simp only [Act.put, List.setIfInBounds_toArray, List.set_cons_zero, List.set_cons_succ]
              refine any_take (i := 3) (some 70) rfl rfl (by kernel_rfl) (by kernel_rfl) (by kernel_rfl) (fun _ _ _ h => h) (by rfl) (v := ?v3bt) ?hy3bt ?rest3bt
              case hy3bt => intro w0; go_simp; try with_reducible rfl
              simp only [Act.put, List.setIfInBounds_toArray, List.set_cons_zero, List.set_cons_succ]
              refine any_take (i := 5) (some 72) rfl rfl (by kernel_rfl) (by kernel_rfl) (by kernel_rfl) (fun _ _ _ h => h) (by rfl) (v := ?v5bt) ?hy5bt ?rest5bt
              case hy5bt => intro w0; go_simp; try with_reducible rfl
              simp only [Act.put, List.setIfInBounds_toArray, List.set_cons_zero, List.set_cons_succ]
              refine any_take (i := 8) (some 75) rfl rfl (by kernel_rfl) (by kernel_rfl) (by kernel_rfl) (fun _ _ _ h => h) (by rfl) (v := ?v8bt) ?hy8bt ?rest8bt
              case hy8bt => intro w0; go_simp; try with_reducible rfl
              simp only [Act.put, List.setIfInBounds_toArray, List.set_cons_zero, List.set_cons_succ]
              refine any_take (i := 9) (some 76) rfl rfl (by kernel_rfl) (by kernel_rfl) (by kernel_rfl) (fun _ _ _ h => h) (by rfl) (v := ?v9bt) ?hy9bt ?rest9bt
              case hy9bt => intro w0; go_simp; try with_reducible rfl
              simp only [Act.put, List.setIfInBounds_toArray, List.set_cons_zero, List.set_cons_succ]
              refine any_take (i := 10) (some 77) rfl rfl (by kernel_rfl) (by kernel_rfl) (by kernel_rfl) (fun _ _ _ h => h) (by rfl) (v := ?v10bt) ?hy10bt ?rest10bt
              case hy10bt => intro w0; go_simp; try with_reducible rfl
              simp only [Act.put, List.setIfInBounds_toArray, List.set_cons_zero, List.set_cons_succ]
              refine any_two (i := 4) (j := 6) (by kernel_rfl) rfl rfl (fun K hK => ?_) (fun K hK => ?_)
              · rw [if_pos (by rfl)]
                refine wp_append_own_at (.tmp 67) (.tmp 70) 25 rfl w1.heap.size 5 i0 _ 1 1 Tryd.underlying25 hi0 hz0 hz1 hz2 rfl (by decide) (.slice none 0 0) 0 [] (by go_simp) (⟨rfl, .inl ⟨rfl, rfl⟩⟩) ⟨g, o, none⟩ i d (Lib.byteCells (L.take i)) (by go_simp) (by rw [Lib_len, HLi.out]) (take_cells HA1.out) (byte_one _) (by have := HMid.out; unfold maxLen; omega) (by have := HMid.out; omega) (Nat.le_refl _) ?_
                intro v4 wA hown hgr _
                have HO4a := hid (show Own wA w1.heap.size v4 (L.take i) from by have h9 := Own.put (acc := []) (bs := L.take i) (k := i) (by rw [List.nil_append] at hown; simpa [Lib.byteCells] using hown) rfl HLi.out; simpa using h9)
                have HBA := hid (show Below w1.heap.size w1 wA from below_grown (show w1.grownBy wA none from ⟨hgr.os, hgr.tape, hgr.output, hgr.size, hgr.block⟩))
                rw [Nat.zero_add] at hown
                obtain ⟨p4, c4, rfl⟩ := own_slice hown
                clear hown hgr
                show K (Act.put _ (some 71) _) _
                refine hK _ _ ?_
                clear hK K
                simp only [Act.put, List.setIfInBounds_toArray, List.set_cons_zero, List.set_cons_succ]
                refine any_one (i := 6) (by kernel_rfl) rfl (fun K hK => ?_)
                go_simp
                refine hK _ _ ?_
                clear hK K
                obtain ⟨U, hU⟩ : ∃ U, U = wA.alloc (.cells #[.int .u8 10] 5 (0, 0)) := ⟨_, rfl⟩
                rw [← hU]
                obtain ⟨G6, hG6⟩ : ∃ G6, G6 = wA.heap.size := ⟨_, rfl⟩
                have HBU := hid (show Below w1.heap.size w1 U from by rw [hU]; exact HBA.out.trans ((below_new wA _).mono HBA.out.size))
                have HO4 := hid (show Own U w1.heap.size (.slice p4 i c4) (L.take i) from by rw [hU]; exact HO4a.out.alloc _)
                have HC6 := hid (show ∀ j u, [Value.int .u8 10][j]? = some u → U.cell? ((⟨G6, 0, none⟩ : Addr).add j) = some u from by rw [hU, hG6]; exact cells_new wA _ _)
                rw [← hG6]
                clear hU hG6
                refine any_one (i := 7) (by kernel_rfl) rfl (fun K hK => ?_)
                rw [if_pos (by rfl)]
                refine wp_append_own_at (.tmp 71) (.tmp 73) 25 rfl w1.heap.size 5 i0 _ 1 1 Tryd.underlying25 hi0 hz0 hz1 hz2 rfl (by decide) (.slice p4 i c4) i (Lib.byteCells (L.take i)) (by go_simp) (by have := HO4.out; unfold Own at this; rw [HLi.out] at this; exact this) ⟨G6, 0, none⟩ 1 1 [.int .u8 10] (by go_simp) rfl (HC6.out) (by simp [Value.oneCell']) (by have := HMid.out; unfold maxLen; omega) (by have := HMid.out; omega) HBU.out.size ?_
                intro v7 w7 hown hgr _
                have HO7 := hid (show Own w7 w1.heap.size v7 (L.take i ++ [10]) from Own.put (acc := L.take i) (bs := [10]) (by rw [HLi.out]; exact hown) rfl rfl)
                have HB7 := hid (HBU.out.trans (Own.below HO4.out HBU.out.size hgr))
                obtain ⟨p7, c7, rfl⟩ := own_slice hown
                clear hown hgr
                show K (Act.put _ (some 74) _) _
                refine hK _ _ ?_
                clear hK K
                simp only [Act.put, List.setIfInBounds_toArray, List.set_cons_zero, List.set_cons_succ]
                refine any_one (i := 11) (by kernel_rfl) rfl (fun K hK => ?_)
                rw [if_pos (by rfl)]
                refine wp_append_own_at (.tmp 74) (.tmp 77) 25 rfl w1.heap.size 5 i0 _ 1 1 Tryd.underlying25 hi0 hz0 hz1 hz2 rfl (by decide) (.slice p7 (i + 1) c7) (i + 1) (Lib.byteCells (L.take i ++ [10])) (by go_simp) (by have := HO7.out; unfold Own at this; rw [List.length_append, HLi.out] at this; exact this) ⟨g, o + i, none⟩ (x - i) (d - i) (Lib.byteCells (L.drop i)) (by go_simp) (drop_len HX.out) (drop_cells (HA1.out.next HB7.out)) (byte_one _) (by have := HMid.out; unfold maxLen; omega) (by have := HMid.out; omega) HB7.out.size ?_
                intro v8 w8 hown hgr _
                have HO8 := hid (show Own w8 w1.heap.size v8 (L.take i ++ 10 :: L.drop i) from by have h9 := Own.put (acc := L.take i ++ [10]) (bs := L.drop i) (k := x - i) (by rw [List.length_append, HLi.out]; exact hown) rfl (by rw [List.length_drop, HX.out]); simpa using h9)
                have HB8 := hid (HB7.out.trans (Own.below HO7.out HB7.out.size hgr))
                rw [sum_i hil] at hown
                obtain ⟨p8, c8, rfl⟩ := own_slice hown
                clear hown hgr
                show K (Act.put _ (some 78) _) _
                refine hK _ _ ?_
                clear hK K
                simp only [Act.put, List.setIfInBounds_toArray, List.set_cons_zero, List.set_cons_succ]
                refine any_take (i := 12) (some 12) rfl rfl (by kernel_rfl) (by kernel_rfl) (by kernel_rfl) (fun _ _ _ h => h) (by rfl) (v := ?v12bat) ?hy12bat ?rest12bat
                case hy12bat => intro w0; go_simp; try with_reducible rfl
                simp only [Act.put, List.setIfInBounds_toArray, List.set_cons_zero, List.set_cons_succ]
                refine any_done (by kernel_rfl) ?_ _
                refine NoPanic.normal ?_
                have HB8w := hid (HB1.out.trans (HB8.out.mono HB1.out.size))
                obtain ⟨E, hE⟩ : ∃ E, allE (feedP (newP false 65536) (L.take i ++ 10 :: L.drop i)) = E := ⟨_, rfl⟩
                have HEe := hid (show E = 20 ∨ E = 21 from by rw [← hE]; exact HPl.out)
                have HP := hid (parse_req_err (L.take i ++ 10 :: L.drop i) p8 (x + 1) c8 65536 w8 (bare_len HX.out hil) HO8.out.arg (by have := HMid.out; omega) (by omega) (by rw [hE]; exact nat_or HEe.out))
                rw [hE] at HP
                obtain ⟨W9, hW9⟩ : ∃ W9 : World → World, W9 = fun w9 => w9.alloc (.cells reqZ 24 (0, 0)) := ⟨_, rfl⟩
                clear hE hW9
                rcases HEe.out with rfl | rfl
                · rw [errOf_pos (by decide), show ((20 : Nat) : Int) = 20 from rfl] at HP
                  go_wp2_with (first | (go_at_call 7; (with_reducible refine HP.out.mono ?_); rintro e w4 ⟨rfl, hb⟩; have HB4 := hid (HB8w.out.trans (hb.mono HB8w.out.size)); clear hb HP; obtain ⟨W5, hW5⟩ : ∃ W5, W5 = w4.alloc (.cells reqZ 24 (0, 0)) := ⟨_, rfl⟩; have HW5 := hid hW5; have HB5 := hid (show Below w.heap.size w W5 from (by rw [hW5]; exact HB4.out.trans ((below_new _ _).mono HB4.out.size))); have HNu := hid (num_any 20 W5 (HE.out.next HB5.out)); rw [errOf_pos (by decide), show ((20 : Nat) : Int) = 20 from rfl] at HNu; unfold reqZ at HW5 ⊢; clear hW5) | (go_at_call 8; (rw [← HW5.out]); (with_reducible refine HNu.out.mono ?_); rintro e w6 ⟨rfl, hb⟩; have HB6 := hid (HB5.out.trans (hb.mono HB5.out.size)); clear hb) | (go_at_call 6; (with_reducible refine (sure_any _).mono ?_); rintro e w9 ⟨rfl, hb⟩; have HB9 := hid (HB6.out.trans (hb.mono HB6.out.size)); clear hb))
                  go_ret
                  exact ⟨rfl, HB9.out⟩
                · rw [errOf_pos (by decide), show ((21 : Nat) : Int) = 21 from rfl] at HP
                  go_wp2_with (first | (go_at_call 7; (with_reducible refine HP.out.mono ?_); rintro e w4 ⟨rfl, hb⟩; have HB4 := hid (HB8w.out.trans (hb.mono HB8w.out.size)); clear hb HP; obtain ⟨W5, hW5⟩ : ∃ W5, W5 = w4.alloc (.cells reqZ 24 (0, 0)) := ⟨_, rfl⟩; have HW5 := hid hW5; have HB5 := hid (show Below w.heap.size w W5 from (by rw [hW5]; exact HB4.out.trans ((below_new _ _).mono HB4.out.size))); have HNu := hid (num_any 21 W5 (HE.out.next HB5.out)); rw [errOf_pos (by decide), show ((21 : Nat) : Int) = 21 from rfl] at HNu; unfold reqZ at HW5 ⊢; clear hW5) | (go_at_call 8; (rw [← HW5.out]); (with_reducible refine HNu.out.mono ?_); rintro e w6 ⟨rfl, hb⟩; have HB6 := hid (HB5.out.trans (hb.mono HB5.out.size)); have HNu2 := hid (num_any 21 w6 (HE.out.next HB6.out)); rw [errOf_pos (by decide), show ((21 : Nat) : Int) = 21 from rfl] at HNu2; clear hb HNu) | (go_at_call 8; (with_reducible refine HNu2.out.mono ?_); rintro e w7 ⟨rfl, hb⟩; have HB7x := hid (HB6.out.trans (hb.mono HB6.out.size)); clear hb) | (go_at_call 6; (with_reducible refine (sure_any _).mono ?_); rintro e w9 ⟨rfl, hb⟩; have HB9 := hid (HB7x.out.trans (hb.mono HB7x.out.size)); clear hb))
                  go_ret
                  exact ⟨rfl, HB9.out⟩
              · go_simp
                refine hK _ _ ?_
                clear hK K
                obtain ⟨wB, hwB⟩ : ∃ wB, wB = (w1.alloc (.cells #[.int .u8 10] 5 (0, 0))).drew := ⟨_, rfl⟩
                try rw [← hwB]
                obtain ⟨G6, hG6⟩ : ∃ G6, G6 = w1.heap.size := ⟨_, rfl⟩
                have HBB := hid (show Below w1.heap.size w1 wB from by rw [hwB]; exact (below_new w1 _).drew)
                have HC6b := hid (show ∀ j u, [Value.int .u8 10][j]? = some u → wB.cell? ((⟨G6, 0, none⟩ : Addr).add j) = some u from by rw [hwB, hG6]; exact cells_new w1 _ _)
                have HLtB := hid (show G6 < wB.heap.size from by rw [hwB, hG6]; simp)
                rw [← hG6]
                clear hwB hG6
                refine any_one (i := 4) (by kernel_rfl) rfl (fun K hK => ?_)
                rw [if_pos (by rfl)]
                refine wp_append_own_at (.tmp 67) (.tmp 70) 25 rfl w1.heap.size 5 i0 _ 1 1 Tryd.underlying25 hi0 hz0 hz1 hz2 rfl (by decide) (.slice none 0 0) 0 [] (by go_simp) (⟨rfl, .inl ⟨rfl, rfl⟩⟩) ⟨g, o, none⟩ i d (Lib.byteCells (L.take i)) (by go_simp) (by rw [Lib_len, HLi.out]) (take_cells (HA1.out.next HBB.out)) (byte_one _) (by have := HMid.out; unfold maxLen; omega) (by have := HMid.out; omega) HBB.out.size ?_
                intro v4 U hown hgr _
                have HO4 := hid (show Own U w1.heap.size v4 (L.take i) from by have h9 := Own.put (acc := []) (bs := L.take i) (k := i) (by rw [List.nil_append] at hown; simpa [Lib.byteCells] using hown) rfl HLi.out; simpa using h9)
                have HBU := hid (show Below w1.heap.size w1 U from HBB.out.trans ((below_grown hgr).mono HBB.out.size))
                have HC6 := hid (show ∀ j u, [Value.int .u8 10][j]? = some u → U.cell? ((⟨G6, 0, none⟩ : Addr).add j) = some u from fun j u hj => by rw [(below_grown hgr).cell (by rw [add_off]; exact HLtB.out)]; exact HC6b.out j u hj)
                rw [Nat.zero_add] at hown
                obtain ⟨p4, c4, rfl⟩ := own_slice hown
                clear hown hgr
                show K (Act.put _ (some 71) _) _
                refine hK _ _ ?_
                clear hK K
                simp only [Act.put, List.setIfInBounds_toArray, List.set_cons_zero, List.set_cons_succ]
                refine any_one (i := 7) (by kernel_rfl) rfl (fun K hK => ?_)
                rw [if_pos (by rfl)]
                refine wp_append_own_at (.tmp 71) (.tmp 73) 25 rfl w1.heap.size 5 i0 _ 1 1 Tryd.underlying25 hi0 hz0 hz1 hz2 rfl (by decide) (.slice p4 i c4) i (Lib.byteCells (L.take i)) (by go_simp) (by have := HO4.out; unfold Own at this; rw [HLi.out] at this; exact this) ⟨G6, 0, none⟩ 1 1 [.int .u8 10] (by go_simp) rfl (HC6.out) (by simp [Value.oneCell']) (by have := HMid.out; unfold maxLen; omega) (by have := HMid.out; omega) HBU.out.size ?_
                intro v7 w7 hown hgr _
                have HO7 := hid (show Own w7 w1.heap.size v7 (L.take i ++ [10]) from Own.put (acc := L.take i) (bs := [10]) (by rw [HLi.out]; exact hown) rfl rfl)
                have HB7 := hid (HBU.out.trans (Own.below HO4.out HBU.out.size hgr))
                obtain ⟨p7, c7, rfl⟩ := own_slice hown
                clear hown hgr
                show K (Act.put _ (some 74) _) _
                refine hK _ _ ?_
                clear hK K
                simp only [Act.put, List.setIfInBounds_toArray, List.set_cons_zero, List.set_cons_succ]
                refine any_one (i := 11) (by kernel_rfl) rfl (fun K hK => ?_)
                rw [if_pos (by rfl)]
                refine wp_append_own_at (.tmp 74) (.tmp 77) 25 rfl w1.heap.size 5 i0 _ 1 1 Tryd.underlying25 hi0 hz0 hz1 hz2 rfl (by decide) (.slice p7 (i + 1) c7) (i + 1) (Lib.byteCells (L.take i ++ [10])) (by go_simp) (by have := HO7.out; unfold Own at this; rw [List.length_append, HLi.out] at this; exact this) ⟨g, o + i, none⟩ (x - i) (d - i) (Lib.byteCells (L.drop i)) (by go_simp) (drop_len HX.out) (drop_cells (HA1.out.next HB7.out)) (byte_one _) (by have := HMid.out; unfold maxLen; omega) (by have := HMid.out; omega) HB7.out.size ?_
                intro v8 w8 hown hgr _
                have HO8 := hid (show Own w8 w1.heap.size v8 (L.take i ++ 10 :: L.drop i) from by have h9 := Own.put (acc := L.take i ++ [10]) (bs := L.drop i) (k := x - i) (by rw [List.length_append, HLi.out]; exact hown) rfl (by rw [List.length_drop, HX.out]); simpa using h9)
                have HB8 := hid (HB7.out.trans (Own.below HO7.out HB7.out.size hgr))
                rw [sum_i hil] at hown
                obtain ⟨p8, c8, rfl⟩ := own_slice hown
                clear hown hgr
                show K (Act.put _ (some 78) _) _
                refine hK _ _ ?_
                clear hK K
                simp only [Act.put, List.setIfInBounds_toArray, List.set_cons_zero, List.set_cons_succ]
                refine any_take (i := 12) (some 12) rfl rfl (by kernel_rfl) (by kernel_rfl) (by kernel_rfl) (fun _ _ _ h => h) (by rfl) (v := ?v12bbt) ?hy12bbt ?rest12bbt
                case hy12bbt => intro w0; go_simp; try with_reducible rfl
                simp only [Act.put, List.setIfInBounds_toArray, List.set_cons_zero, List.set_cons_succ]
                refine any_done (by kernel_rfl) ?_ _
                refine NoPanic.normal ?_
                have HB8w := hid (HB1.out.trans (HB8.out.mono HB1.out.size))
                obtain ⟨E, hE⟩ : ∃ E, allE (feedP (newP false 65536) (L.take i ++ 10 :: L.drop i)) = E := ⟨_, rfl⟩
                have HEe := hid (show E = 20 ∨ E = 21 from by rw [← hE]; exact HPl.out)
                have HP := hid (parse_req_err (L.take i ++ 10 :: L.drop i) p8 (x + 1) c8 65536 w8 (bare_len HX.out hil) HO8.out.arg (by have := HMid.out; omega) (by omega) (by rw [hE]; exact nat_or HEe.out))
                rw [hE] at HP
                obtain ⟨W9, hW9⟩ : ∃ W9 : World → World, W9 = fun w9 => w9.alloc (.cells reqZ 24 (0, 0)) := ⟨_, rfl⟩
                clear hE hW9
                rcases HEe.out with rfl | rfl
                · rw [errOf_pos (by decide), show ((20 : Nat) : Int) = 20 from rfl] at HP
                  go_wp2_with (first | (go_at_call 7; (with_reducible refine HP.out.mono ?_); rintro e w4 ⟨rfl, hb⟩; have HB4 := hid (HB8w.out.trans (hb.mono HB8w.out.size)); clear hb HP; obtain ⟨W5, hW5⟩ : ∃ W5, W5 = w4.alloc (.cells reqZ 24 (0, 0)) := ⟨_, rfl⟩; have HW5 := hid hW5; have HB5 := hid (show Below w.heap.size w W5 from (by rw [hW5]; exact HB4.out.trans ((below_new _ _).mono HB4.out.size))); have HNu := hid (num_any 20 W5 (HE.out.next HB5.out)); rw [errOf_pos (by decide), show ((20 : Nat) : Int) = 20 from rfl] at HNu; unfold reqZ at HW5 ⊢; clear hW5) | (go_at_call 8; (rw [← HW5.out]); (with_reducible refine HNu.out.mono ?_); rintro e w6 ⟨rfl, hb⟩; have HB6 := hid (HB5.out.trans (hb.mono HB5.out.size)); clear hb) | (go_at_call 6; (with_reducible refine (sure_any _).mono ?_); rintro e w9 ⟨rfl, hb⟩; have HB9 := hid (HB6.out.trans (hb.mono HB6.out.size)); clear hb))
                  go_ret
                  exact ⟨rfl, HB9.out⟩
                · rw [errOf_pos (by decide), show ((21 : Nat) : Int) = 21 from rfl] at HP
                  go_wp2_with (first | (go_at_call 7; (with_reducible refine HP.out.mono ?_); rintro e w4 ⟨rfl, hb⟩; have HB4 := hid (HB8w.out.trans (hb.mono HB8w.out.size)); clear hb HP; obtain ⟨W5, hW5⟩ : ∃ W5, W5 = w4.alloc (.cells reqZ 24 (0, 0)) := ⟨_, rfl⟩; have HW5 := hid hW5; have HB5 := hid (show Below w.heap.size w W5 from (by rw [hW5]; exact HB4.out.trans ((below_new _ _).mono HB4.out.size))); have HNu := hid (num_any 21 W5 (HE.out.next HB5.out)); rw [errOf_pos (by decide), show ((21 : Nat) : Int) = 21 from rfl] at HNu; unfold reqZ at HW5 ⊢; clear hW5) | (go_at_call 8; (rw [← HW5.out]); (with_reducible refine HNu.out.mono ?_); rintro e w6 ⟨rfl, hb⟩; have HB6 := hid (HB5.out.trans (hb.mono HB5.out.size)); have HNu2 := hid (num_any 21 w6 (HE.out.next HB6.out)); rw [errOf_pos (by decide), show ((21 : Nat) : Int) = 21 from rfl] at HNu2; clear hb HNu) | (go_at_call 8; (with_reducible refine HNu2.out.mono ?_); rintro e w7 ⟨rfl, hb⟩; have HB7x := hid (HB6.out.trans (hb.mono HB6.out.size)); clear hb) | (go_at_call 6; (with_reducible refine (sure_any _).mono ?_); rintro e w9 ⟨rfl, hb⟩; have HB9 := hid (HB7x.out.trans (hb.mono HB7x.out.size)); clear hb))
                  go_ret
                  exact ⟨rfl, HB9.out⟩
      · have hb3 : decide ((32768 : Int) < (x : Int)) = true := decide_eq_true (by omega)
        have hb4 : (32768 : Int) < (x : Int) := by omega
        have hx1 : decide ((x : Int) < 1) = false := decide_eq_false (by omega)
        clear hF hsz hn hM hT hW0 he hok hL hx hbig hmid
        go_enter Tryd.func4, Tryd.ntmps4
        go_wp2_with (first | (go_at_call 5; (rw [← HW0.out]); (with_reducible refine HWr.out.mono ?_); rintro e w1 ⟨q, x2, d, rfl, hx2, ho, hb⟩; rw [HX.out] at hx2; have hx3 := hx2.symm; subst hx3; rw [hb1]; have HB1 := hid (HB0.out.trans (hb.mono HB0.out.size)); have HO1 := hid ho; clear ho hb HWr) | (go_at_call 6; (with_reducible refine (sure_any _).mono ?_); rintro e w9 ⟨rfl, hb⟩; have HB9 := hid (HB1.out.trans (hb.mono HB1.out.size)); clear hb))
        go_ret
        exact ⟨rfl, HB9.out⟩
    · have hb1 : decide (x ≤ 65536) = false := decide_eq_false hbig
      clear hF hsz hn hM hT hW0 he hok hL hx hbig
      go_enter Tryd.func4, Tryd.ntmps4
      go_wp2_with (first | (go_at_call 5; (rw [← HW0.out]); (with_reducible refine HWr.out.mono ?_); rintro e w1 ⟨q, x2, d, rfl, hx2, ho, hb⟩; rw [HX.out] at hx2; have hx3 := hx2.symm; subst hx3; rw [hb1]; have HB1 := hid (HB0.out.trans (hb.mono HB0.out.size)); have HO1 := hid ho; clear ho hb HWr) | (go_at_call 6; (with_reducible refine (sure_any _).mono ?_); rintro e w9 ⟨rfl, hb⟩; have HB9 := hid (HB1.out.trans (hb.mono HB1.out.size)); clear hb))
      go_ret
      exact ⟨rfl, HB9.out⟩
end Go.Proofs.YtmcglcdpcblckabDoor
