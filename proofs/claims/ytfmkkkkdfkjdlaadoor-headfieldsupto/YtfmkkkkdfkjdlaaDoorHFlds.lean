/- The document's fields of the lines. -/
import Derived.Test.YtfmkkkkdfkjdlaaDoorHRelF
import Derived.Test.YtfmkkkkdfkjdlaaDoorPReq
namespace Go.Proofs.YtfmkkkkdfkjdlaaDoor
open Go.RowKit

/-- A row of texts that lies in memory. -/
def LAt (w : World) (p : Option Addr) (ls : List B) : Prop := ∀ (j : Nat) (t : B), ls[j]? = some t → ∃ g o, p = some ⟨g, o, none⟩ ∧ w.cell? ⟨g, o + j, none⟩ = some (.string (str t))
theorem LAt.next {w w' : World} {p : Option Addr} {ls : List B} (h : LAt w p ls) (hb : Below w.heap.size w w') : LAt w' p ls := by
  intro j t hj
  obtain ⟨g, o, e, hc⟩ := h j t hj
  exact ⟨g, o, e, cell_keep hb hc⟩
theorem OwnS.lat {w : World} {b n c : Nat} {p : Option Addr} {ls : List B} (h : OwnS w b (.slice p n c) ls) : LAt w p ls := fun _ _ hj => h.at hj
theorem LAt.tail {w : World} {g o : Nat} {x : B} {ls : List B} (h : LAt w (some ⟨g, o, none⟩) (x :: ls)) : LAt w (some ⟨g, o + 1, none⟩) ls := by
  intro j t hj
  obtain ⟨g', o', e, hc⟩ := h (j + 1) t (by simpa using hj)
  cases e
  exact ⟨g, o + 1, rfl, by rw [show o + 1 + j = o + (j + 1) by omega]; exact hc⟩
theorem fld_parts {l : B} (h : FldOk l) : ∃ a b, fieldOf l = (a, trimL b) ∧ findV 58 l = (a.length : Int) ∧ a.length < l.length ∧ l.take a.length = a ∧ l.drop (a.length + 1) = b := by
  obtain ⟨h1, h2, _⟩ := cutF_spec 58 l
  unfold FldOk at h
  rw [h, if_pos rfl] at h2
  obtain ⟨a, ha⟩ : ∃ a, (cutF 58 l).1 = a := ⟨_, rfl⟩
  obtain ⟨b, hb⟩ : ∃ b, (cutF 58 l).2.1 = b := ⟨_, rfl⟩
  rw [ha, hb] at h2
  refine ⟨a, b, by unfold fieldOf; rw [ha, hb], by unfold findV; rw [h, if_pos rfl, ha], ?_, ?_, ?_⟩
  · rw [h2]; simp
  · rw [h2]; simp
  · rw [h2]; simp
theorem wrap_id9 {x : Int} (h0 : -9223372036854775808 ≤ x) (h1 : x ≤ 9223372036854775807) : IntKind.i64.wrap x = x := by rw [IntKind.wrap_i64]; omega
structure RdS (U : World) (g o : Nat) (L : ByteArray) : Prop where
  c : U.cell? ⟨g, o, none⟩ = some (.string L)
set_option maxRecDepth 20000 in
set_option maxHeartbeats 8000000 in
theorem rflds_any (ls : List B) (p : Option Addr) (n c : Nat) (hn : ls.length = n) (w : World) (hL : LAt w p ls) (hok : ∀ x ∈ ls, FldOk x) (hsz : ∀ x ∈ ls, x.length ≤ 65536) (hn65 : n ≤ 65536) :
    Calls Tryd.prog 33 #[.slice p n c] w fun e w' => ∃ v, e = .returned v ∧ OwnF w' w.heap.size v (ls.map fieldOf) ∧ Below w.heap.size w w' := by
  have HL := hid hL
  have HOk := hid hok
  have HSz := hid hsz
  have HN := hid hn
  obtain ⟨i0, hi0, hz0, hz1, hz2⟩ := info_parts infoF
  clear hL hok hsz hn
  go_enter Tryd.func33, Tryd.ntmps33
  go_wp2
  go_loopg [3, 4] (n + 1) (fun gk s3 s4 wr => ∃ (i : Nat) (q : Option Addr) (m d : Nat), s3 = .slice q m d ∧ s4 = .int .i64 (i : Int) ∧ i ≤ n ∧ gk = n - i + 1 ∧ m = i ∧ OwnF wr w.heap.size (.slice q m d) ((ls.take i).map fieldOf) ∧ Below w.heap.size w wr)
  case atStart => exact ⟨0, none, 0, 0, rfl, rfl, by omega, rfl, rfl, OwnF.nil _ _, Below.refl _ _⟩
  case round =>
    obtain ⟨i, q, m, d, rfl, rfl, hin, rfl, rfl, ho, hb⟩ := hrel
    have HB := hid hb
    have HO := hid ho
    clear hb ho
    by_cases hlt : m < n
    · obtain ⟨l, hl⟩ : ∃ l, ls[m]? = some l := ⟨ls[m]'(by rw [HN.out]; exact hlt), List.getElem?_eq_getElem (by rw [HN.out]; exact hlt)⟩
      have HLi := hid hl
      obtain ⟨g, o, hp, kw⟩ := HL.out m l hl
      have hgw := lt_of_cell kw
      subst hp
      have HKp := hid (show ∀ W : World, Below w.heap.size w W → W.cell? ⟨g, o + m, none⟩ = some (.string (str l)) from fun W hb => cell_keep hb kw)
      have k0 := HKp.out _ HB.out
      have hls := HSz.out l (List.mem_of_getElem? hl)
      obtain ⟨a, b, hfo, hfi, hal, hta, hdr⟩ := fld_parts (HOk.out l (List.mem_of_getElem? hl))
      have hltI : (m : Int) < (n : Int) := by omega
      have HFd := hid (show ∀ W : World, _ from fun W => find_any l 58 (by omega) W)
      rw [hfi, show byteV 58 = .int .u8 58 from rfl] at HFd
      have HTr := hid (show ∀ W : World, _ from fun W => rtrim_any (str b) W (by rw [str_size, ← hdr, List.length_drop]; omega))
      have HTe := hid (show trimS (str b) = str (trimL b) from rfl)
      rw [HTe.out] at HTr
      have HFo := hid hfo
      have hsL : (str l).size = l.length := str_size l
      have HE1 := hid (show (str l).extract 0 a.length = str a from by rw [take_ext, hta])
      have HE2 := hid (show (str l).extract (a.length + 1) l.length = str b from by rw [ext_drop l (a.length + 1) l.length rfl, hdr])
      obtain ⟨NL, hNL⟩ : ∃ NL, l.length = NL := ⟨_, rfl⟩
      rw [hNL] at hsL HE2 hal hls
      obtain ⟨ka, hka⟩ : ∃ ka, a.length = ka := ⟨_, rfl⟩
      rw [hka] at HE1 HE2 HFd hal
      have hwk : IntKind.i64.wrap ((ka : Int) + 1) = ((ka + 1 : Nat) : Int) := by rw [wrap_id9 (by omega) (by omega)]; omega
      obtain ⟨L, hL⟩ : ∃ L, str l = L := ⟨_, rfl⟩
      obtain ⟨A, hA⟩ : ∃ A, str a = A := ⟨_, rfl⟩
      obtain ⟨Bv, hB⟩ : ∃ Bv, str b = Bv := ⟨_, rfl⟩
      obtain ⟨V, hV⟩ : ∃ V, str (trimL b) = V := ⟨_, rfl⟩
      rw [hL] at HKp k0 HFd hsL HE1 HE2
      rw [hA] at HE1
      rw [hB] at HE2 HTr
      rw [hV] at HTr
      have HCs := hid (show [Value.string A, Value.string V] = fldC [fieldOf l] from by rw [HFo.out, ← hA, ← hV]; rfl)
      have HB0 := hid (show Below w.heap.size w wr.drew from HB.out.drew)
      have hS0 : RdS wr.drew g (o + m) L := ⟨k0⟩
      have HO0 := hid (show OwnF wr.drew w.heap.size (.slice q m d) ((ls.take m).map fieldOf) from HO.out.keep ⟨rfl, rfl, rfl, Nat.le_refl _, fun _ _ => rfl⟩)
      have HLen := hid (show ((ls.take m).map fieldOf).length = m from by rw [List.length_map, List.length_take, HN.out]; omega)
      clear hl kw hls hfo hfi hta hdr hL hA hB hV hNL hka HTe HFo
      go_wp2_with (go_at_call 32; (with_reducible refine (HFd.out _).mono ?_); rintro e w1 ⟨rfl, hw1⟩; subst w1)
      refine wp_region_noPanic ?_
      refine any_begin 19 (by kernel_rfl) (by kernel_rfl) ?_
      refine late_begin (fun U => RdS U g (o + m) L) (fun _ => false) hS0 (fun hS => ?_)
      refine late_take (i := 0) (some 17) rfl rfl (by kernel_rfl) (by kernel_rfl) (by kernel_rfl) (by kernel_rfl) (by kernel_rfl) (fun _ _ _ h => h) (by rfl) (v := ?v0f) ?hy0f hS ?rest0f
      case hy0f => intro w0 hSw; obtain ⟨a0⟩ := hSw; go_simp; try with_reducible rfl
      simp only [Act.put, List.setIfInBounds_toArray, List.set_cons_zero, List.set_cons_succ]
      refine late_take (i := 1) (some 18) rfl rfl (by kernel_rfl) (by kernel_rfl) (by kernel_rfl) (by kernel_rfl) (by kernel_rfl) (fun _ _ _ h => h) (by rfl) (v := ?v1f) ?hy1f hS ?rest1f
      case hy1f => intro w0 hSw; obtain ⟨a0⟩ := hSw; go_simp; try with_reducible rfl
      simp only [Act.put, List.setIfInBounds_toArray, List.set_cons_zero, List.set_cons_succ]
      refine late_take (i := 2) (some 19) rfl rfl (by kernel_rfl) (by kernel_rfl) (by kernel_rfl) (by kernel_rfl) (by kernel_rfl) (fun _ _ _ h => h) (by rfl) (v := ?v2f) ?hy2f hS ?rest2f
      case hy2f => intro w0 hSw; obtain ⟨a0⟩ := hSw; go_simp; try with_reducible rfl
      simp only [Act.put, List.setIfInBounds_toArray, List.set_cons_zero, List.set_cons_succ]
      refine late_take (i := 3) (some 20) rfl rfl (by kernel_rfl) (by kernel_rfl) (by kernel_rfl) (by kernel_rfl) (by kernel_rfl) (fun _ _ _ h => h) (by rfl) (v := ?v3f) ?hy3f hS ?rest3f
      case hy3f => intro w0 hSw; obtain ⟨a0⟩ := hSw; go_simp; try with_reducible rfl
      simp only [Act.put, List.setIfInBounds_toArray, List.set_cons_zero, List.set_cons_succ]
      refine late_take (i := 4) (some 21) rfl rfl (by kernel_rfl) (by kernel_rfl) (by kernel_rfl) (by kernel_rfl) (by kernel_rfl) (fun _ _ _ h => h) (by rfl) (v := ?v4f) ?hy4f hS ?rest4f
      case hy4f => intro w0 hSw; obtain ⟨a0⟩ := hSw; go_simp; try with_reducible rfl
      simp only [Act.put, List.setIfInBounds_toArray, List.set_cons_zero, List.set_cons_succ]
      refine late_take (i := 5) (some 22) rfl rfl (by kernel_rfl) (by kernel_rfl) (by kernel_rfl) (by kernel_rfl) (by kernel_rfl) (fun _ _ _ h => h) (by rfl) (v := ?v5f) ?hy5f hS ?rest5f
      case hy5f => intro w0 hSw; obtain ⟨a0⟩ := hSw; go_simp; try with_reducible rfl
      simp only [Act.put, List.setIfInBounds_toArray, List.set_cons_zero, List.set_cons_succ]
      refine late_take (i := 6) (some 23) rfl rfl (by kernel_rfl) (by kernel_rfl) (by kernel_rfl) (by kernel_rfl) (by kernel_rfl) (fun _ _ _ h => h) (by rfl) (v := .string A) ?hy6f hS ?rest6f
      case hy6f => intro w0 hSw; obtain ⟨a0⟩ := hSw; go_simp; (try rw [if_pos (by omega)]); (try rw [if_pos (by omega)]); (try simp only [Int.toNat_natCast]); (try rw [HE1.out])
      simp only [Act.put, List.setIfInBounds_toArray, List.set_cons_zero, List.set_cons_succ]
      refine late_take (i := 7) (some 24) rfl rfl (by kernel_rfl) (by kernel_rfl) (by kernel_rfl) (by kernel_rfl) (by kernel_rfl) (fun _ _ _ h => h) (by rfl) (v := ?v7f) ?hy7f hS ?rest7f
      case hy7f => intro w0 hSw; obtain ⟨a0⟩ := hSw; go_simp; try with_reducible rfl
      simp only [Act.put, List.setIfInBounds_toArray, List.set_cons_zero, List.set_cons_succ]
      refine late_take (i := 8) (some 25) rfl rfl (by kernel_rfl) (by kernel_rfl) (by kernel_rfl) (by kernel_rfl) (by kernel_rfl) (fun _ _ _ h => h) (by rfl) (v := ?v8f) ?hy8f hS ?rest8f
      case hy8f => intro w0 hSw; obtain ⟨a0⟩ := hSw; go_simp; try with_reducible rfl
      simp only [Act.put, List.setIfInBounds_toArray, List.set_cons_zero, List.set_cons_succ]
      refine late_take (i := 9) (some 26) rfl rfl (by kernel_rfl) (by kernel_rfl) (by kernel_rfl) (by kernel_rfl) (by kernel_rfl) (fun _ _ _ h => h) (by rfl) (v := ?v9f) ?hy9f hS ?rest9f
      case hy9f => intro w0 hSw; obtain ⟨a0⟩ := hSw; go_simp; try with_reducible rfl
      simp only [Act.put, List.setIfInBounds_toArray, List.set_cons_zero, List.set_cons_succ]
      refine late_take (i := 10) (some 27) rfl rfl (by kernel_rfl) (by kernel_rfl) (by kernel_rfl) (by kernel_rfl) (by kernel_rfl) (fun _ _ _ h => h) (by rfl) (v := ?v10f) ?hy10f hS ?rest10f
      case hy10f => intro w0 hSw; obtain ⟨a0⟩ := hSw; go_simp; try with_reducible rfl
      simp only [Act.put, List.setIfInBounds_toArray, List.set_cons_zero, List.set_cons_succ]
      refine late_take (i := 11) (some 28) rfl rfl (by kernel_rfl) (by kernel_rfl) (by kernel_rfl) (by kernel_rfl) (by kernel_rfl) (fun _ _ _ h => h) (by rfl) (v := ?v11f) ?hy11f hS ?rest11f
      case hy11f => intro w0 hSw; obtain ⟨a0⟩ := hSw; go_simp; try with_reducible rfl
      simp only [Act.put, List.setIfInBounds_toArray, List.set_cons_zero, List.set_cons_succ]
      refine late_take (i := 12) (some 29) rfl rfl (by kernel_rfl) (by kernel_rfl) (by kernel_rfl) (by kernel_rfl) (by kernel_rfl) (fun _ _ _ h => h) (by rfl) (v := ?v12f) ?hy12f hS ?rest12f
      case hy12f => intro w0 hSw; obtain ⟨a0⟩ := hSw; go_simp; try with_reducible rfl
      simp only [Act.put, List.setIfInBounds_toArray, List.set_cons_zero, List.set_cons_succ]
      refine late_take (i := 13) (some 30) rfl rfl (by kernel_rfl) (by kernel_rfl) (by kernel_rfl) (by kernel_rfl) (by kernel_rfl) (fun _ _ _ h => h) (by rfl) (v := .string Bv) ?hy13f hS ?rest13f
      case hy13f => intro w0 hSw; obtain ⟨a0⟩ := hSw; go_simp; (try rw [if_pos (by omega)]); (try rw [if_pos (by omega)]); (try simp only [Int.toNat_natCast]); (try rw [HE2.out])
      simp only [Act.put, List.setIfInBounds_toArray, List.set_cons_zero, List.set_cons_succ]
      refine wpAnyD_one (i := 14) (by kernel_rfl) rfl (fun K hK => ?_)
      go_simp
      go_at_call 48
      refine (HTr.out _).mono ?_
      rintro e w2 ⟨rfl, hb⟩
      have HB2 := hid (show Below w.heap.size w w2 from by rw [hb]; exact HB0.out)
      have HO2 := hid (show OwnF w2 w.heap.size (.slice q m d) ((ls.take m).map fieldOf) from by rw [hb]; exact HO0.out)
      have hS2 : RdS w2 g (o + m) L := ⟨HKp.out _ HB2.out⟩
      refine hK _ _ ⟨fun _ => hS2, ?_⟩
      clear hK K hb hS hS0
      refine late_take (i := 15) (some 32) rfl rfl (by kernel_rfl) (by kernel_rfl) (by kernel_rfl) (by kernel_rfl) (by kernel_rfl) (fun _ _ _ h => h) (by rfl) (v := ?v15f) ?hy15f hS2 ?rest15f
      case hy15f => intro w0 hSw; obtain ⟨a0⟩ := hSw; go_simp; try with_reducible rfl
      simp only [Act.put, List.setIfInBounds_toArray, List.set_cons_zero, List.set_cons_succ]
      refine wpAnyD_one (i := 16) (by kernel_rfl) rfl (fun K hK => ?_)
      go_simp
      have hb3 := below_new w2 (.cells #[.string A, .string V] 83 (0, 0))
      have HB3 := hid (HB2.out.trans (hb3.mono HB2.out.size))
      have HO3 := hid (HO2.out.keep hb3)
      have HC3 := hid (cells_new w2 [.string A, .string V] 83)
      have hS3 : RdS (w2.alloc (.cells #[.string A, .string V] 83 (0, 0))) g (o + m) L := ⟨HKp.out _ HB3.out⟩
      refine hK _ _ ⟨fun _ => hS3, ?_⟩
      clear hK K hb3 hS2
      refine wpAnyD_one (i := 17) (by kernel_rfl) rfl (fun K hK => ?_)
      rw [if_pos (by rfl)]
      refine wp_append_own_at (.tmp 17) (.tmp 33) 23 rfl w.heap.size 83 i0 _ 2 32 Tryd.underlying23 hi0 hz0 hz1 hz2 rfl (by decide) (.slice q m d) m (fldC ((ls.take m).map fieldOf)) (by go_simp) (by have h9 := HO3.out; unfold OwnF at h9; rw [HLen.out] at h9; exact h9) ⟨w2.heap.size, 0, none⟩ 1 1 [.string A, .string V] (by go_simp) rfl (HC3.out) (by simp [Value.oneCell']) (by unfold maxLen; omega) (by omega) HB3.out.size ?_
      intro v' w4 hown hgr _
      have HB4 := hid (HB3.out.trans (OwnF.below HO3.out HB3.out.size hgr))
      obtain ⟨q4, c4, rfl⟩ := own_slice hown
      have HO4 := hid (show OwnF w4 w.heap.size (.slice q4 (m + 1) c4) ((ls.take (m + 1)).map fieldOf) from by
        have e9 : (ls.take (m + 1)).map fieldOf = (ls.take m).map fieldOf ++ [fieldOf l] := by rw [List.take_add_one, HLi.out, List.map_append]; rfl
        rw [e9]
        unfold OwnF
        rw [fldC_app, ← HCs.out, List.length_append, HLen.out]
        exact hown)
      clear hown hgr
      show K (Act.put _ (some 34) _) _
      have hS4 : RdS w4 g (o + m) L := ⟨HKp.out _ HB4.out⟩
      refine hK _ _ ⟨fun _ => hS4, ?_⟩
      clear hK K hS3
      simp only [Act.put, List.setIfInBounds_toArray, List.set_cons_zero, List.set_cons_succ]
      refine late_take (i := 18) (some 3) rfl rfl (by kernel_rfl) (by kernel_rfl) (by kernel_rfl) (by kernel_rfl) (by kernel_rfl) (fun _ _ _ h => h) (by rfl) (v := ?v18f) ?hy18f hS4 ?rest18f
      case hy18f => intro w0 hSw; obtain ⟨a0⟩ := hSw; go_simp; try with_reducible rfl
      simp only [Act.put, List.setIfInBounds_toArray, List.set_cons_zero, List.set_cons_succ]
      refine late_done (by kernel_rfl) ?_ _
      refine NoPanic.normal ?_
      go_wp2
      go_roundg (n - (m + 1) + 1)
      case measure => omega
      case rel => exact ⟨m + 1, q4, m + 1, c4, rfl, by go_num, by omega, rfl, rfl, HO4.out, HB4.out⟩
    · obtain rfl : m = n := by omega
      have hltI : ¬ (m : Int) < (m : Int) := by omega
      have HA2 := hid (show (ls.take m).map fieldOf = ls.map fieldOf from by rw [List.take_of_length_le (by rw [HN.out]; exact Nat.le_refl _)])
      clear hlt
      go_wp2
      go_ret
      exact ⟨_, rfl, by rw [← HA2.out]; exact HO.out, HB.out⟩
end Go.Proofs.YtfmkkkkdfkjdlaaDoor
