/- The program's reader of chunked bodies: its small functions. -/
import Derived.Test.YtnlmjlfoeodleaaGreatDoorKMem
namespace Go.Proofs.YtnlmjlfoeodleaaGreatDoor
open Go.RowKit

theorem i_ne {a b : Nat} (h : a ≠ b) : ((a : Int) == (b : Int)) = false := by rw [beq_eq_false_iff_ne]; omega
theorem c_ne {c : UInt8} {k : Nat} (h : c.toNat ≠ k) : ((c.toNat : Int) == (k : Int)) = false := by rw [beq_eq_false_iff_ne]; omega
theorem c_neq {c : UInt8} {k : Nat} (h : c.toNat ≠ k) : ((c.toNat : Int) != (k : Int)) = true := by rw [bne_iff_ne]; omega
theorem toNat_ne {c x : UInt8} (h : c ≠ x) : c.toNat ≠ x.toNat := fun e => h (UInt8.toNat_inj.1 e)
/-- The next state is told, and the reader has become it. -/
def NextT (F : Nat → Prop) (w : World) (g : Nat) (x : KS × Nat) (e : Ending) (w' : World) : Prop := e = .returned (.int .i64 (x.2 : Int)) ∧ Turned F w g x.1 w'
set_option maxRecDepth 20000 in
set_option maxHeartbeats 8000000 in
theorem only_any (one c : UInt8) (next : Nat) (w : World) : Calls Tryz.prog 147 #[byteV one, byteV c, .int .i64 (next : Int)] w fun e w' => e = .returned (.int .i64 (onlyK one c next : Int)) ∧ w' = w := by
  unfold byteV
  by_cases h : c = one
  · subst h
    have HV := hid (show onlyK c c next = next from by unfold onlyK; rw [if_pos rfl])
    have hb : ((c.toNat : Int) != (c.toNat : Int)) = false := by simp
    rw [HV.out]
    go_enter Tryz.func147, Tryz.ntmps147
    go_wp2
    go_ret
    exact ⟨rfl, rfl⟩
  · have HV := hid (show onlyK one c next = 12 from by unfold onlyK; rw [if_neg h])
    have hb : ((c.toNat : Int) != (one.toNat : Int)) = true := c_neq (toNat_ne h)
    rw [HV.out]
    clear h
    go_enter Tryz.func147, Tryz.ntmps147
    go_wp2
    go_ret
    exact ⟨rfl, rfl⟩
set_option maxRecDepth 20000 in
set_option maxHeartbeats 8000000 in
theorem done_any (g st : Nat) (w : World) (h3 : w.cell? ⟨g, 3, none⟩ = some (.int .i64 (st : Int))) : Calls Tryz.prog 109 #[.pointer (some ⟨g, 0, none⟩)] w fun e w' => e = .returned (.bool (decide (st = 11))) ∧ w' = w := by
  have HV := hid (show ((st : Int) == 11) = decide (st = 11) from by rw [Bool.eq_iff_iff]; simp; omega)
  go_enter Tryz.func109, Tryz.ntmps109
  go_wp2
  go_ret
  exact ⟨ret_bool HV.out, rfl⟩
theorem st_cases (st : Nat) : st = 6 ∨ st = 7 ∨ st = 8 ∨ st = 9 ∨ (st ≠ 6 ∧ st ≠ 7 ∧ st ≠ 8 ∧ st ≠ 9) := by omega
set_option maxRecDepth 20000 in
set_option maxHeartbeats 8000000 in
theorem ofLines_any (s : KS) (g : Nat) (c : UInt8) (w : World) (h3 : w.cell? ⟨g, 3, none⟩ = some (.int .i64 (s.st : Int))) : Calls Tryz.prog 130 #[.pointer (some ⟨g, 0, none⟩), byteV c] w fun e w' => e = .returned (.bool (ofLinesK s c)) ∧ w' = w := by
  unfold byteV
  obtain ⟨V, hV⟩ : ∃ V, ofLinesK s c = V := ⟨_, rfl⟩
  have HV := hid hV
  rw [hV]
  clear hV
  unfold ofLinesK at HV
  rcases st_cases s.st with e | e | e | e | ⟨e1, e2, e3, e4⟩
  · rw [e] at h3
    by_cases hc : c = 13
    · subst hc
      have HW := hid (show V = false from by rw [← HV.out, if_pos e]; simp)
      rw [show ((13 : UInt8).toNat : Int) = 13 from rfl]
      clear HV e
      go_enter Tryz.func130, Tryz.ntmps130
      go_wp2
      go_ret
      exact ⟨ret_bool HW.out.symm, rfl⟩
    · have HW := hid (show V = true from by rw [← HV.out, if_pos e]; simp [hc])
      have hb : ((c.toNat : Int) != 13) = true := c_neq (toNat_ne hc)
      clear HV e hc
      go_enter Tryz.func130, Tryz.ntmps130
      go_wp2
      go_ret
      exact ⟨ret_bool HW.out.symm, rfl⟩
  · rw [e] at h3
    have HW := hid (show V = true from by rw [← HV.out, if_neg (by omega)]; simp [e])
    clear HV e
    go_enter Tryz.func130, Tryz.ntmps130
    go_wp2
    go_ret
    exact ⟨ret_bool HW.out.symm, rfl⟩
  · rw [e] at h3
    have HW := hid (show V = true from by rw [← HV.out, if_neg (by omega)]; simp [e])
    clear HV e
    go_enter Tryz.func130, Tryz.ntmps130
    go_wp2
    go_ret
    exact ⟨ret_bool HW.out.symm, rfl⟩
  · rw [e] at h3
    have HW := hid (show V = true from by rw [← HV.out, if_neg (by omega)]; simp [e])
    clear HV e
    go_enter Tryz.func130, Tryz.ntmps130
    go_wp2
    go_ret
    exact ⟨ret_bool HW.out.symm, rfl⟩
  · have HW := hid (show V = false from by rw [← HV.out, if_neg e1]; simp [e2, e3, e4])
    have b1 : ((s.st : Int) == 6) = false := i_ne e1
    have b2 : ((s.st : Int) == 7) = false := i_ne e2
    have b3 : ((s.st : Int) == 8) = false := i_ne e3
    have b4 : ((s.st : Int) == 9) = false := i_ne e4
    clear HV e1 e2 e3 e4
    go_enter Tryz.func130, Tryz.ntmps130
    go_wp2
    go_ret
    exact ⟨ret_bool HW.out.symm, rfl⟩
theorem Rd.grown {w w' : World} {g : Nat} {s : KS} {pp : Option Addr} {n c : Nat} {t : Value} (h : Rd w g s t (.slice pp n c)) (hg : w.grownBy w' (Value.slice pp n c).ownBlock) : w'.heap[g]? = some (.cells (kdCells s t (.slice pp n c)) 128 (0, 0)) ∧ OwnF w' 0 t s.tr := by
  refine ⟨(hg.block g (lt_of_heap h.blk) (fun e => t_ne1 (own_type h.part e.symm h.blk))).trans h.blk, ?_⟩
  refine ownF_only h.trs (Only.grown (F := fun k => some k = (Value.slice pp n c).ownBlock) hg (fun k e => e.symm)) (fun k e hk => ?_)
  rcases h.trs.2 with ⟨h1, _⟩ | ⟨q, cap, cur, h1, h2, h3, _⟩
  · rw [h1] at e; simp [Value.ownBlock] at e
  · rw [h1] at e
    simp [Value.ownBlock] at e
    subst e
    exact t_ne3.symm (own_type h.part hk.symm h3)
theorem Rd.grownF {w w' : World} {g : Nat} {s : KS} {p : Value} {pp : Option Addr} {n c : Nat} (h : Rd w g s (.slice pp n c) p) (hg : w.grownBy w' (Value.slice pp n c).ownBlock) : w'.heap[g]? = some (.cells (kdCells s (.slice pp n c) p) 128 (0, 0)) ∧ Own w' 0 p s.part := by
  refine ⟨(hg.block g (lt_of_heap h.blk) (fun e => t_ne2 (ownF_type h.trs e.symm h.blk))).trans h.blk, ?_⟩
  refine own_only h.part (Only.grown (F := fun k => some k = (Value.slice pp n c).ownBlock) hg (fun k e => e.symm)) (fun k e hk => ?_)
  rcases h.part.2 with ⟨h1, _⟩ | ⟨q, cap, cur, h1, h2, h3, _⟩
  · rw [h1] at e; simp [Value.ownBlock] at e
  · rw [h1] at e
    simp [Value.ownBlock] at e
    subst e
    exact t_ne3 (ownF_type h.trs hk.symm h3)
theorem Rd.next {w w' : World} {g : Nat} {s : KS} {t p : Value} (h : Rd w g s t p) (hb : Below w.heap.size w w') : Rd w' g s t p := ⟨(hb.block g (lt_of_heap h.blk)).trans h.blk, h.trs.keep hb, h.part.keep hb⟩
set_option maxRecDepth 20000 in
set_option maxHeartbeats 8000000 in
theorem add_no (g : Nat) (c : UInt8) (next : Nat) (w : World) : Calls Tryz.prog 161 #[.pointer (some ⟨g, 0, none⟩), byteV c, .bool false, .int .i64 (next : Int)] w fun e w' => e = .returned (.int .i64 12) ∧ w' = w := by
  unfold byteV
  go_enter Tryz.func161, Tryz.ntmps161
  go_wp2
  go_ret
  exact ⟨rfl, rfl⟩
set_option maxRecDepth 20000 in
set_option maxHeartbeats 8000000 in
theorem add_yes {F : Nat → Prop} {w : World} {g : Nat} {s : KS} (h : RdAt F w g s) (c : UInt8) (next : Nat) (hlen : s.part.length ≤ 8193) : Calls Tryz.prog 161 #[.pointer (some ⟨g, 0, none⟩), byteV c, .bool true, .int .i64 (next : Int)] w fun e w' => e = .returned (.int .i64 (next : Int)) ∧ Turned F w g { s with part := s.part ++ [c] } w' := by
  unfold byteV
  obtain ⟨t, p, hr, hf⟩ := h
  obtain ⟨pp, pn, pc, rfl⟩ := own_slice3 hr.part
  have hpn : s.part.length = pn := slice_part hr.part
  have HF0 := hid hf
  have HRa := hid (hr.next (below_new w (.cells #[.int .u8 (c.toNat : Int)] 5 (0, 0))))
  have hb := hr.blk
  unfold kdCells at hb
  obtain ⟨_, _, _, _, _, _, _, _, _, k9, kz⟩ := cells10 hb
  have HPn := hid hpn
  have hln : pn ≤ 8193 := by omega
  obtain ⟨i0, hi0, hz0, hz1, hz2⟩ := info_parts infoB
  clear hr hf hb kz hpn hlen
  go_enter Tryz.func161, Tryz.ntmps161
  go_wp2_with (at_builtin; refine wpList_append_own_at _ rfl (.tmp 15) (.tmp 17) 32 rfl 0 5 i0 _ 1 1 Tryz.underlying32 hi0 hz0 hz1 hz2 rfl (by decide) (.slice pp pn pc) pn (Lib.byteCells s.part) (by go_simp) (by have h8 := HRa.out.part; unfold Own at h8; rw [HPn.out] at h8; exact h8) ⟨w.heap.size, 0, none⟩ 1 1 [.int .u8 (c.toNat : Int)] (by go_simp) rfl (cells_new w _ _) (by simp [Value.oneCell']) (by unfold maxLen; omega) (by omega) (Nat.zero_le _) ?_; intro v' w1 hown hgr _ hblk; have HG := hid hgr; have HK := hid hblk; have HO := hid (show Own w1 0 v' (s.part ++ [c]) from Own.put (acc := s.part) (bs := [c]) (by rw [HPn.out]; exact hown) rfl rfl); obtain ⟨p7, c7, rfl⟩ := own_slice hown; have HRg := hid (HRa.out.grown hgr); have hb1 := HRg.out.1; unfold kdCells at hb1; have HB1 := hid hb1; obtain ⟨_, _, _, _, _, _, _, _, _, x9, xz⟩ := cells10 hb1; have xz9 := xz 9; clear hown hgr hblk hb1 xz)
  go_ret
  have hog := Only.grown (F := F) HG.out (fun k e => HF0.out.p k e)
  have hal : Only F w (w.alloc (.cells #[.int .u8 (c.toNat : Int)] 5 (0, 0))) := Only.of_below (below_new w _)
  refine ⟨rfl, fun k => F k ∨ k = w.heap.size + 1, ⟨t, .slice p7 (pn + 1) c7, ⟨?_, HRg.out.2.at_set HB1.out, HO.out.at_set HB1.out⟩, .inl HF0.out.g, fun k e => .inl (HF0.out.t k e), fun k e => ?_⟩, (hal.trans hog (fun _ h => .inl h)).set HF0.out.g _, fun k h => ?_⟩
  · rw [set10_9 HB1.out]
    unfold kdCells
    rfl
  · rcases HK.out with e2 | e2
    · exact .inl (HF0.out.p k (by rw [← e2]; exact e))
    · right
      rw [e2] at e
      simpa using (Option.some.inj e).symm
  · rcases h with h | h
    · exact .inl h
    · right; omega
theorem add_any {F : Nat → Prop} {w : World} {g : Nat} {s : KS} (h : RdAt F w g s) (c : UInt8) (may : Bool) (next : Nat) (hlen : s.part.length ≤ 8193) : Calls Tryz.prog 161 #[.pointer (some ⟨g, 0, none⟩), byteV c, .bool may, .int .i64 (next : Int)] w (NextT F w g (addK s c may next)) := by
  cases may with
  | false =>
    refine (add_no g c next w).mono ?_
    rintro e w' ⟨rfl, rfl⟩
    exact ⟨rfl, Turned.same h⟩
  | true =>
    refine (add_yes h c next hlen).mono ?_
    rintro e w' ⟨rfl, h2⟩
    exact ⟨rfl, h2⟩
set_option maxRecDepth 20000 in
set_option maxHeartbeats 8000000 in
theorem text_any {F : Nat → Prop} {w : World} {g : Nat} {s : KS} (h : RdAt F w g s) : Calls Tryz.prog 162 #[.pointer (some ⟨g, 0, none⟩)] w fun e w' => e = .returned (.string (str s.part)) ∧ Turned F w g { s with part := [] } w' := by
  obtain ⟨t, p, hr, hf⟩ := h
  obtain ⟨pp, pn, pc, rfl⟩ := own_slice3 hr.part
  have hcv := conv_own hr.part
  have HF := hid hf
  have HR := hid hr
  have hb := hr.blk
  unfold kdCells at hb
  have HB := hid hb
  obtain ⟨_, _, _, _, _, _, _, _, _, k9, kz⟩ := cells10 hb
  have z9 := kz 9
  obtain ⟨S, hS⟩ : ∃ S, str s.part = S := ⟨_, rfl⟩
  rw [hS] at hcv ⊢
  clear hr hf hb kz hS
  go_enter Tryz.func162, Tryz.ntmps162
  go_wp2
  go_ret
  refine ⟨rfl, F, ⟨t, .slice none 0 0, ⟨?_, HR.out.trs.at_set HB.out, Own.nil _ _⟩, HF.out.g, HF.out.t, fun k e => by simp [Value.ownBlock] at e⟩, (Only.refl _ _).set HF.out.g _, fun _ h => .inl h⟩
  rw [set10_9 HB.out]
  unfold kdCells
  rfl
end Go.Proofs.YtnlmjlfoeodleaaGreatDoor
