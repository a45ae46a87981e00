/- The program's reader: a row of bytes goes on or ends. -/
import Derived.Test.YthakldcfpndabaaGreatDoorPKeep
import Derived.Maps.AppendAt
namespace Go.Proofs.YthakldcfpndabaaGreatDoor
open Go.RowKit

theorem u8_ne {c x : UInt8} (h : c ≠ x) : ((c.toNat : Int) == (x.toNat : Int)) = false := by
  rw [beq_eq_false_iff_ne]
  exact fun e => h (UInt8.toNat_inj.1 (by omega))
set_option maxRecDepth 20000 in
set_option maxHeartbeats 8000000 in
theorem row_end_any {F : Nat → Prop} {w : World} {g : Nat} {s : PS} (h : RdAt F w g s) (c : UInt8) (may : Bool) (next : Nat) (hst : s.st = 0 ∨ s.st = 1 ∨ s.st = 2 ∨ s.st = 3 ∨ s.st = 4 ∨ s.st = 5 ∨ s.st = 7 ∨ s.st = 8) (h8 : s.st = 2 ∨ s.st = 3 → s.part.length = 8) (hlen : s.part.length ≤ 70368744177664) :
    Calls Tryz.prog 79 #[.pointer (some ⟨g, 0, none⟩), byteV c, .bool may, byteV c, .bool true, .int .i64 (next : Int)] w fun e w' => e = .returned (.bool true) ∧ Turned F w g { keepP s with st := next } w' := by
  unfold byteV
  have HC := hid (keep_any h hst h8 hlen)
  have hcc : ((c.toNat : Int) == (c.toNat : Int)) = true := by simp
  clear h hst h8 hlen
  go_enter Tryz.func79, Tryz.ntmps79
  go_wp2_with (go_at_call 87; (with_reducible refine HC.out.mono ?_); rintro e w1 ⟨rfl, G, ⟨p, f, hr, hf⟩, ho, hs⟩; have HR := hid hr; have HF := hid hf; have HO := hid ho; have HSb := hid hs; have hb := hr.blk; unfold rdCells at hb; have HB := hid hb; obtain ⟨_, _, _, _, x4, _, _, _, _, _, _, _, _, _, xz⟩ := cells14 hb; have xz4 := xz 4; clear hr hf ho hs hb xz)
  go_ret
  refine ⟨rfl, Turned.trans HO.out HSb.out ⟨G, ⟨p, f, ⟨?_, HR.out.part.at_set HB.out, HR.out.flds.at_set HB.out⟩, HF.out⟩, (Only.refl _ _).set HF.out.g _, fun _ h => .inl h⟩⟩
  rw [set14_4 HB.out]
  unfold rdCells
  rfl
set_option maxRecDepth 20000 in
set_option maxHeartbeats 8000000 in
theorem row_no_any (g : Nat) (c x : UInt8) (done : Bool) (next : Nat) (w : World) (hx : ¬ (c = x ∧ done = true)) :
    Calls Tryz.prog 79 #[.pointer (some ⟨g, 0, none⟩), byteV c, .bool false, byteV x, .bool done, .int .i64 (next : Int)] w fun e w' => e = .returned (.bool false) ∧ w' = w := by
  unfold byteV
  by_cases hc : c = x
  · subst hc
    obtain rfl : done = false := by simpa using hx
    have hcc : ((c.toNat : Int) == (c.toNat : Int)) = true := by simp
    clear hx
    go_enter Tryz.func79, Tryz.ntmps79
    go_wp2
    go_ret
    exact ⟨rfl, rfl⟩
  · have hcx := u8_ne hc
    clear hx hc
    go_enter Tryz.func79, Tryz.ntmps79
    go_wp2
    go_ret
    exact ⟨rfl, rfl⟩
theorem Rd.grown {w w' : World} {g : Nat} {s : PS} {pp : Option Addr} {n c : Nat} {f : Value} (h : Rd w g s (.slice pp n c) f) (hg : w.grownBy w' (Value.slice pp n c).ownBlock) : w'.heap[g]? = some (.cells (rdCells s (.slice pp n c) f) 103 (0, 0)) ∧ OwnF w' 0 f s.fields := by
  refine ⟨(hg.block g (lt_of_heap h.blk) (fun e => t_ne1 (own_type h.part e.symm h.blk))).trans h.blk, ?_⟩
  refine ownF_only h.flds (Only.grown (F := fun k => some k = (Value.slice pp n c).ownBlock) hg (fun k e => e.symm)) (fun k e hk => ?_)
  rcases h.flds.2 with ⟨h1, _⟩ | ⟨q, cap, cur, h1, h2, h3, _⟩
  · rw [h1] at e; simp [Value.ownBlock] at e
  · rw [h1] at e
    simp [Value.ownBlock] at e
    subst e
    exact t_ne3.symm (own_type h.part hk.symm h3)
set_option maxRecDepth 20000 in
set_option maxHeartbeats 8000000 in
theorem row_on_1 {F : Nat → Prop} {w : World} {g : Nat} {s : PS} (h : RdAt F w g s) (c : UInt8) (next : Nat) (hlen : s.part.length ≤ 70368744177600) :
    Calls Tryz.prog 79 #[.pointer (some ⟨g, 0, none⟩), byteV c, .bool true, byteV c, .bool false, .int .i64 (next : Int)] w fun e w' => e = .returned (.bool true) ∧ Turned F w g { s with part := s.part ++ [c] } w' := by
  unfold byteV
  have hcc : ((c.toNat : Int) == (c.toNat : Int)) = true := by simp
  obtain ⟨p, f, hr, hf⟩ := h
  obtain ⟨pp, pn, pc, rfl⟩ := own_slice3 hr.part
  have hpn : s.part.length = pn := slice_part hr.part
  have HR0 := hid hr
  have HF0 := hid hf
  have HRa := hid (show Rd (w.alloc (.cells #[.int .u8 (c.toNat : Int)] 5 (0, 0))) g s (.slice pp pn pc) f from ⟨((below_new w _).block g (lt_of_heap hr.blk)).trans hr.blk, hr.part.alloc _, hr.flds.alloc _⟩)
  have hb := hr.blk
  unfold rdCells at hb
  obtain ⟨_, _, _, _, _, k5, _, _, _, _, _, _, _, _, kz⟩ := cells14 hb
  have HPn := hid hpn
  have hln : pn ≤ 70368744177600 := by omega
  obtain ⟨i0, hi0, hz0, hz1, hz2⟩ := info_parts infoB
  clear hr hf hb kz hpn hlen
  go_enter Tryz.func79, Tryz.ntmps79
  go_wp2_with (at_builtin; refine wpList_append_own_at _ rfl (.tmp 30) (.tmp 32) 51 rfl 0 5 i0 _ 1 1 Tryz.underlying51 hi0 hz0 hz1 hz2 rfl (by decide) (.slice pp pn pc) pn (Lib.byteCells s.part) (by go_simp) (by have h8 := HRa.out.part; unfold Own at h8; rw [HPn.out] at h8; exact h8) ⟨w.heap.size, 0, none⟩ 1 1 [.int .u8 (c.toNat : Int)] (by go_simp) rfl (cells_new w _ _) (by simp [Value.oneCell']) (by unfold maxLen; omega) (by omega) (Nat.zero_le _) ?_; intro v' w1 hown hgr _ hblk; have HG := hid hgr; have HK := hid hblk; have HO := hid (show Own w1 0 v' (s.part ++ [c]) from Own.put (acc := s.part) (bs := [c]) (by rw [HPn.out]; exact hown) rfl rfl); obtain ⟨p7, c7, rfl⟩ := own_slice hown; have HRg := hid (HRa.out.grown hgr); have hb1 := HRg.out.1; unfold rdCells at hb1; have HB1 := hid hb1; obtain ⟨_, _, _, _, _, x5, _, _, _, _, _, _, _, _, xz⟩ := cells14 hb1; have xz5 := xz 5; clear hown hgr hblk hb1 xz)
  go_ret
  have hog := Only.grown (F := F) HG.out (fun k e => HF0.out.p k e)
  have hal : Only F w (w.alloc (.cells #[.int .u8 (c.toNat : Int)] 5 (0, 0))) := Only.of_below (below_new w _)
  refine ⟨rfl, fun k => F k ∨ k = w.heap.size + 1, ⟨.slice p7 (pn + 1) c7, f, ⟨?_, HO.out.at_set HB1.out, HRg.out.2.at_set HB1.out⟩, .inl HF0.out.g, fun k e => ?_, fun k e => .inl (HF0.out.f k e)⟩, (hal.trans hog (fun _ h => .inl h)).set HF0.out.g _, fun k h => ?_⟩
  · rw [set14_5 HB1.out]
    unfold rdCells
    rfl
  · rcases HK.out with e2 | e2
    · exact .inl (HF0.out.p k (by rw [← e2]; exact e))
    · right
      rw [e2] at e
      simpa using (Option.some.inj e).symm
  · rcases h with h | h
    · exact .inl h
    · right; omega
set_option maxRecDepth 20000 in
set_option maxHeartbeats 8000000 in
theorem row_on_2 {F : Nat → Prop} {w : World} {g : Nat} {s : PS} (h : RdAt F w g s) (c x : UInt8) (done : Bool) (next : Nat) (hx : c ≠ x) (hlen : s.part.length ≤ 70368744177600) :
    Calls Tryz.prog 79 #[.pointer (some ⟨g, 0, none⟩), byteV c, .bool true, byteV x, .bool done, .int .i64 (next : Int)] w fun e w' => e = .returned (.bool true) ∧ Turned F w g { s with part := s.part ++ [c] } w' := by
  unfold byteV
  have hcc := u8_ne hx
  clear hx
  obtain ⟨p, f, hr, hf⟩ := h
  obtain ⟨pp, pn, pc, rfl⟩ := own_slice3 hr.part
  have hpn : s.part.length = pn := slice_part hr.part
  have HR0 := hid hr
  have HF0 := hid hf
  have HRa := hid (show Rd (w.alloc (.cells #[.int .u8 (c.toNat : Int)] 5 (0, 0))) g s (.slice pp pn pc) f from ⟨((below_new w _).block g (lt_of_heap hr.blk)).trans hr.blk, hr.part.alloc _, hr.flds.alloc _⟩)
  have hb := hr.blk
  unfold rdCells at hb
  obtain ⟨_, _, _, _, _, k5, _, _, _, _, _, _, _, _, kz⟩ := cells14 hb
  have HPn := hid hpn
  have hln : pn ≤ 70368744177600 := by omega
  obtain ⟨i0, hi0, hz0, hz1, hz2⟩ := info_parts infoB
  clear hr hf hb kz hpn hlen
  go_enter Tryz.func79, Tryz.ntmps79
  go_wp2_with (at_builtin; refine wpList_append_own_at _ rfl (.tmp 30) (.tmp 32) 51 rfl 0 5 i0 _ 1 1 Tryz.underlying51 hi0 hz0 hz1 hz2 rfl (by decide) (.slice pp pn pc) pn (Lib.byteCells s.part) (by go_simp) (by have h8 := HRa.out.part; unfold Own at h8; rw [HPn.out] at h8; exact h8) ⟨w.heap.size, 0, none⟩ 1 1 [.int .u8 (c.toNat : Int)] (by go_simp) rfl (cells_new w _ _) (by simp [Value.oneCell']) (by unfold maxLen; omega) (by omega) (Nat.zero_le _) ?_; intro v' w1 hown hgr _ hblk; have HG := hid hgr; have HK := hid hblk; have HO := hid (show Own w1 0 v' (s.part ++ [c]) from Own.put (acc := s.part) (bs := [c]) (by rw [HPn.out]; exact hown) rfl rfl); obtain ⟨p7, c7, rfl⟩ := own_slice hown; have HRg := hid (HRa.out.grown hgr); have hb1 := HRg.out.1; unfold rdCells at hb1; have HB1 := hid hb1; obtain ⟨_, _, _, _, _, x5, _, _, _, _, _, _, _, _, xz⟩ := cells14 hb1; have xz5 := xz 5; clear hown hgr hblk hb1 xz)
  go_ret
  have hog := Only.grown (F := F) HG.out (fun k e => HF0.out.p k e)
  have hal : Only F w (w.alloc (.cells #[.int .u8 (c.toNat : Int)] 5 (0, 0))) := Only.of_below (below_new w _)
  refine ⟨rfl, fun k => F k ∨ k = w.heap.size + 1, ⟨.slice p7 (pn + 1) c7, f, ⟨?_, HO.out.at_set HB1.out, HRg.out.2.at_set HB1.out⟩, .inl HF0.out.g, fun k e => ?_, fun k e => .inl (HF0.out.f k e)⟩, (hal.trans hog (fun _ h => .inl h)).set HF0.out.g _, fun k h => ?_⟩
  · rw [set14_5 HB1.out]
    unfold rdCells
    rfl
  · rcases HK.out with e2 | e2
    · exact .inl (HF0.out.p k (by rw [← e2]; exact e))
    · right
      rw [e2] at e
      simpa using (Option.some.inj e).symm
  · rcases h with h | h
    · exact .inl h
    · right; omega
/-- A step that is made, or none. -/
def Stepped (F : Nat → Prop) (w : World) (g : Nat) (o : Option PS) (e : Ending) (w' : World) : Prop := (∃ s', o = some s' ∧ e = .returned (.bool true) ∧ Turned F w g s' w') ∨ (o = none ∧ e = .returned (.bool false) ∧ w' = w)
theorem row_any {F : Nat → Prop} {w : World} {g : Nat} {s : PS} (h : RdAt F w g s) (c x : UInt8) (may done : Bool) (next : Nat) (hst : s.st = 0 ∨ s.st = 1 ∨ s.st = 2 ∨ s.st = 3 ∨ s.st = 4 ∨ s.st = 5 ∨ s.st = 7 ∨ s.st = 8) (h8 : done = true → s.st = 2 ∨ s.st = 3 → s.part.length = 8) (hlen : s.part.length ≤ 70368744177600) :
    Calls Tryz.prog 79 #[.pointer (some ⟨g, 0, none⟩), byteV c, .bool may, byteV x, .bool done, .int .i64 (next : Int)] w (Stepped F w g (rowP s c may x done next)) := by
  by_cases hx : c = x ∧ done = true
  · obtain ⟨rfl, rfl⟩ := hx
    refine (row_end_any h c may next hst (h8 rfl) (by omega)).mono ?_
    rintro e w' ⟨h1, h2⟩
    exact .inl ⟨_, row_end rfl rfl, h1, h2⟩
  · cases may with
    | false =>
      refine (row_no_any g c x done next w hx).mono ?_
      rintro e w' ⟨h1, h2⟩
      exact .inr ⟨row_no hx rfl, h1, h2⟩
    | true =>
      by_cases hc : c = x
      · subst hc
        obtain rfl : done = false := by simpa using hx
        refine (row_on_1 h c next hlen).mono ?_
        rintro e w' ⟨h1, h2⟩
        exact .inl ⟨_, row_on hx rfl, h1, h2⟩
      · refine (row_on_2 h c x done next hc hlen).mono ?_
        rintro e w' ⟨h1, h2⟩
        exact .inl ⟨_, row_on hx rfl, h1, h2⟩
end Go.Proofs.YthakldcfpndabaaGreatDoor
