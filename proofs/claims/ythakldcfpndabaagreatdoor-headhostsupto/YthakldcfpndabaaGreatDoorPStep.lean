/- The program's reader: a step. -/
import Derived.Test.YthakldcfpndabaaGreatDoorPEnd
namespace Go.Proofs.YthakldcfpndabaaGreatDoor
open Go.RowKit

/-- What a step has done: made, or not. -/
def StepQ (F : Nat → Prop) (w : World) (g : Nat) (o : Option PS) (b : Bool) (w' : World) : Prop := (∃ s', o = some s' ∧ b = true ∧ Turned F w g s' w') ∨ (o = none ∧ b = false ∧ w' = w)
def StepB (F : Nat → Prop) (w : World) (g : Nat) (o : Option PS) (e : Ending) (w' : World) : Prop := ∃ b, e = .returned (.bool b) ∧ StepQ F w g o b w'
theorem stepB_of {F : Nat → Prop} {w w' : World} {g : Nat} {o : Option PS} {e : Ending} (h : Stepped F w g o e w') : StepB F w g o e w' := by
  rcases h with ⟨s', h1, h2, h3⟩ | ⟨h1, h2, h3⟩
  · exact ⟨true, h2, .inl ⟨s', h1, rfl, h3⟩⟩
  · exact ⟨false, h2, .inr ⟨h1, rfl, h3⟩⟩
theorem rowB_any {F : Nat → Prop} {w : World} {g : Nat} {s : PS} (h : RdAt F w g s) (c x : UInt8) (may done : Bool) (next : Nat) (hst : s.st = 0 ∨ s.st = 1 ∨ s.st = 2 ∨ s.st = 3 ∨ s.st = 4 ∨ s.st = 5 ∨ s.st = 7 ∨ s.st = 8) (h8 : done = true → s.st = 2 ∨ s.st = 3 → s.part.length = 8) (hlen : s.part.length ≤ 70368744177600) :
    Calls Tryz.prog 79 #[.pointer (some ⟨g, 0, none⟩), byteV c, .bool may, byteV x, .bool done, .int .i64 (next : Int)] w (StepB F w g (rowP s c may x done next)) := (row_any h c x may done next hst h8 hlen).mono (fun _ _ => stepB_of)
theorem endB_any {F : Nat → Prop} {w : World} {g : Nat} {s : PS} (h : RdAt F w g s) (c : UInt8) (next : Nat) (hfl : s.fields.length ≤ 65) :
    Calls Tryz.prog 85 #[.pointer (some ⟨g, 0, none⟩), byteV c, .int .i64 (next : Int)] w (StepB F w g (endP s c next)) := (lineEnd_any h c next hfl).mono (fun _ _ => stepB_of)
set_option maxRecDepth 20000 in
set_option maxHeartbeats 8000000 in
theorem step_0a_any {F : Nat → Prop} {w : World} {g : Nat} {s : PS} (h : RdAt F w g s) (c : UInt8) (hst : s.st = 0) (hd : s.part.length = 0) (hlen : s.part.length ≤ 70368744177600) :
    Calls Tryz.prog 74 #[.pointer (some ⟨g, 0, none⟩), byteV c] w (StepB F w g (stepP s c)) := by
  have hcl := c.toNat_lt
  obtain ⟨p, f, hr, hf⟩ := h
  obtain ⟨pp, pn, pc, rfl⟩ := own_slice3 hr.part
  have hpn : s.part.length = pn := slice_part hr.part
  have hb := hr.blk
  unfold rdCells at hb
  rw [hst] at hb
  obtain ⟨_, _, _, _, x4, x5, _, _, _, _, _, _, _, _, xz⟩ := cells14 hb
  have h : RdAt F w g s := ⟨_, _, hr, hf⟩
  have hV : stepP s c = rowP s c (clsB 0 c) 32 false 1 := by rw [step_0 c hst]; rw [decide_eq_false (by omega)]
  have HC := hid (rowB_any h c 32 (clsB 0 c) false 1 (by omega) (fun _ h => absurd h (by omega)) hlen)
  rw [← hV] at HC
  obtain ⟨m, hm⟩ : ∃ m, clsB 0 c = m := ⟨_, rfl⟩
  have HM := hid (show ∀ w : World, _ from fun w => token_any (c.toNat : Int) w (by omega) (by omega))
  rw [hm] at HC
  have hm2 : tokB (c.toNat : Int) = m := hm
  rw [hm2] at HM
  unfold byteV at HC ⊢
  rw [show ((32 : UInt8).toNat : Int) = 32 from rfl, show ((1 : Nat) : Int) = 1 from rfl] at HC
  obtain rfl : pn = 0 := by omega
  clear hr hf hb xz hV hm hm2 hpn hlen hst h hcl hd
  go_enter Tryz.func74, Tryz.ntmps74
  go_wp2_with (first | (go_at_call 80; (with_reducible refine (HM.out _).mono ?_); rintro e w1 ⟨rfl, hw1⟩; subst w1) | (go_at_call 79; (with_reducible refine HC.out.mono ?_); rintro e w2 ⟨b2, rfl, hq⟩; have HQ := hid hq; clear hq))
  go_ret
  exact ⟨b2, rfl, HQ.out⟩
set_option maxRecDepth 20000 in
set_option maxHeartbeats 8000000 in
theorem step_0b_any {F : Nat → Prop} {w : World} {g : Nat} {s : PS} (h : RdAt F w g s) (c : UInt8) (hst : s.st = 0) (hd : 0 < s.part.length) (hlen : s.part.length ≤ 70368744177600) :
    Calls Tryz.prog 74 #[.pointer (some ⟨g, 0, none⟩), byteV c] w (StepB F w g (stepP s c)) := by
  have hcl := c.toNat_lt
  obtain ⟨p, f, hr, hf⟩ := h
  obtain ⟨pp, pn, pc, rfl⟩ := own_slice3 hr.part
  have hpn : s.part.length = pn := slice_part hr.part
  have hb := hr.blk
  unfold rdCells at hb
  rw [hst] at hb
  obtain ⟨_, _, _, _, x4, x5, _, _, _, _, _, _, _, _, xz⟩ := cells14 hb
  have h : RdAt F w g s := ⟨_, _, hr, hf⟩
  have hV : stepP s c = rowP s c (clsB 0 c) 32 true 1 := by rw [step_0 c hst]; rw [decide_eq_true (by omega)]
  have HC := hid (rowB_any h c 32 (clsB 0 c) true 1 (by omega) (fun _ h => absurd h (by omega)) hlen)
  rw [← hV] at HC
  obtain ⟨m, hm⟩ : ∃ m, clsB 0 c = m := ⟨_, rfl⟩
  have HM := hid (show ∀ w : World, _ from fun w => token_any (c.toNat : Int) w (by omega) (by omega))
  rw [hm] at HC
  have hm2 : tokB (c.toNat : Int) = m := hm
  rw [hm2] at HM
  unfold byteV at HC ⊢
  rw [show ((32 : UInt8).toNat : Int) = 32 from rfl, show ((1 : Nat) : Int) = 1 from rfl] at HC
  have hd3 : 0 < pn := by omega
  clear hr hf hb xz hV hm hm2 hpn hlen hst h hcl hd
  go_enter Tryz.func74, Tryz.ntmps74
  go_wp2_with (first | (go_at_call 80; (with_reducible refine (HM.out _).mono ?_); rintro e w1 ⟨rfl, hw1⟩; subst w1) | (go_at_call 79; (with_reducible refine HC.out.mono ?_); rintro e w2 ⟨b2, rfl, hq⟩; have HQ := hid hq; clear hq))
  go_ret
  exact ⟨b2, rfl, HQ.out⟩
set_option maxRecDepth 20000 in
set_option maxHeartbeats 8000000 in
theorem step_1a_any {F : Nat → Prop} {w : World} {g : Nat} {s : PS} (h : RdAt F w g s) (c : UInt8) (hst : s.st = 1) (hd : s.part.length = 0) (hlen : s.part.length ≤ 70368744177600) :
    Calls Tryz.prog 74 #[.pointer (some ⟨g, 0, none⟩), byteV c] w (StepB F w g (stepP s c)) := by
  have hcl := c.toNat_lt
  obtain ⟨p, f, hr, hf⟩ := h
  obtain ⟨pp, pn, pc, rfl⟩ := own_slice3 hr.part
  have hpn : s.part.length = pn := slice_part hr.part
  have hb := hr.blk
  unfold rdCells at hb
  rw [hst] at hb
  obtain ⟨_, _, _, _, x4, x5, _, _, _, _, _, _, _, _, xz⟩ := cells14 hb
  have h : RdAt F w g s := ⟨_, _, hr, hf⟩
  have hV : stepP s c = rowP s c (clsB 1 c) 32 false 2 := by rw [step_1 c hst]; rw [decide_eq_false (by omega)]
  have HC := hid (rowB_any h c 32 (clsB 1 c) false 2 (by omega) (fun _ h => absurd h (by omega)) hlen)
  rw [← hV] at HC
  obtain ⟨m, hm⟩ : ∃ m, clsB 1 c = m := ⟨_, rfl⟩
  have HM := hid (show ∀ w : World, _ from fun w => visible_any (c.toNat : Int) w (by omega) (by omega))
  rw [hm] at HC
  have hm2 : visB (c.toNat : Int) = m := hm
  rw [hm2] at HM
  unfold byteV at HC ⊢
  rw [show ((32 : UInt8).toNat : Int) = 32 from rfl, show ((2 : Nat) : Int) = 2 from rfl] at HC
  obtain rfl : pn = 0 := by omega
  clear hr hf hb xz hV hm hm2 hpn hlen hst h hcl hd
  go_enter Tryz.func74, Tryz.ntmps74
  go_wp2_with (first | (go_at_call 81; (with_reducible refine (HM.out _).mono ?_); rintro e w1 ⟨rfl, hw1⟩; subst w1) | (go_at_call 79; (with_reducible refine HC.out.mono ?_); rintro e w2 ⟨b2, rfl, hq⟩; have HQ := hid hq; clear hq))
  go_ret
  exact ⟨b2, rfl, HQ.out⟩
set_option maxRecDepth 20000 in
set_option maxHeartbeats 8000000 in
theorem step_1b_any {F : Nat → Prop} {w : World} {g : Nat} {s : PS} (h : RdAt F w g s) (c : UInt8) (hst : s.st = 1) (hd : 0 < s.part.length) (hlen : s.part.length ≤ 70368744177600) :
    Calls Tryz.prog 74 #[.pointer (some ⟨g, 0, none⟩), byteV c] w (StepB F w g (stepP s c)) := by
  have hcl := c.toNat_lt
  obtain ⟨p, f, hr, hf⟩ := h
  obtain ⟨pp, pn, pc, rfl⟩ := own_slice3 hr.part
  have hpn : s.part.length = pn := slice_part hr.part
  have hb := hr.blk
  unfold rdCells at hb
  rw [hst] at hb
  obtain ⟨_, _, _, _, x4, x5, _, _, _, _, _, _, _, _, xz⟩ := cells14 hb
  have h : RdAt F w g s := ⟨_, _, hr, hf⟩
  have hV : stepP s c = rowP s c (clsB 1 c) 32 true 2 := by rw [step_1 c hst]; rw [decide_eq_true (by omega)]
  have HC := hid (rowB_any h c 32 (clsB 1 c) true 2 (by omega) (fun _ h => absurd h (by omega)) hlen)
  rw [← hV] at HC
  obtain ⟨m, hm⟩ : ∃ m, clsB 1 c = m := ⟨_, rfl⟩
  have HM := hid (show ∀ w : World, _ from fun w => visible_any (c.toNat : Int) w (by omega) (by omega))
  rw [hm] at HC
  have hm2 : visB (c.toNat : Int) = m := hm
  rw [hm2] at HM
  unfold byteV at HC ⊢
  rw [show ((32 : UInt8).toNat : Int) = 32 from rfl, show ((2 : Nat) : Int) = 2 from rfl] at HC
  have hd3 : 0 < pn := by omega
  clear hr hf hb xz hV hm hm2 hpn hlen hst h hcl hd
  go_enter Tryz.func74, Tryz.ntmps74
  go_wp2_with (first | (go_at_call 81; (with_reducible refine (HM.out _).mono ?_); rintro e w1 ⟨rfl, hw1⟩; subst w1) | (go_at_call 79; (with_reducible refine HC.out.mono ?_); rintro e w2 ⟨b2, rfl, hq⟩; have HQ := hid hq; clear hq))
  go_ret
  exact ⟨b2, rfl, HQ.out⟩
set_option maxRecDepth 20000 in
set_option maxHeartbeats 8000000 in
theorem step_2a_any {F : Nat → Prop} {w : World} {g : Nat} {s : PS} (h : RdAt F w g s) (c : UInt8) (hst : s.st = 2) (hd : s.part.length = 8) (hlen : s.part.length ≤ 70368744177600) :
    Calls Tryz.prog 74 #[.pointer (some ⟨g, 0, none⟩), byteV c] w (StepB F w g (stepP s c)) := by
  have hcl := c.toNat_lt
  obtain ⟨p, f, hr, hf⟩ := h
  obtain ⟨pp, pn, pc, rfl⟩ := own_slice3 hr.part
  have hpn : s.part.length = pn := slice_part hr.part
  have hb := hr.blk
  unfold rdCells at hb
  rw [hst] at hb
  obtain ⟨_, _, _, _, x4, x5, _, _, _, _, _, _, _, _, xz⟩ := cells14 hb
  have h : RdAt F w g s := ⟨_, _, hr, hf⟩
  have hV : stepP s c = rowP s c (verAt s.part.length c) 13 true 6 := by rw [step_2 c hst]; rw [decide_eq_true (by omega)]
  have HC := hid (rowB_any h c 13 (verAt s.part.length c) true 6 (by omega) (fun _ _ => hd) hlen)
  rw [← hV] at HC
  obtain ⟨m, hm⟩ : ∃ m, verAt s.part.length c = m := ⟨_, rfl⟩
  have HM := hid (show ∀ w : World, _ from fun w => version_any s.part.length c (by omega) w)
  rw [hm] at HC
  have hm2 : verAt s.part.length c = m := hm
  rw [hm2] at HM
  unfold byteV at HC ⊢
  rw [show ((13 : UInt8).toNat : Int) = 13 from rfl, show ((6 : Nat) : Int) = 6 from rfl] at HC
  rw [hpn] at HM
  unfold byteV at HM
  obtain rfl : pn = 8 := by omega
  rw [show ((8 : Nat) : Int) = 8 from rfl] at HM
  clear hr hf hb xz hV hm hm2 hpn hlen hst h hcl hd
  go_enter Tryz.func74, Tryz.ntmps74
  go_wp2_with (first | (go_at_call 82; (with_reducible refine (HM.out _).mono ?_); rintro e w1 ⟨rfl, hw1⟩; subst w1) | (go_at_call 79; (with_reducible refine HC.out.mono ?_); rintro e w2 ⟨b2, rfl, hq⟩; have HQ := hid hq; clear hq))
  go_ret
  exact ⟨b2, rfl, HQ.out⟩
set_option maxRecDepth 20000 in
set_option maxHeartbeats 8000000 in
theorem step_2b_any {F : Nat → Prop} {w : World} {g : Nat} {s : PS} (h : RdAt F w g s) (c : UInt8) (hst : s.st = 2) (hd : s.part.length ≠ 8) (hlen : s.part.length ≤ 70368744177600) :
    Calls Tryz.prog 74 #[.pointer (some ⟨g, 0, none⟩), byteV c] w (StepB F w g (stepP s c)) := by
  have hcl := c.toNat_lt
  obtain ⟨p, f, hr, hf⟩ := h
  obtain ⟨pp, pn, pc, rfl⟩ := own_slice3 hr.part
  have hpn : s.part.length = pn := slice_part hr.part
  have hb := hr.blk
  unfold rdCells at hb
  rw [hst] at hb
  obtain ⟨_, _, _, _, x4, x5, _, _, _, _, _, _, _, _, xz⟩ := cells14 hb
  have h : RdAt F w g s := ⟨_, _, hr, hf⟩
  have hV : stepP s c = rowP s c (verAt s.part.length c) 13 false 6 := by rw [step_2 c hst]; rw [decide_eq_false (by omega)]
  have HC := hid (rowB_any h c 13 (verAt s.part.length c) false 6 (by omega) (fun h => by cases h) hlen)
  rw [← hV] at HC
  obtain ⟨m, hm⟩ : ∃ m, verAt s.part.length c = m := ⟨_, rfl⟩
  have HM := hid (show ∀ w : World, _ from fun w => version_any s.part.length c (by omega) w)
  rw [hm] at HC
  have hm2 : verAt s.part.length c = m := hm
  rw [hm2] at HM
  unfold byteV at HC ⊢
  rw [show ((13 : UInt8).toNat : Int) = 13 from rfl, show ((6 : Nat) : Int) = 6 from rfl] at HC
  rw [hpn] at HM
  unfold byteV at HM
  have hd2 : ((pn : Int) == 8) = false := by rw [beq_eq_false_iff_ne]; omega
  clear hr hf hb xz hV hm hm2 hpn hlen hst h hcl hd
  go_enter Tryz.func74, Tryz.ntmps74
  go_wp2_with (first | (go_at_call 82; (with_reducible refine (HM.out _).mono ?_); rintro e w1 ⟨rfl, hw1⟩; subst w1) | (go_at_call 79; (with_reducible refine HC.out.mono ?_); rintro e w2 ⟨b2, rfl, hq⟩; have HQ := hid hq; clear hq))
  go_ret
  exact ⟨b2, rfl, HQ.out⟩
set_option maxRecDepth 20000 in
set_option maxHeartbeats 8000000 in
theorem step_3a_any {F : Nat → Prop} {w : World} {g : Nat} {s : PS} (h : RdAt F w g s) (c : UInt8) (hst : s.st = 3) (hd : s.part.length = 8) (hlen : s.part.length ≤ 70368744177600) :
    Calls Tryz.prog 74 #[.pointer (some ⟨g, 0, none⟩), byteV c] w (StepB F w g (stepP s c)) := by
  have hcl := c.toNat_lt
  obtain ⟨p, f, hr, hf⟩ := h
  obtain ⟨pp, pn, pc, rfl⟩ := own_slice3 hr.part
  have hpn : s.part.length = pn := slice_part hr.part
  have hb := hr.blk
  unfold rdCells at hb
  rw [hst] at hb
  obtain ⟨_, _, _, _, x4, x5, _, _, _, _, _, _, _, _, xz⟩ := cells14 hb
  have h : RdAt F w g s := ⟨_, _, hr, hf⟩
  have hV : stepP s c = rowP s c (verAt s.part.length c) 32 true 4 := by rw [step_3 c hst]; rw [decide_eq_true (by omega)]
  have HC := hid (rowB_any h c 32 (verAt s.part.length c) true 4 (by omega) (fun _ _ => hd) hlen)
  rw [← hV] at HC
  obtain ⟨m, hm⟩ : ∃ m, verAt s.part.length c = m := ⟨_, rfl⟩
  have HM := hid (show ∀ w : World, _ from fun w => version_any s.part.length c (by omega) w)
  rw [hm] at HC
  have hm2 : verAt s.part.length c = m := hm
  rw [hm2] at HM
  unfold byteV at HC ⊢
  rw [show ((32 : UInt8).toNat : Int) = 32 from rfl, show ((4 : Nat) : Int) = 4 from rfl] at HC
  rw [hpn] at HM
  unfold byteV at HM
  obtain rfl : pn = 8 := by omega
  rw [show ((8 : Nat) : Int) = 8 from rfl] at HM
  clear hr hf hb xz hV hm hm2 hpn hlen hst h hcl hd
  go_enter Tryz.func74, Tryz.ntmps74
  go_wp2_with (first | (go_at_call 82; (with_reducible refine (HM.out _).mono ?_); rintro e w1 ⟨rfl, hw1⟩; subst w1) | (go_at_call 79; (with_reducible refine HC.out.mono ?_); rintro e w2 ⟨b2, rfl, hq⟩; have HQ := hid hq; clear hq))
  go_ret
  exact ⟨b2, rfl, HQ.out⟩
set_option maxRecDepth 20000 in
set_option maxHeartbeats 8000000 in
theorem step_3b_any {F : Nat → Prop} {w : World} {g : Nat} {s : PS} (h : RdAt F w g s) (c : UInt8) (hst : s.st = 3) (hd : s.part.length ≠ 8) (hlen : s.part.length ≤ 70368744177600) :
    Calls Tryz.prog 74 #[.pointer (some ⟨g, 0, none⟩), byteV c] w (StepB F w g (stepP s c)) := by
  have hcl := c.toNat_lt
  obtain ⟨p, f, hr, hf⟩ := h
  obtain ⟨pp, pn, pc, rfl⟩ := own_slice3 hr.part
  have hpn : s.part.length = pn := slice_part hr.part
  have hb := hr.blk
  unfold rdCells at hb
  rw [hst] at hb
  obtain ⟨_, _, _, _, x4, x5, _, _, _, _, _, _, _, _, xz⟩ := cells14 hb
  have h : RdAt F w g s := ⟨_, _, hr, hf⟩
  have hV : stepP s c = rowP s c (verAt s.part.length c) 32 false 4 := by rw [step_3 c hst]; rw [decide_eq_false (by omega)]
  have HC := hid (rowB_any h c 32 (verAt s.part.length c) false 4 (by omega) (fun h => by cases h) hlen)
  rw [← hV] at HC
  obtain ⟨m, hm⟩ : ∃ m, verAt s.part.length c = m := ⟨_, rfl⟩
  have HM := hid (show ∀ w : World, _ from fun w => version_any s.part.length c (by omega) w)
  rw [hm] at HC
  have hm2 : verAt s.part.length c = m := hm
  rw [hm2] at HM
  unfold byteV at HC ⊢
  rw [show ((32 : UInt8).toNat : Int) = 32 from rfl, show ((4 : Nat) : Int) = 4 from rfl] at HC
  rw [hpn] at HM
  unfold byteV at HM
  have hd2 : ((pn : Int) == 8) = false := by rw [beq_eq_false_iff_ne]; omega
  clear hr hf hb xz hV hm hm2 hpn hlen hst h hcl hd
  go_enter Tryz.func74, Tryz.ntmps74
  go_wp2_with (first | (go_at_call 82; (with_reducible refine (HM.out _).mono ?_); rintro e w1 ⟨rfl, hw1⟩; subst w1) | (go_at_call 79; (with_reducible refine HC.out.mono ?_); rintro e w2 ⟨b2, rfl, hq⟩; have HQ := hid hq; clear hq))
  go_ret
  exact ⟨b2, rfl, HQ.out⟩
set_option maxRecDepth 20000 in
set_option maxHeartbeats 8000000 in
theorem step_4a_any {F : Nat → Prop} {w : World} {g : Nat} {s : PS} (h : RdAt F w g s) (c : UInt8) (hst : s.st = 4) (hd : s.part.length = 3) (hlen : s.part.length ≤ 70368744177600) :
    Calls Tryz.prog 74 #[.pointer (some ⟨g, 0, none⟩), byteV c] w (StepB F w g (stepP s c)) := by
  have hcl := c.toNat_lt
  obtain ⟨p, f, hr, hf⟩ := h
  obtain ⟨pp, pn, pc, rfl⟩ := own_slice3 hr.part
  have hpn : s.part.length = pn := slice_part hr.part
  have hb := hr.blk
  unfold rdCells at hb
  rw [hst] at hb
  obtain ⟨_, _, _, _, x4, x5, _, _, _, _, _, _, _, _, xz⟩ := cells14 hb
  have h : RdAt F w g s := ⟨_, _, hr, hf⟩
  have hV : stepP s c = rowP s c (staAt s.part.length c) 32 true 5 := by rw [step_4 c hst]; rw [decide_eq_true (by omega)]
  have HC := hid (rowB_any h c 32 (staAt s.part.length c) true 5 (by omega) (fun _ h => absurd h (by omega)) hlen)
  rw [← hV] at HC
  obtain ⟨m, hm⟩ : ∃ m, staAt s.part.length c = m := ⟨_, rfl⟩
  have HM := hid (show ∀ w : World, _ from fun w => statusb_any s.part.length c (by omega) w)
  rw [hm] at HC
  have hm2 : staAt s.part.length c = m := hm
  rw [hm2] at HM
  unfold byteV at HC ⊢
  rw [show ((32 : UInt8).toNat : Int) = 32 from rfl, show ((5 : Nat) : Int) = 5 from rfl] at HC
  rw [hpn] at HM
  unfold byteV at HM
  obtain rfl : pn = 3 := by omega
  rw [show ((3 : Nat) : Int) = 3 from rfl] at HM
  clear hr hf hb xz hV hm hm2 hpn hlen hst h hcl hd
  go_enter Tryz.func74, Tryz.ntmps74
  go_wp2_with (first | (go_at_call 83; (with_reducible refine (HM.out _).mono ?_); rintro e w1 ⟨rfl, hw1⟩; subst w1) | (go_at_call 79; (with_reducible refine HC.out.mono ?_); rintro e w2 ⟨b2, rfl, hq⟩; have HQ := hid hq; clear hq))
  go_ret
  exact ⟨b2, rfl, HQ.out⟩
set_option maxRecDepth 20000 in
set_option maxHeartbeats 8000000 in
theorem step_4b_any {F : Nat → Prop} {w : World} {g : Nat} {s : PS} (h : RdAt F w g s) (c : UInt8) (hst : s.st = 4) (hd : s.part.length ≠ 3) (hlen : s.part.length ≤ 70368744177600) :
    Calls Tryz.prog 74 #[.pointer (some ⟨g, 0, none⟩), byteV c] w (StepB F w g (stepP s c)) := by
  have hcl := c.toNat_lt
  obtain ⟨p, f, hr, hf⟩ := h
  obtain ⟨pp, pn, pc, rfl⟩ := own_slice3 hr.part
  have hpn : s.part.length = pn := slice_part hr.part
  have hb := hr.blk
  unfold rdCells at hb
  rw [hst] at hb
  obtain ⟨_, _, _, _, x4, x5, _, _, _, _, _, _, _, _, xz⟩ := cells14 hb
  have h : RdAt F w g s := ⟨_, _, hr, hf⟩
  have hV : stepP s c = rowP s c (staAt s.part.length c) 32 false 5 := by rw [step_4 c hst]; rw [decide_eq_false (by omega)]
  have HC := hid (rowB_any h c 32 (staAt s.part.length c) false 5 (by omega) (fun _ h => absurd h (by omega)) hlen)
  rw [← hV] at HC
  obtain ⟨m, hm⟩ : ∃ m, staAt s.part.length c = m := ⟨_, rfl⟩
  have HM := hid (show ∀ w : World, _ from fun w => statusb_any s.part.length c (by omega) w)
  rw [hm] at HC
  have hm2 : staAt s.part.length c = m := hm
  rw [hm2] at HM
  unfold byteV at HC ⊢
  rw [show ((32 : UInt8).toNat : Int) = 32 from rfl, show ((5 : Nat) : Int) = 5 from rfl] at HC
  rw [hpn] at HM
  unfold byteV at HM
  have hd2 : ((pn : Int) == 3) = false := by rw [beq_eq_false_iff_ne]; omega
  clear hr hf hb xz hV hm hm2 hpn hlen hst h hcl hd
  go_enter Tryz.func74, Tryz.ntmps74
  go_wp2_with (first | (go_at_call 83; (with_reducible refine (HM.out _).mono ?_); rintro e w1 ⟨rfl, hw1⟩; subst w1) | (go_at_call 79; (with_reducible refine HC.out.mono ?_); rintro e w2 ⟨b2, rfl, hq⟩; have HQ := hid hq; clear hq))
  go_ret
  exact ⟨b2, rfl, HQ.out⟩
set_option maxRecDepth 20000 in
set_option maxHeartbeats 8000000 in
theorem step_5_any {F : Nat → Prop} {w : World} {g : Nat} {s : PS} (h : RdAt F w g s) (c : UInt8) (hst : s.st = 5) (hlen : s.part.length ≤ 70368744177600) :
    Calls Tryz.prog 74 #[.pointer (some ⟨g, 0, none⟩), byteV c] w (StepB F w g (stepP s c)) := by
  have hcl := c.toNat_lt
  obtain ⟨p, f, hr, hf⟩ := h
  obtain ⟨pp, pn, pc, rfl⟩ := own_slice3 hr.part
  have hpn : s.part.length = pn := slice_part hr.part
  have hb := hr.blk
  unfold rdCells at hb
  rw [hst] at hb
  obtain ⟨_, _, _, _, x4, x5, _, _, _, _, _, _, _, _, xz⟩ := cells14 hb
  have h : RdAt F w g s := ⟨_, _, hr, hf⟩
  have hV : stepP s c = rowP s c (clsB 2 c) 13 true 6 := by rw [step_5 c hst]
  have HC := hid (rowB_any h c 13 (clsB 2 c) true 6 (by omega) (fun _ h => absurd h (by omega)) hlen)
  rw [← hV] at HC
  obtain ⟨m, hm⟩ : ∃ m, clsB 2 c = m := ⟨_, rfl⟩
  have HM := hid (show ∀ w : World, _ from fun w => value_any (c.toNat : Int) w (by omega) (by omega))
  rw [hm] at HC
  have hm2 : valB (c.toNat : Int) = m := hm
  rw [hm2] at HM
  unfold byteV at HC ⊢
  rw [show ((13 : UInt8).toNat : Int) = 13 from rfl, show ((6 : Nat) : Int) = 6 from rfl] at HC
  clear hr hf hb xz hV hm hm2 hpn hlen hst h hcl
  go_enter Tryz.func74, Tryz.ntmps74
  go_wp2_with (first | (go_at_call 84; (with_reducible refine (HM.out _).mono ?_); rintro e w1 ⟨rfl, hw1⟩; subst w1) | (go_at_call 79; (with_reducible refine HC.out.mono ?_); rintro e w2 ⟨b2, rfl, hq⟩; have HQ := hid hq; clear hq))
  go_ret
  exact ⟨b2, rfl, HQ.out⟩
set_option maxRecDepth 20000 in
set_option maxHeartbeats 8000000 in
theorem step_8_any {F : Nat → Prop} {w : World} {g : Nat} {s : PS} (h : RdAt F w g s) (c : UInt8) (hst : s.st = 8) (hlen : s.part.length ≤ 70368744177600) :
    Calls Tryz.prog 74 #[.pointer (some ⟨g, 0, none⟩), byteV c] w (StepB F w g (stepP s c)) := by
  have hcl := c.toNat_lt
  obtain ⟨p, f, hr, hf⟩ := h
  obtain ⟨pp, pn, pc, rfl⟩ := own_slice3 hr.part
  have hpn : s.part.length = pn := slice_part hr.part
  have hb := hr.blk
  unfold rdCells at hb
  rw [hst] at hb
  obtain ⟨_, _, _, _, x4, x5, _, _, _, _, _, _, _, _, xz⟩ := cells14 hb
  have h : RdAt F w g s := ⟨_, _, hr, hf⟩
  have hV : stepP s c = rowP s c (clsB 2 c) 13 true 9 := by rw [step_8 c hst]
  have HC := hid (rowB_any h c 13 (clsB 2 c) true 9 (by omega) (fun _ h => absurd h (by omega)) hlen)
  rw [← hV] at HC
  obtain ⟨m, hm⟩ : ∃ m, clsB 2 c = m := ⟨_, rfl⟩
  have HM := hid (show ∀ w : World, _ from fun w => value_any (c.toNat : Int) w (by omega) (by omega))
  rw [hm] at HC
  have hm2 : valB (c.toNat : Int) = m := hm
  rw [hm2] at HM
  unfold byteV at HC ⊢
  rw [show ((13 : UInt8).toNat : Int) = 13 from rfl, show ((9 : Nat) : Int) = 9 from rfl] at HC
  clear hr hf hb xz hV hm hm2 hpn hlen hst h hcl
  go_enter Tryz.func74, Tryz.ntmps74
  go_wp2_with (first | (go_at_call 84; (with_reducible refine (HM.out _).mono ?_); rintro e w1 ⟨rfl, hw1⟩; subst w1) | (go_at_call 79; (with_reducible refine HC.out.mono ?_); rintro e w2 ⟨b2, rfl, hq⟩; have HQ := hid hq; clear hq))
  go_ret
  exact ⟨b2, rfl, HQ.out⟩
set_option maxRecDepth 20000 in
set_option maxHeartbeats 8000000 in
theorem step_6_any {F : Nat → Prop} {w : World} {g : Nat} {s : PS} (h : RdAt F w g s) (c : UInt8) (hst : s.st = 6) (hfl : s.fields.length ≤ 65) :
    Calls Tryz.prog 74 #[.pointer (some ⟨g, 0, none⟩), byteV c] w (StepB F w g (stepP s c)) := by
  have hcl := c.toNat_lt
  obtain ⟨p, f, hr, hf⟩ := h
  obtain ⟨pp, pn, pc, rfl⟩ := own_slice3 hr.part
  have hpn : s.part.length = pn := slice_part hr.part
  have hb := hr.blk
  unfold rdCells at hb
  rw [hst] at hb
  obtain ⟨_, _, _, _, x4, x5, _, _, _, _, _, _, _, _, xz⟩ := cells14 hb
  have h : RdAt F w g s := ⟨_, _, hr, hf⟩
  have HC := hid (endB_any h c 7 hfl)
  rw [← step_6 c hst, show ((7 : Nat) : Int) = 7 from rfl] at HC
  unfold byteV at HC ⊢
  clear hr hf hb xz hpn hfl hst h hcl
  go_enter Tryz.func74, Tryz.ntmps74
  go_wp2_with (go_at_call 85; (with_reducible refine HC.out.mono ?_); rintro e w2 ⟨b2, rfl, hq⟩; have HQ := hid hq; clear hq)
  go_ret
  exact ⟨b2, rfl, HQ.out⟩
set_option maxRecDepth 20000 in
set_option maxHeartbeats 8000000 in
theorem step_9_any {F : Nat → Prop} {w : World} {g : Nat} {s : PS} (h : RdAt F w g s) (c : UInt8) (hst : s.st = 9) (hfl : s.fields.length ≤ 65) :
    Calls Tryz.prog 74 #[.pointer (some ⟨g, 0, none⟩), byteV c] w (StepB F w g (stepP s c)) := by
  have hcl := c.toNat_lt
  obtain ⟨p, f, hr, hf⟩ := h
  obtain ⟨pp, pn, pc, rfl⟩ := own_slice3 hr.part
  have hpn : s.part.length = pn := slice_part hr.part
  have hb := hr.blk
  unfold rdCells at hb
  rw [hst] at hb
  obtain ⟨_, _, _, _, x4, x5, _, _, _, _, _, _, _, _, xz⟩ := cells14 hb
  have h : RdAt F w g s := ⟨_, _, hr, hf⟩
  have HC := hid (endB_any h c 7 hfl)
  rw [← step_9 c hst, show ((7 : Nat) : Int) = 7 from rfl] at HC
  unfold byteV at HC ⊢
  clear hr hf hb xz hpn hfl hst h hcl
  go_enter Tryz.func74, Tryz.ntmps74
  go_wp2_with (go_at_call 85; (with_reducible refine HC.out.mono ?_); rintro e w2 ⟨b2, rfl, hq⟩; have HQ := hid hq; clear hq)
  go_ret
  exact ⟨b2, rfl, HQ.out⟩
set_option maxRecDepth 20000 in
set_option maxHeartbeats 8000000 in
theorem step_10_any {F : Nat → Prop} {w : World} {g : Nat} {s : PS} (h : RdAt F w g s) (c : UInt8) (hst : s.st = 10) (hfl : s.fields.length ≤ 65) :
    Calls Tryz.prog 74 #[.pointer (some ⟨g, 0, none⟩), byteV c] w (StepB F w g (stepP s c)) := by
  have hcl := c.toNat_lt
  obtain ⟨p, f, hr, hf⟩ := h
  obtain ⟨pp, pn, pc, rfl⟩ := own_slice3 hr.part
  have hpn : s.part.length = pn := slice_part hr.part
  have hb := hr.blk
  unfold rdCells at hb
  rw [hst] at hb
  obtain ⟨_, _, _, _, x4, x5, _, _, _, _, _, _, _, _, xz⟩ := cells14 hb
  have h : RdAt F w g s := ⟨_, _, hr, hf⟩
  have HC := hid (endB_any h c 11 hfl)
  rw [← step_10 c hst, show ((11 : Nat) : Int) = 11 from rfl] at HC
  unfold byteV at HC ⊢
  clear hr hf hb xz hpn hfl hst h hcl
  go_enter Tryz.func74, Tryz.ntmps74
  go_wp2_with (go_at_call 85; (with_reducible refine HC.out.mono ?_); rintro e w2 ⟨b2, rfl, hq⟩; have HQ := hid hq; clear hq)
  go_ret
  exact ⟨b2, rfl, HQ.out⟩
set_option maxRecDepth 20000 in
set_option maxHeartbeats 8000000 in
theorem step_7x_any {F : Nat → Prop} {w : World} {g : Nat} {s : PS} (h : RdAt F w g s) (c : UInt8) (hst : s.st = 7) (h0 : s.part.length = 0) (hc : c = 13) :
    Calls Tryz.prog 74 #[.pointer (some ⟨g, 0, none⟩), byteV c] w (StepB F w g (stepP s c)) := by
  subst hc
  obtain ⟨p, f, hr, hf⟩ := h
  obtain ⟨pp, pn, pc, rfl⟩ := own_slice3 hr.part
  have hpn : s.part.length = pn := slice_part hr.part
  have hV : stepP s 13 = some { s with st := 10 } := by rw [step_7 13 hst, if_pos ⟨h0, rfl⟩]
  have HV := hid hV
  have HR := hid hr
  have HF := hid hf
  have hb := hr.blk
  unfold rdCells at hb
  have HB := hid hb
  have hb2 := hb
  rw [hst] at hb2
  obtain ⟨_, _, _, _, x4, x5, _, _, _, _, _, _, _, _, xz⟩ := cells14 hb2
  have xz4 := xz 4
  unfold byteV
  rw [show ((13 : UInt8).toNat : Int) = 13 from rfl]
  obtain rfl : pn = 0 := by omega
  clear hr hf hb hb2 xz hV hpn hst h0
  go_enter Tryz.func74, Tryz.ntmps74
  go_wp2
  go_ret
  refine ⟨true, rfl, .inl ⟨_, HV.out, rfl, F, ⟨_, _, ⟨?_, HR.out.part.at_set HB.out, HR.out.flds.at_set HB.out⟩, HF.out⟩, (Only.refl _ _).set HF.out.g _, fun _ h => .inl h⟩⟩
  rw [set14_4 HB.out]
  unfold rdCells
  rfl
set_option maxRecDepth 20000 in
set_option maxHeartbeats 8000000 in
theorem step_7a_any {F : Nat → Prop} {w : World} {g : Nat} {s : PS} (h : RdAt F w g s) (c : UInt8) (hst : s.st = 7) (h0 : s.part.length = 0) (hc : c ≠ 13) (hlen : s.part.length ≤ 70368744177600) :
    Calls Tryz.prog 74 #[.pointer (some ⟨g, 0, none⟩), byteV c] w (StepB F w g (stepP s c)) := by
  have hcl := c.toNat_lt
  obtain ⟨p, f, hr, hf⟩ := h
  obtain ⟨pp, pn, pc, rfl⟩ := own_slice3 hr.part
  have hpn : s.part.length = pn := slice_part hr.part
  have hb := hr.blk
  unfold rdCells at hb
  rw [hst] at hb
  obtain ⟨_, _, _, _, x4, x5, _, _, _, _, _, _, _, _, xz⟩ := cells14 hb
  have h : RdAt F w g s := ⟨_, _, hr, hf⟩
  have hV : stepP s c = rowP s c (clsB 0 c) 58 false 8 := by rw [step_7 c hst, if_neg (fun h => hc h.2), decide_eq_false (by omega)]
  have HC := hid (rowB_any h c 58 (clsB 0 c) false 8 (by omega) (fun _ h => absurd h (by omega)) hlen)
  rw [← hV] at HC
  obtain ⟨m, hm⟩ : ∃ m, clsB 0 c = m := ⟨_, rfl⟩
  have HM := hid (show ∀ w : World, _ from fun w => token_any (c.toNat : Int) w (by omega) (by omega))
  rw [hm] at HC
  have hm2 : tokB (c.toNat : Int) = m := hm
  rw [hm2] at HM
  unfold byteV at HC ⊢
  rw [show ((58 : UInt8).toNat : Int) = 58 from rfl, show ((8 : Nat) : Int) = 8 from rfl] at HC
  obtain rfl : pn = 0 := by omega
  have hc2 := u8_ne hc
  rw [show ((13 : UInt8).toNat : Int) = 13 from rfl] at hc2
  clear hr hf hb xz hV hm hm2 hpn hlen hst h hcl h0 hc
  go_enter Tryz.func74, Tryz.ntmps74
  go_wp2_with (first | (go_at_call 80; (with_reducible refine (HM.out _).mono ?_); rintro e w1 ⟨rfl, hw1⟩; subst w1) | (go_at_call 79; (with_reducible refine HC.out.mono ?_); rintro e w2 ⟨b2, rfl, hq⟩; have HQ := hid hq; clear hq))
  go_ret
  exact ⟨b2, rfl, HQ.out⟩
set_option maxRecDepth 20000 in
set_option maxHeartbeats 8000000 in
theorem step_7b_any {F : Nat → Prop} {w : World} {g : Nat} {s : PS} (h : RdAt F w g s) (c : UInt8) (hst : s.st = 7) (h0 : 0 < s.part.length) (hlen : s.part.length ≤ 70368744177600) :
    Calls Tryz.prog 74 #[.pointer (some ⟨g, 0, none⟩), byteV c] w (StepB F w g (stepP s c)) := by
  have hcl := c.toNat_lt
  obtain ⟨p, f, hr, hf⟩ := h
  obtain ⟨pp, pn, pc, rfl⟩ := own_slice3 hr.part
  have hpn : s.part.length = pn := slice_part hr.part
  have hb := hr.blk
  unfold rdCells at hb
  rw [hst] at hb
  obtain ⟨_, _, _, _, x4, x5, _, _, _, _, _, _, _, _, xz⟩ := cells14 hb
  have h : RdAt F w g s := ⟨_, _, hr, hf⟩
  have hV : stepP s c = rowP s c (clsB 0 c) 58 true 8 := by rw [step_7 c hst, if_neg (fun h => by have := h.1; omega), decide_eq_true (by omega)]
  have HC := hid (rowB_any h c 58 (clsB 0 c) true 8 (by omega) (fun _ h => absurd h (by omega)) hlen)
  rw [← hV] at HC
  obtain ⟨m, hm⟩ : ∃ m, clsB 0 c = m := ⟨_, rfl⟩
  have HM := hid (show ∀ w : World, _ from fun w => token_any (c.toNat : Int) w (by omega) (by omega))
  rw [hm] at HC
  have hm2 : tokB (c.toNat : Int) = m := hm
  rw [hm2] at HM
  unfold byteV at HC ⊢
  rw [show ((58 : UInt8).toNat : Int) = 58 from rfl, show ((8 : Nat) : Int) = 8 from rfl] at HC
  have hd4 : 0 < pn := by omega
  have hd3 : ((pn : Int) == 0) = false := by rw [beq_eq_false_iff_ne]; omega
  clear hr hf hb xz hV hm hm2 hpn hlen hst h hcl h0
  go_enter Tryz.func74, Tryz.ntmps74
  go_wp2_with (first | (go_at_call 80; (with_reducible refine (HM.out _).mono ?_); rintro e w1 ⟨rfl, hw1⟩; subst w1) | (go_at_call 79; (with_reducible refine HC.out.mono ?_); rintro e w2 ⟨b2, rfl, hq⟩; have HQ := hid hq; clear hq))
  go_ret
  exact ⟨b2, rfl, HQ.out⟩
theorem step_any {F : Nat → Prop} {w : World} {g : Nat} {s : PS} (h : RdAt F w g s) (c : UInt8) (hst : s.st ≤ 10) (hlen : s.part.length ≤ 70368744177600) (hfl : s.fields.length ≤ 65) :
    Calls Tryz.prog 74 #[.pointer (some ⟨g, 0, none⟩), byteV c] w (StepB F w g (stepP s c)) := by
  have : s.st = 0 ∨ s.st = 1 ∨ s.st = 2 ∨ s.st = 3 ∨ s.st = 4 ∨ s.st = 5 ∨ s.st = 6 ∨ s.st = 7 ∨ s.st = 8 ∨ s.st = 9 ∨ s.st = 10 := by omega
  rcases this with h0 | h0 | h0 | h0 | h0 | h0 | h0 | h0 | h0 | h0 | h0
  · by_cases hd : s.part.length = 0
    · exact step_0a_any h c h0 hd hlen
    · exact step_0b_any h c h0 (by omega) hlen
  · by_cases hd : s.part.length = 0
    · exact step_1a_any h c h0 hd hlen
    · exact step_1b_any h c h0 (by omega) hlen
  · by_cases hd : s.part.length = 8
    · exact step_2a_any h c h0 hd hlen
    · exact step_2b_any h c h0 hd hlen
  · by_cases hd : s.part.length = 8
    · exact step_3a_any h c h0 hd hlen
    · exact step_3b_any h c h0 hd hlen
  · by_cases hd : s.part.length = 3
    · exact step_4a_any h c h0 hd hlen
    · exact step_4b_any h c h0 hd hlen
  · exact step_5_any h c h0 hlen
  · exact step_6_any h c h0 hfl
  · by_cases hd : s.part.length = 0
    · by_cases hc : c = 13
      · exact step_7x_any h c h0 hd hc
      · exact step_7a_any h c h0 hd hc hlen
    · exact step_7b_any h c h0 (by omega) hlen
  · exact step_8_any h c h0 hlen
  · exact step_9_any h c h0 hfl
  · exact step_10_any h c h0 hfl
end Go.Proofs.YthakldcfpndabaaGreatDoor
