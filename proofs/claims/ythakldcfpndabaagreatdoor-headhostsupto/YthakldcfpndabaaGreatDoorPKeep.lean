/- The program's reader: a part that is read is kept. -/
import Derived.Test.YthakldcfpndabaaGreatDoorPSmall
import Derived.Test.YthakldcfpndabaaGreatDoorPRel
namespace Go.Proofs.YthakldcfpndabaaGreatDoor
open Go.RowKit

theorem Own.none_of {w : World} {N n c : Nat} {p : Option Addr} {acc : B} (h : Own w N (.slice p n c) acc) : Own w N (.slice p 0 c) [] := by
  have := Own.less (a := []) (b := acc) (by simpa using h)
  simpa using this
theorem slice_part {w : World} {N n c : Nat} {p : Option Addr} {acc : B} (h : Own w N (.slice p n c) acc) : acc.length = n := by
  rcases h.2 with ⟨h1, h2⟩ | ⟨g, cap, cur, h1, _⟩
  · cases h1; exact h2
  · cases h1; rfl
theorem foot_part {F : Nat → Prop} {g n c : Nat} {p : Option Addr} {f : Value} (h : Foot F g (.slice p n c) f) (m : Nat) : Foot F g (.slice p m c) f := by
  cases p with
  | none => exact ⟨h.g, h.p, h.f⟩
  | some a => exact ⟨h.g, h.p, h.f⟩
set_option maxRecDepth 20000 in
set_option maxHeartbeats 8000000 in
theorem keep_0 {F : Nat → Prop} {w : World} {g : Nat} {s : PS} (h : RdAt F w g s) (hst : s.st = 0) (hlen : s.part.length ≤ 70368744177664) : Calls Tryz.prog 87 #[.pointer (some ⟨g, 0, none⟩)] w fun e w' => e = .returned (.tuple #[]) ∧ Turned F w g (keepP s) w' := by
  obtain ⟨p, f, hr, hf⟩ := h
  obtain ⟨pp, pn, pc, rfl⟩ := own_slice3 hr.part
  obtain ⟨resp, most, taken, err, st, part, fn, fv, method, target, reason, minor, status, fields⟩ := s
  dsimp only at *
  subst hst
  have hb := hr.blk
  unfold rdCells at hb
  dsimp only at hb
  have HB := hid hb
  have HF := hid hf
  have HR := hid hr
  have hcv := conv_own hr.part
  have hpn : part.length = pn := slice_part hr.part
  have hcap := Own.cap hr.part
  obtain ⟨S, hS⟩ : ∃ S, str part = S := ⟨_, rfl⟩
  have HS := hid hS
  have HP := hid (hr.part.none_of)
  have hsz : S.size = pn := by rw [← hS, str_size, hpn]
  rw [hS] at hcv
  (try simp only [Nat.cast_ofNat, Int.cast_ofNat_Int, Int.natCast_zero] at hb)
  obtain ⟨k0, k1, k2, k3, k4, k5, k6, k7, k8, k9, k10, k11, k12, k13, kz⟩ := cells14 hb
  have z5 := kz 5
  have z8 := kz 8
  have HK := hid (keep0 (s := ⟨resp, most, taken, err, 0, part, fn, fv, method, target, reason, minor, status, fields⟩) rfl)
  clear hS hr hf hb kz hpn hlen
  go_enter Tryz.func87, Tryz.ntmps87
  go_wp2
  go_end0
  have HB1 := hid (set14_5 HB.out (.slice pp 0 pc))
  refine ⟨rfl, F, ⟨.slice pp 0 pc, f, ⟨?_, (HP.out.at_set HB.out).at_set HB1.out, (HR.out.flds.at_set HB.out).at_set HB1.out⟩, foot_part HF.out 0⟩, ((Only.refl _ _).set HF.out.g _).set HF.out.g _, fun k h => .inl h⟩
  rw [set14_8 HB1.out]
  rw [HK.out]
  unfold rdCells
  dsimp only
  rw [HS.out]
set_option maxRecDepth 20000 in
set_option maxHeartbeats 8000000 in
theorem keep_1 {F : Nat → Prop} {w : World} {g : Nat} {s : PS} (h : RdAt F w g s) (hst : s.st = 1) (hlen : s.part.length ≤ 70368744177664) : Calls Tryz.prog 87 #[.pointer (some ⟨g, 0, none⟩)] w fun e w' => e = .returned (.tuple #[]) ∧ Turned F w g (keepP s) w' := by
  obtain ⟨p, f, hr, hf⟩ := h
  obtain ⟨pp, pn, pc, rfl⟩ := own_slice3 hr.part
  obtain ⟨resp, most, taken, err, st, part, fn, fv, method, target, reason, minor, status, fields⟩ := s
  dsimp only at *
  subst hst
  have hb := hr.blk
  unfold rdCells at hb
  dsimp only at hb
  have HB := hid hb
  have HF := hid hf
  have HR := hid hr
  have hcv := conv_own hr.part
  have hpn : part.length = pn := slice_part hr.part
  have hcap := Own.cap hr.part
  obtain ⟨S, hS⟩ : ∃ S, str part = S := ⟨_, rfl⟩
  have HS := hid hS
  have HP := hid (hr.part.none_of)
  have hsz : S.size = pn := by rw [← hS, str_size, hpn]
  rw [hS] at hcv
  (try simp only [Nat.cast_ofNat, Int.cast_ofNat_Int, Int.natCast_zero] at hb)
  obtain ⟨k0, k1, k2, k3, k4, k5, k6, k7, k8, k9, k10, k11, k12, k13, kz⟩ := cells14 hb
  have z5 := kz 5
  have z9 := kz 9
  have HK := hid (keep1 (s := ⟨resp, most, taken, err, 1, part, fn, fv, method, target, reason, minor, status, fields⟩) rfl)
  clear hS hr hf hb kz hpn hlen
  go_enter Tryz.func87, Tryz.ntmps87
  go_wp2
  go_end0
  have HB1 := hid (set14_5 HB.out (.slice pp 0 pc))
  refine ⟨rfl, F, ⟨.slice pp 0 pc, f, ⟨?_, (HP.out.at_set HB.out).at_set HB1.out, (HR.out.flds.at_set HB.out).at_set HB1.out⟩, foot_part HF.out 0⟩, ((Only.refl _ _).set HF.out.g _).set HF.out.g _, fun k h => .inl h⟩
  rw [set14_9 HB1.out]
  rw [HK.out]
  unfold rdCells
  dsimp only
  rw [HS.out]
set_option maxRecDepth 20000 in
set_option maxHeartbeats 8000000 in
theorem keep_5 {F : Nat → Prop} {w : World} {g : Nat} {s : PS} (h : RdAt F w g s) (hst : s.st = 5) (hlen : s.part.length ≤ 70368744177664) : Calls Tryz.prog 87 #[.pointer (some ⟨g, 0, none⟩)] w fun e w' => e = .returned (.tuple #[]) ∧ Turned F w g (keepP s) w' := by
  obtain ⟨p, f, hr, hf⟩ := h
  obtain ⟨pp, pn, pc, rfl⟩ := own_slice3 hr.part
  obtain ⟨resp, most, taken, err, st, part, fn, fv, method, target, reason, minor, status, fields⟩ := s
  dsimp only at *
  subst hst
  have hb := hr.blk
  unfold rdCells at hb
  dsimp only at hb
  have HB := hid hb
  have HF := hid hf
  have HR := hid hr
  have hcv := conv_own hr.part
  have hpn : part.length = pn := slice_part hr.part
  have hcap := Own.cap hr.part
  obtain ⟨S, hS⟩ : ∃ S, str part = S := ⟨_, rfl⟩
  have HS := hid hS
  have HP := hid (hr.part.none_of)
  have hsz : S.size = pn := by rw [← hS, str_size, hpn]
  rw [hS] at hcv
  (try simp only [Nat.cast_ofNat, Int.cast_ofNat_Int, Int.natCast_zero] at hb)
  obtain ⟨k0, k1, k2, k3, k4, k5, k6, k7, k8, k9, k10, k11, k12, k13, kz⟩ := cells14 hb
  have z5 := kz 5
  have z10 := kz 10
  have HK := hid (keep5 (s := ⟨resp, most, taken, err, 5, part, fn, fv, method, target, reason, minor, status, fields⟩) rfl)
  clear hS hr hf hb kz hpn hlen
  go_enter Tryz.func87, Tryz.ntmps87
  go_wp2
  go_end0
  have HB1 := hid (set14_5 HB.out (.slice pp 0 pc))
  refine ⟨rfl, F, ⟨.slice pp 0 pc, f, ⟨?_, (HP.out.at_set HB.out).at_set HB1.out, (HR.out.flds.at_set HB.out).at_set HB1.out⟩, foot_part HF.out 0⟩, ((Only.refl _ _).set HF.out.g _).set HF.out.g _, fun k h => .inl h⟩
  rw [set14_10 HB1.out]
  rw [HK.out]
  unfold rdCells
  dsimp only
  rw [HS.out]
set_option maxRecDepth 20000 in
set_option maxHeartbeats 8000000 in
theorem keep_7 {F : Nat → Prop} {w : World} {g : Nat} {s : PS} (h : RdAt F w g s) (hst : s.st = 7) (hlen : s.part.length ≤ 70368744177664) : Calls Tryz.prog 87 #[.pointer (some ⟨g, 0, none⟩)] w fun e w' => e = .returned (.tuple #[]) ∧ Turned F w g (keepP s) w' := by
  obtain ⟨p, f, hr, hf⟩ := h
  obtain ⟨pp, pn, pc, rfl⟩ := own_slice3 hr.part
  obtain ⟨resp, most, taken, err, st, part, fn, fv, method, target, reason, minor, status, fields⟩ := s
  dsimp only at *
  subst hst
  have hb := hr.blk
  unfold rdCells at hb
  dsimp only at hb
  have HB := hid hb
  have HF := hid hf
  have HR := hid hr
  have hcv := conv_own hr.part
  have hpn : part.length = pn := slice_part hr.part
  have hcap := Own.cap hr.part
  obtain ⟨S, hS⟩ : ∃ S, str part = S := ⟨_, rfl⟩
  have HS := hid hS
  have HP := hid (hr.part.none_of)
  have hsz : S.size = pn := by rw [← hS, str_size, hpn]
  rw [hS] at hcv
  (try simp only [Nat.cast_ofNat, Int.cast_ofNat_Int, Int.natCast_zero] at hb)
  obtain ⟨k0, k1, k2, k3, k4, k5, k6, k7, k8, k9, k10, k11, k12, k13, kz⟩ := cells14 hb
  have z5 := kz 5
  have z6 := kz 6
  have HK := hid (keep7 (s := ⟨resp, most, taken, err, 7, part, fn, fv, method, target, reason, minor, status, fields⟩) rfl)
  clear hS hr hf hb kz hpn hlen
  go_enter Tryz.func87, Tryz.ntmps87
  go_wp2
  go_end0
  have HB1 := hid (set14_5 HB.out (.slice pp 0 pc))
  refine ⟨rfl, F, ⟨.slice pp 0 pc, f, ⟨?_, (HP.out.at_set HB.out).at_set HB1.out, (HR.out.flds.at_set HB.out).at_set HB1.out⟩, foot_part HF.out 0⟩, ((Only.refl _ _).set HF.out.g _).set HF.out.g _, fun k h => .inl h⟩
  rw [set14_6 HB1.out]
  rw [HK.out]
  unfold rdCells
  dsimp only
  rw [HS.out]
set_option maxRecDepth 20000 in
set_option maxHeartbeats 8000000 in
theorem keep_2 {F : Nat → Prop} {w : World} {g : Nat} {s : PS} (h : RdAt F w g s) (hst : s.st = 2) (h8 : s.part.length = 8) (hlen : s.part.length ≤ 70368744177664) : Calls Tryz.prog 87 #[.pointer (some ⟨g, 0, none⟩)] w fun e w' => e = .returned (.tuple #[]) ∧ Turned F w g (keepP s) w' := by
  obtain ⟨p, f, hr, hf⟩ := h
  obtain ⟨pp, pn, pc, rfl⟩ := own_slice3 hr.part
  obtain ⟨resp, most, taken, err, st, part, fn, fv, method, target, reason, minor, status, fields⟩ := s
  dsimp only at *
  subst hst
  have hb := hr.blk
  unfold rdCells at hb
  dsimp only at hb
  have HB := hid hb
  have HF := hid hf
  have HR := hid hr
  have hcv := conv_own hr.part
  have hpn : part.length = pn := slice_part hr.part
  have hcap := Own.cap hr.part
  obtain ⟨S, hS⟩ : ∃ S, str part = S := ⟨_, rfl⟩
  have HS := hid hS
  have HP := hid (hr.part.none_of)
  have hsz : S.size = pn := by rw [← hS, str_size, hpn]
  rw [hS] at hcv
  (try simp only [Nat.cast_ofNat, Int.cast_ofNat_Int, Int.natCast_zero] at hb)
  obtain ⟨k0, k1, k2, k3, k4, k5, k6, k7, k8, k9, k10, k11, k12, k13, kz⟩ := cells14 hb
  have z5 := kz 5
  have z11 := kz 11
  have HK := hid (keep2 (s := ⟨resp, most, taken, err, 2, part, fn, fv, method, target, reason, minor, status, fields⟩) (.inl rfl))
  obtain rfl : pn = 8 := by omega
  obtain ⟨y, hy⟩ : ∃ y, part[7]? = some y := ⟨part[7]'(by omega), List.getElem?_eq_getElem (by omega)⟩
  have HY := hid (show minorOf part = (((y.toNat + 208) % 256 : Nat) : Int) from by unfold minorOf; rw [List.getD_eq_getElem?_getD, hy]; rfl)
  have hyb : ∀ h : 7 < S.size, ((S[7]'h).toNat : Int) = (y.toNat : Int) := fun h => by
    subst hS
    have : part[7]'(by omega) = y := by rw [List.getElem?_eq_getElem (by omega)] at hy; exact Option.some.inj hy
    rw [← this]; rfl
  have hylt := y.toNat_lt
  clear hS hr hf hb kz hpn hlen hy h8
  go_enter Tryz.func87, Tryz.ntmps87
  go_wp2
  go_end0
  have HB1 := hid (set14_5 HB.out (.slice pp 0 pc))
  refine ⟨rfl, F, ⟨.slice pp 0 pc, f, ⟨?_, (HP.out.at_set HB.out).at_set HB1.out, (HR.out.flds.at_set HB.out).at_set HB1.out⟩, foot_part HF.out 0⟩, ((Only.refl _ _).set HF.out.g _).set HF.out.g _, fun k h => .inl h⟩
  rw [set14_11 HB1.out]
  rw [HK.out]
  unfold rdCells
  dsimp only
  rw [HY.out, show (((y.toNat + 208) % 256 : Nat) : Int) = ((y.toNat : Int) - 48) % 256 from by omega]
set_option maxRecDepth 20000 in
set_option maxHeartbeats 8000000 in
theorem keep_3 {F : Nat → Prop} {w : World} {g : Nat} {s : PS} (h : RdAt F w g s) (hst : s.st = 3) (h8 : s.part.length = 8) (hlen : s.part.length ≤ 70368744177664) : Calls Tryz.prog 87 #[.pointer (some ⟨g, 0, none⟩)] w fun e w' => e = .returned (.tuple #[]) ∧ Turned F w g (keepP s) w' := by
  obtain ⟨p, f, hr, hf⟩ := h
  obtain ⟨pp, pn, pc, rfl⟩ := own_slice3 hr.part
  obtain ⟨resp, most, taken, err, st, part, fn, fv, method, target, reason, minor, status, fields⟩ := s
  dsimp only at *
  subst hst
  have hb := hr.blk
  unfold rdCells at hb
  dsimp only at hb
  have HB := hid hb
  have HF := hid hf
  have HR := hid hr
  have hcv := conv_own hr.part
  have hpn : part.length = pn := slice_part hr.part
  have hcap := Own.cap hr.part
  obtain ⟨S, hS⟩ : ∃ S, str part = S := ⟨_, rfl⟩
  have HS := hid hS
  have HP := hid (hr.part.none_of)
  have hsz : S.size = pn := by rw [← hS, str_size, hpn]
  rw [hS] at hcv
  (try simp only [Nat.cast_ofNat, Int.cast_ofNat_Int, Int.natCast_zero] at hb)
  obtain ⟨k0, k1, k2, k3, k4, k5, k6, k7, k8, k9, k10, k11, k12, k13, kz⟩ := cells14 hb
  have z5 := kz 5
  have z11 := kz 11
  have HK := hid (keep2 (s := ⟨resp, most, taken, err, 3, part, fn, fv, method, target, reason, minor, status, fields⟩) (.inr rfl))
  obtain rfl : pn = 8 := by omega
  obtain ⟨y, hy⟩ : ∃ y, part[7]? = some y := ⟨part[7]'(by omega), List.getElem?_eq_getElem (by omega)⟩
  have HY := hid (show minorOf part = (((y.toNat + 208) % 256 : Nat) : Int) from by unfold minorOf; rw [List.getD_eq_getElem?_getD, hy]; rfl)
  have hyb : ∀ h : 7 < S.size, ((S[7]'h).toNat : Int) = (y.toNat : Int) := fun h => by
    subst hS
    have : part[7]'(by omega) = y := by rw [List.getElem?_eq_getElem (by omega)] at hy; exact Option.some.inj hy
    rw [← this]; rfl
  have hylt := y.toNat_lt
  clear hS hr hf hb kz hpn hlen hy h8
  go_enter Tryz.func87, Tryz.ntmps87
  go_wp2
  go_end0
  have HB1 := hid (set14_5 HB.out (.slice pp 0 pc))
  refine ⟨rfl, F, ⟨.slice pp 0 pc, f, ⟨?_, (HP.out.at_set HB.out).at_set HB1.out, (HR.out.flds.at_set HB.out).at_set HB1.out⟩, foot_part HF.out 0⟩, ((Only.refl _ _).set HF.out.g _).set HF.out.g _, fun k h => .inl h⟩
  rw [set14_11 HB1.out]
  rw [HK.out]
  unfold rdCells
  dsimp only
  rw [HY.out, show (((y.toNat + 208) % 256 : Nat) : Int) = ((y.toNat : Int) - 48) % 256 from by omega]
set_option maxRecDepth 20000 in
set_option maxHeartbeats 8000000 in
theorem keep_4 {F : Nat → Prop} {w : World} {g : Nat} {s : PS} (h : RdAt F w g s) (hst : s.st = 4) (hlen : s.part.length ≤ 70368744177664) : Calls Tryz.prog 87 #[.pointer (some ⟨g, 0, none⟩)] w fun e w' => e = .returned (.tuple #[]) ∧ Turned F w g (keepP s) w' := by
  obtain ⟨p, f, hr, hf⟩ := h
  obtain ⟨pp, pn, pc, rfl⟩ := own_slice3 hr.part
  obtain ⟨resp, most, taken, err, st, part, fn, fv, method, target, reason, minor, status, fields⟩ := s
  dsimp only at *
  subst hst
  have hb := hr.blk
  unfold rdCells at hb
  dsimp only at hb
  have HB := hid hb
  have HF := hid hf
  have HR := hid hr
  have hcv := conv_own hr.part
  have hpn : part.length = pn := slice_part hr.part
  have hcap := Own.cap hr.part
  obtain ⟨S, hS⟩ : ∃ S, str part = S := ⟨_, rfl⟩
  have HS := hid hS
  have HP := hid (hr.part.none_of)
  have hsz : S.size = pn := by rw [← hS, str_size, hpn]
  rw [hS] at hcv
  (try simp only [Nat.cast_ofNat, Int.cast_ofNat_Int, Int.natCast_zero] at hb)
  obtain ⟨k0, k1, k2, k3, k4, k5, k6, k7, k8, k9, k10, k11, k12, k13, kz⟩ := cells14 hb
  have z5 := kz 5
  have z12 := kz 12
  have HK := hid (keep4 (s := ⟨resp, most, taken, err, 4, part, fn, fv, method, target, reason, minor, status, fields⟩) rfl)
  have HD := hid (fun w : World => decimal_any S 599 w (by rw [hsz]; unfold maxLen; omega) (by omega) (by omega))
  obtain ⟨n, hn⟩ : ∃ n, numN 10 599 S = n := ⟨_, rfl⟩
  obtain ⟨E, hE⟩ : ∃ E, errV (numE 10 599 S) = E := ⟨_, rfl⟩
  have HN := hid hn
  rw [hn, hE] at HD
  clear hS hr hf hb kz hpn hlen hn hE
  go_enter Tryz.func87, Tryz.ntmps87
  go_wp2_with (go_at_call 24; (with_reducible refine (HD.out _).mono ?_); rintro e w1 ⟨rfl, hw1⟩; subst w1)
  go_end0
  have HB1 := hid (set14_5 HB.out (.slice pp 0 pc))
  refine ⟨rfl, F, ⟨.slice pp 0 pc, f, ⟨?_, (HP.out.at_set HB.out).at_set HB1.out, (HR.out.flds.at_set HB.out).at_set HB1.out⟩, foot_part HF.out 0⟩, ((Only.refl _ _).set HF.out.g _).set HF.out.g _, fun k h => .inl h⟩
  rw [set14_12 HB1.out]
  rw [HK.out]
  unfold rdCells
  dsimp only
  unfold statusOf
  rw [← HN.out, ← HS.out]
set_option maxRecDepth 20000 in
set_option maxHeartbeats 8000000 in
theorem keep_8 {F : Nat → Prop} {w : World} {g : Nat} {s : PS} (h : RdAt F w g s) (hst : s.st = 8) (hlen : s.part.length ≤ 70368744177664) : Calls Tryz.prog 87 #[.pointer (some ⟨g, 0, none⟩)] w fun e w' => e = .returned (.tuple #[]) ∧ Turned F w g (keepP s) w' := by
  obtain ⟨p, f, hr, hf⟩ := h
  obtain ⟨pp, pn, pc, rfl⟩ := own_slice3 hr.part
  obtain ⟨resp, most, taken, err, st, part, fn, fv, method, target, reason, minor, status, fields⟩ := s
  dsimp only at *
  subst hst
  have hb := hr.blk
  unfold rdCells at hb
  dsimp only at hb
  have HB := hid hb
  have HF := hid hf
  have HR := hid hr
  have hcv := conv_own hr.part
  have hpn : part.length = pn := slice_part hr.part
  have hcap := Own.cap hr.part
  obtain ⟨S, hS⟩ : ∃ S, str part = S := ⟨_, rfl⟩
  have HS := hid hS
  have HP := hid (hr.part.none_of)
  have hsz : S.size = pn := by rw [← hS, str_size, hpn]
  rw [hS] at hcv
  (try simp only [Nat.cast_ofNat, Int.cast_ofNat_Int, Int.natCast_zero] at hb)
  obtain ⟨k0, k1, k2, k3, k4, k5, k6, k7, k8, k9, k10, k11, k12, k13, kz⟩ := cells14 hb
  have z5 := kz 5
  have z7 := kz 7
  have HK := hid (keep8 (s := ⟨resp, most, taken, err, 8, part, fn, fv, method, target, reason, minor, status, fields⟩) rfl)
  have HB1 := hid (set14_5 HB.out (.slice pp 0 pc))
  obtain ⟨W1, hW1⟩ : ∃ W1, W1 = w.setCell ⟨g, 5, none⟩ (.slice pp 0 pc) := ⟨_, rfl⟩
  have HW1 := hid hW1
  have HD := hid (trim_any S W1 (by rw [hsz]; omega))
  obtain ⟨T, hT⟩ : ∃ T, trimS S = T := ⟨_, rfl⟩
  have HT := hid (show str (trimL part) = T from by rw [← hT, ← hS]; rfl)
  rw [hT] at HD
  have HR1 := hid (show Rd W1 g ⟨resp, most, taken, err, 8, [], fn, fv, method, target, reason, minor, status, fields⟩ (.slice pp 0 pc) f from by rw [hW1]; exact ⟨HB1.out, HP.out.at_set HB.out, hr.flds.at_set HB.out⟩)
  have HO1 := hid (show Only F w W1 from by rw [hW1]; exact (Only.refl _ _).set hf.g _)
  clear hS hr hf hb kz hpn hlen hT hW1
  go_enter Tryz.func87, Tryz.ntmps87
  go_wp2_with (go_at_call 48; (rw [← HW1.out]); (with_reducible refine HD.out.mono ?_); rintro e w2 ⟨rfl, hw2⟩; have HB2 := hid hw2; have HR2 := hid ((RdAt.next (F := F) ⟨_, _, HR1.out, foot_part HF.out 0⟩ hw2)); have hb2 := (hw2.block g (lt_of_heap HR1.out.blk)).trans HR1.out.blk; unfold rdCells at hb2; dsimp only at hb2; have HB3 := hid hb2; obtain ⟨_, _, _, _, _, _, _, x7, _, _, _, _, _, _, xz⟩ := cells14 hb2; have xz7 := xz 7; clear hw2 hb2 xz)
  go_end0
  have hr2 : Rd w2 g ⟨resp, most, taken, err, 8, [], fn, fv, method, target, reason, minor, status, fields⟩ (.slice pp 0 pc) f := ⟨HB3.out, HR1.out.part.keep HB2.out, HR1.out.flds.keep HB2.out⟩
  refine ⟨rfl, F, ⟨.slice pp 0 pc, f, ⟨?_, hr2.part.at_set HB3.out, hr2.flds.at_set HB3.out⟩, foot_part HF.out 0⟩, (HO1.out.trans (Only.of_below (F := F) HB2.out) (fun _ h => .inl h)).set HF.out.g _, fun k h => .inl h⟩
  rw [set14_7 HB3.out]
  rw [HK.out]
  unfold rdCells
  dsimp only
  rw [HT.out]
theorem keep_any {F : Nat → Prop} {w : World} {g : Nat} {s : PS} (h : RdAt F w g s) (hst : s.st = 0 ∨ s.st = 1 ∨ s.st = 2 ∨ s.st = 3 ∨ s.st = 4 ∨ s.st = 5 ∨ s.st = 7 ∨ s.st = 8) (h8 : s.st = 2 ∨ s.st = 3 → s.part.length = 8) (hlen : s.part.length ≤ 70368744177664) : Calls Tryz.prog 87 #[.pointer (some ⟨g, 0, none⟩)] w fun e w' => e = .returned (.tuple #[]) ∧ Turned F w g (keepP s) w' := by
  rcases hst with h0 | h0 | h0 | h0 | h0 | h0 | h0 | h0
  · exact keep_0 h h0 hlen
  · exact keep_1 h h0 hlen
  · exact keep_2 h h0 (h8 (.inl h0)) hlen
  · exact keep_3 h h0 (h8 (.inr h0)) hlen
  · exact keep_4 h h0 hlen
  · exact keep_5 h h0 hlen
  · exact keep_7 h h0 hlen
  · exact keep_8 h h0 hlen
end Go.Proofs.YthakldcfpndabaaGreatDoor
