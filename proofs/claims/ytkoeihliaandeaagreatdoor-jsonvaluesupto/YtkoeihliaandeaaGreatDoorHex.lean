/- Hexadecimal digits behind an escape. -/
import Derived.Test.YtkoeihliaandeaaGreatDoorNum2
import Derived.Laws.BitsLemmas
namespace Go.Proofs.YtkoeihliaandeaaGreatDoor
open Go.RowKit

def hexOk (c : UInt8) : Bool := match hexv c with
  | none => decide (Lib.indexByte hexL c < 0)
  | some v => decide (0 ≤ Lib.indexByte hexL c ∧ Lib.indexByte hexL c < 22 ∧ (if 15 < Lib.indexByte hexL c then Lib.indexByte hexL c - 6 else Lib.indexByte hexL c) = v ∧ v < 16)
theorem hexOk_all : ∀ n : Fin 256, hexOk (UInt8.ofNat n.val) = true := by decide +kernel
theorem hexOk_any (c : UInt8) : hexOk c = true := by
  have := hexOk_all ⟨c.toNat, c.toNat_lt⟩
  simpa using this
theorem hex_none {c : UInt8} (h : hexv c = none) : Lib.indexByte hexL c < 0 := by
  have := hexOk_any c
  unfold hexOk at this
  rw [h] at this
  simpa using this
theorem hex_some {c : UInt8} {v : Nat} (h : hexv c = some v) : 0 ≤ Lib.indexByte hexL c ∧ Lib.indexByte hexL c < 22 ∧ (if 15 < Lib.indexByte hexL c then Lib.indexByte hexL c - 6 else Lib.indexByte hexL c) = v ∧ v < 16 := by
  have := hexOk_any c
  unfold hexOk at this
  rw [h] at this
  exact of_decide_eq_true this
/-- A number or an error is answered, and where the reader stands. -/
def ToldN (r : Res Nat) (b : Nat) (s : ByteArray) (d : Nat) (w : World) (e : Ending) (w' : World) : Prop :=
  match r with
  | .ok n t => e = .returned (.tuple #[.int .i32 (n : Int), .nilIface]) ∧ Rd w' b s t d ∧ Turn b w w'
  | .err k t => e = .returned (.tuple #[.int .i32 0, errV k]) ∧ Rd w' b s t d ∧ Turn b w w'
theorem ToldN.yes {r : Res Nat} {n : Nat} {t : B} {b : Nat} {s : ByteArray} {d : Nat} {w w' : World} {e : Ending} (h : ToldN r b s d w e w') (k : r = .ok n t) : e = .returned (.tuple #[.int .i32 (n : Int), .nilIface]) ∧ Rd w' b s t d ∧ Turn b w w' := by
  rw [k] at h; exact h
theorem ToldN.no {r : Res Nat} {t : B} {n : Nat} {b : Nat} {s : ByteArray} {d : Nat} {w w' : World} {e : Ending} (h : ToldN r b s d w e w') (k : r = .err n t) : e = .returned (.tuple #[.int .i32 0, errV n]) ∧ Rd w' b s t d ∧ Turn b w w' := by
  rw [k] at h; exact h
theorem nx_hex (l : B) : Lib.indexByte hexL (nx l) < 0 ∨ l ≠ [] := by
  cases l with
  | nil => left; decide
  | cons c t => right; simp
theorem index_hex (c : Int) (w : World) :
    Calls Tryz.prog 67 #[.string ⟨#[48, 49, 50, 51, 52, 53, 54, 55, 56, 57, 97, 98, 99, 100, 101, 102, 65, 66, 67, 68, 69, 70]⟩, .int .u8 c] w fun e w' => e = .returned (.int .i64 (Lib.indexByte hexL c.toNat.toUInt8)) ∧ w' = w := index_any _ _ _
def Pow (k a : Nat) : Prop := a < 16 ^ (4 - k)
theorem join16 (a v : Nat) (ha : a < 4096) (hv : v < 16) : bits .or .i32 ((a : Int) * 16) (v : Int) = ((a * 16 + v : Nat) : Int) := by
  rw [bits_join .i32 20 (by decide) (fun n h0 h1 => by rw [IntKind.wrap_i32]; omega) 4 _ _ (by omega) (by omega) (by omega) (by omega) (by omega) (by omega)]
  push_cast
  rfl
theorem pow_step {k a v : Nat} (h : Pow (k + 1) a) (hv : v < 16) (hk : k + 1 ≤ 4) : Pow k (a * 16 + v) := by
  unfold Pow at h ⊢
  have e : 16 ^ (4 - k) = 16 ^ (4 - (k + 1)) * 16 := by rw [← Nat.pow_succ]; congr 1; omega
  rw [e]
  omega
set_option maxRecDepth 20000 in
set_option maxHeartbeats 2000000 in
theorem four_any {w : World} {b : Nat} {s : ByteArray} {l : B} {d : Nat} (h : Rd w b s l d) :
    Calls Tryz.prog 102 #[.pointer (some ⟨b, 0, none⟩)] w fun e w' => ToldN (four 4 0 l) b s d w e w' := by
  obtain ⟨T, HT⟩ : ∃ T, Hid (four 4 0 l = T) := ⟨_, rfl⟩
  rw [HT.out]
  have R0 := hid (And.intro h (Turn.refl b w))
  clear h
  go_enter Tryz.func102, Tryz.ntmps102
  go_wp2
  go_loopg [4, 6] 5 (fun gk s4 s6 wr => ∃ (k a : Nat) (t : B), k ≤ 4 ∧ gk = k + 1 ∧ s6 = .int .i64 ((4 - k : Nat) : Int) ∧ s4 = .int .i32 (a : Int) ∧ Pow k a ∧ four k a t = T ∧ Rd wr b s t d ∧ Turn b w wr)
  case atStart => exact ⟨4, 0, l, by omega, rfl, rfl, rfl, by unfold Pow; decide, HT.out, R0.out⟩
  case round =>
    obtain ⟨k, a, t, hk, rfl, rfl, rfl, hp, h3, h4, h5⟩ := hrel
    have H := hid (And.intro hp h3)
    have R1 := hid (And.intro h4 h5)
    clear hp h3 h4 h5
    cases k with
    | zero =>
      go_wp2
      go_ret2
      rw [← H.out.2]
      exact ⟨rfl, R1.out⟩
    | succ k =>
      have hk2 : ((4 - (k + 1) : Nat) : Int) < 4 := by omega
      have ha : a < 4096 := by
        have := H.out.1
        unfold Pow at this
        have h2 : 16 ^ (4 - (k + 1)) ≤ 16 ^ 3 := Nat.pow_le_pow_right (by omega) (by omega)
        omega
      cases hx : hexv (nx t) with
      | none =>
        have HX := hid hx
        have hn := hex_none hx
        obtain ⟨I, hI⟩ : ∃ I, Lib.indexByte hexL (nx t) = I := ⟨_, rfl⟩
        rw [hI] at hn
        clear hx
        go_wp2_with (first
          | (go_at_call 48; refine (next_any R1.out.1).mono ?_; rintro e w' ⟨rfl, n, rfl⟩)
          | (go_at_call 67; refine (index_hex _ _).mono ?_; rintro e w' ⟨rfl, hw⟩; have hw2 := hw.symm; subst hw2; rw [toUInt8_toNat, hI]))
        go_ret2
        have hw : T = .err 3 t := by
          rw [← H.out.2]
          cases t with
          | nil => rfl
          | cons y u => simp only [four]; rw [show hexv y = none from HX.out]
        rw [hw]
        exact ⟨rfl, R1.out.1.drewN _, R1.out.2.drewN _⟩
      | some v =>
        have hs := hex_some hx
        obtain ⟨I, hI⟩ : ∃ I, Lib.indexByte hexL (nx t) = I := ⟨_, rfl⟩
        rw [hI] at hs
        obtain ⟨i0, i1, i2, i3⟩ := hs
        cases t with
        | nil => simp [nx, hexv] at hx
        | cons y u =>
          have HX := hid hx
          clear hx
          obtain ⟨p, hA⟩ := R1.out.1.at
          have d1 := hA.c1
          have f1 := hA.fz 1
          have hle := hA.le
          have hms := hA.most
          have HS := hid hA.step
          clear hA
          have hor := join16 a v ha i3
          have hI2 := hid hI
          clear hI
          have hJ : ¬ I < 0 := by omega
          by_cases hc : 15 < I
          · rw [if_pos hc] at i2
            have hsub : I - 6 = (v : Int) := i2
            clear i2
            go_wp2_with (first
              | (go_at_call 48; refine (next_any R1.out.1).mono ?_; rintro e w' ⟨rfl, n, rfl⟩)
              | (go_at_call 67; refine (index_hex _ _).mono ?_; rintro e w' ⟨rfl, hw⟩; have hw2 := hw.symm; subst hw2; rw [toUInt8_toNat, hI2.out]))
            go_roundg (k + 1)
            case measure => omega
            case rel =>
              refine ⟨k, a * 16 + v, u, by omega, rfl, ?_, ?_, ?_, ?_, (R1.out.1.drewN _).moved _ (by push_cast; rfl) HS.out.2 HS.out.1, (R1.out.2.drewN _).setCell _ _⟩
              · congr 1; omega
              · rfl
              · exact pow_step H.out.1 i3 hk
              · rw [← H.out.2]; simp only [four]; rw [show hexv y = some v from HX.out]
          · rw [if_neg hc] at i2
            subst i2
            go_wp2_with (first
              | (go_at_call 48; refine (next_any R1.out.1).mono ?_; rintro e w' ⟨rfl, n, rfl⟩)
              | (go_at_call 67; refine (index_hex _ _).mono ?_; rintro e w' ⟨rfl, hw⟩; have hw2 := hw.symm; subst hw2; rw [toUInt8_toNat, hI2.out]))
            go_roundg (k + 1)
            case measure => omega
            case rel =>
              refine ⟨k, a * 16 + v, u, by omega, rfl, ?_, ?_, ?_, ?_, (R1.out.1.drewN _).moved _ (by push_cast; rfl) HS.out.2 HS.out.1, (R1.out.2.drewN _).setCell _ _⟩
              · congr 1; omega
              · rfl
              · exact pow_step H.out.1 i3 hk
              · rw [← H.out.2]; simp only [four]; rw [show hexv y = some v from HX.out]
end Go.Proofs.YtkoeihliaandeaaGreatDoor
