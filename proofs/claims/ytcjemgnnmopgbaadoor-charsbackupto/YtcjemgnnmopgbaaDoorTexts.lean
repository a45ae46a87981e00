/- The texts of numbers, of package chars and the document's, in both bases: the same text, for every int; what was in memory stays; where the tables of Go's library are laid. -/
import Derived.Test.YtcjemgnnmopgbaaDoorTold
import Derived.Test.YtcjemgnnmopgbaaDoorSure
import Derived.Lib.ItoaLen
namespace Go.Proofs.YtcjemgnnmopgbaaDoor
open Go.RowKit

theorem below_drewN' (w : World) (n : Nat) : Below w.heap.size w (w.drewN n) := ⟨rfl, rfl, rfl, Nat.le_refl _, fun _ _ => rfl⟩
theorem told_len (k : Nat) (h : k < 18446744073709551616) : (told 10 k).length ≤ 20 := by
  rw [told_dec k h, Lib.decDigits_length]; exact Lib.nDigits_le20 k h
def hexS (n : Int) : ByteArray := if n < 0 then { data := #[] } else ⟨(told 16 n.toNat).toArray⟩
def hexE (n : Int) : Int := if n < 0 then 1 else 0

set_option maxHeartbeats 400000 in
theorem iformat16_any (n : Nat) (w : World) (hn : n < 9223372036854775808) (hc : w.cell? ⟨4, 15, none⟩ = some (.int .u8 4)) :
    Calls Tryd.prog 52 #[.int .i64 n, .int .i64 16] w fun e w' => e = .returned (.string ⟨(told 16 n).toArray⟩) ∧ Below w.heap.size w w' := by
  have hw : IntKind.u64.wrap (n : Int) = n := by rw [IntKind.wrap_u64]; omega
  go_enter Tryd.func52, Tryd.ntmps52
  go_wp2_with (go_at_call 63; refine (formatBits_16 n _ hn hc).mono ?_; rintro e w' ⟨rfl, hb⟩)
  go_ret
  exact ⟨rfl, by assumption⟩
set_option maxHeartbeats 400000 in
theorem format16_any (n : Nat) (w : World) (hn : n < 9223372036854775808) (hc : w.cell? ⟨4, 15, none⟩ = some (.int .u8 4)) :
    Calls Tryd.prog 42 #[.int .i64 n, .int .i64 16] w fun e w' => e = .returned (.string ⟨(told 16 n).toArray⟩) ∧ Below w.heap.size w w' := by
  go_enter Tryd.func42, Tryd.ntmps42
  go_wp2_with (go_at_call 52; refine (iformat16_any n _ hn hc).mono ?_; rintro e w' ⟨rfl, hb⟩)
  go_ret
  exact ⟨rfl, by assumption⟩
theorem hex_neg {n : Int} (h : n < 0) : hexS n = { data := #[] } ∧ hexE n = 1 := by simp [hexS, hexE, h]
theorem hex_pos (n : Nat) : hexS (n : Int) = ⟨(told 16 n).toArray⟩ ∧ hexE (n : Int) = 0 := by
  simp [hexS, hexE, show ¬ ((n : Int) < 0) by omega]
theorem ret_sv {a b : ByteArray} {x y : Value} (h : a = b) (g : x = y) : Ending.returned (.tuple #[.string a, x]) = .returned (.tuple #[.string b, y]) := by rw [h, g]

set_option maxHeartbeats 400000 in
theorem hextext_any (n : Int) (w : World) (h0 : -9223372036854775808 ≤ n) (h1 : n ≤ 9223372036854775807) (hc : w.cell? ⟨4, 15, none⟩ = some (.int .u8 4)) :
    Calls Tryd.prog 24 #[.int .i64 n] w fun e w' => e = .returned (.tuple #[.string (hexS n), errV (hexE n)]) ∧ Below w.heap.size w w' := by
  by_cases h : n < 0
  · have hx := Lib.hid (hex_neg h)
    go_enter Tryd.func24, Tryd.ntmps24
    go_wp2
    go_ret2
    exact ⟨ret_sv hx.out.1.symm (by rw [hx.out.2]; rfl), Below.refl _ _⟩
  · obtain ⟨k, rfl⟩ : ∃ k : Nat, n = k := ⟨n.toNat, by omega⟩
    have hx := Lib.hid (hex_pos k)
    go_enter Tryd.func24, Tryd.ntmps24
    go_wp2_with (go_at_call 42; refine (format16_any k _ (by omega) hc).mono ?_; rintro e w' ⟨rfl, hb⟩)
    go_ret2
    exact ⟨ret_sv hx.out.1.symm (by rw [hx.out.2]; rfl), by assumption⟩

set_option maxHeartbeats 400000 in
theorem rhextext_any (n : Int) (w : World) (h0 : -9223372036854775808 ≤ n) (h1 : n ≤ 9223372036854775807) :
    Calls Tryd.prog 25 #[.int .i64 n] w fun e w' => e = .returned (.tuple #[.string (hexS n), .int .i64 (hexE n)]) ∧ Below w.heap.size w w' := by
  by_cases h : n < 0
  · have hx := Lib.hid (hex_neg h)
    go_enter Tryd.func25, Tryd.ntmps25
    go_wp2
    go_ret2
    exact ⟨ret_sv hx.out.1.symm (by rw [hx.out.2]; rfl), Below.refl _ _⟩
  · obtain ⟨k, rfl⟩ : ∃ k : Nat, n = k := ⟨n.toNat, by omega⟩
    have hx := Lib.hid (hex_pos k)
    have hw : IntKind.u64.wrap (k : Int) = k := by rw [IntKind.wrap_u64]; omega
    go_enter Tryd.func25, Tryd.ntmps25
    go_wp2_with (go_at_call 43; refine (told16_any k _ (by omega)).mono ?_; rintro e w' ⟨rfl, m, rfl⟩)
    go_ret2
    exact ⟨ret_sv hx.out.1.symm (by rw [hx.out.2]; rfl), below_drewN' _ _⟩

theorem itoa_pos (k : Nat) (h : k < 18446744073709551616) : (⟨(told 10 k).toArray⟩ : ByteArray) = ⟨(Lib.itoa (k : Int)).toArray⟩ := by
  rw [Lib.itoa_nonneg, told_dec k h]
theorem itoa_minus (k : Nat) (h1 : 1 ≤ k) (h : k < 18446744073709551616) : ({ data := #[45] } : ByteArray) ++ { data := (told 10 k).toArray } = ⟨(Lib.itoa (-(k : Int))).toArray⟩ := by
  rw [Lib.itoa_neg k h1, told_dec k h]
  apply ByteArray.ext
  simp

set_option maxHeartbeats 400000 in
theorem rtext_any (n : Int) (w : World) (h0 : -9223372036854775808 ≤ n) (h1 : n ≤ 9223372036854775807) :
    Calls Tryd.prog 28 #[.int .i64 n] w fun e w' => e = .returned (.string ⟨(Lib.itoa n).toArray⟩) ∧ Below w.heap.size w w' := by
  by_cases h : n < 0
  · obtain ⟨k, rfl⟩ : ∃ k : Nat, n = -(k : Int) := ⟨n.natAbs, by omega⟩
    have hx := Lib.hid (itoa_minus k (by omega) (by omega))
    have hw : IntKind.u64.wrap (-IntKind.u64.wrap (-(k : Int))) = k := by rw [IntKind.wrap_u64, IntKind.wrap_u64]; omega
    have hlen : (told 10 k).length ≤ 20 := told_len k (by omega)
    go_enter Tryd.func28, Tryd.ntmps28
    go_wp2_with (go_at_call 43; refine (told10_any k _ (by omega)).mono ?_; rintro e w' ⟨rfl, m, rfl⟩)
    go_ret
    exact ⟨by rw [← hx.out]; rfl, below_drewN' _ _⟩
  · obtain ⟨k, rfl⟩ : ∃ k : Nat, n = k := ⟨n.toNat, by omega⟩
    have hx := Lib.hid (itoa_pos k (by omega))
    have hw : IntKind.u64.wrap (k : Int) = k := by rw [IntKind.wrap_u64]; omega
    go_enter Tryd.func28, Tryd.ntmps28
    go_wp2_with (go_at_call 43; refine (told10_any k _ (by omega)).mono ?_; rintro e w' ⟨rfl, m, rfl⟩)
    go_ret
    exact ⟨by rw [← hx.out]; rfl, below_drewN' _ _⟩
end Go.Proofs.YtcjemgnnmopgbaaDoor
