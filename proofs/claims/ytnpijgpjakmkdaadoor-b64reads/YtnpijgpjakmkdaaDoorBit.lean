/- The document's bit of bytes. -/
import Derived.Test.YtnpijgpjakmkdaaDoorDigit
namespace Go.Proofs.YtnpijgpjakmkdaaDoor
open Go.RowKit

theorem wraps_i64 (n : Int) (h0 : 0 ≤ n) (h1 : n < 2 ^ 62) : IntKind.i64.wrap n = n := by rw [IntKind.wrap_i64]; omega
theorem wraps_u32 (n : Int) (h0 : 0 ≤ n) (h1 : n < 2 ^ 32) : IntKind.u32.wrap n = n := by rw [IntKind.wrap_u32]; omega
theorem and1 (y : Int) (h0 : 0 ≤ y) (h1 : y < 256) : bits .and .i64 y 1 = y % 2 := bits_mask .i64 62 (by decide) wraps_i64 1 (by decide) y h0 (by omega)
theorem and63 (y : Int) (h0 : 0 ≤ y) (h1 : y < 4294967296) : bits .and .u32 y 63 = y % 64 := bits_mask .u32 32 (by decide) wraps_u32 6 (by decide) y h0 (by omega)
theorem or8 (B c : Int) (h0 : 0 ≤ c) (h1 : c < 256) : bits .or .u32 (B * 256 % 4294967296) c = B * 256 % 4294967296 + c :=
  bits_join .u32 32 (by decide) wraps_u32 8 _ c (by omega) (by omega) (by omega) h0 (by omega) (by omega)
theorem or6 (B c : Int) (h0 : 0 ≤ c) (h1 : c < 64) : bits .or .u32 (B * 64 % 4294967296) c = B * 64 % 4294967296 + c :=
  bits_join .u32 32 (by decide) wraps_u32 6 _ c (by omega) (by omega) (by omega) h0 (by omega) (by omega)
theorem or6i (p c : Int) (hp : 0 ≤ p) (hp1 : p < 65536) (h0 : 0 ≤ c) (h1 : c < 64) : bits .or .i64 (p * 64) c = p * 64 + c :=
  bits_join .i64 62 (by decide) wraps_i64 6 _ c (by omega) (by omega) (by omega) h0 (by omega) (by omega)
theorem getD_bd {bs : List Int} (h : Oct bs) (k : Nat) : 0 ≤ bs.getD k 0 ∧ bs.getD k 0 < 256 := by
  rw [List.getD_eq_getElem?_getD]
  cases hk : bs[k]? with
  | none => simp
  | some x => simpa using h x (List.mem_of_getElem? hk)
theorem bitAt_none (bs : List Int) (j : Nat) (h : bs.length ≤ j / 8) : bitAt bs j = 0 := by
  unfold bitAt
  rw [List.getD_eq_getElem?_getD, List.getElem?_eq_none h]
  simp
theorem bitAt_is (bs : List Int) (j q r : Nat) (x : Int) (hq : j / 8 = q) (hr : j % 8 = r) (hx : bs.getD q 0 = x) : bitAt bs j = x / 2 ^ (7 - r) % 2 := by
  unfold bitAt
  rw [hq, hr, hx]
set_option maxRecDepth 20000 in
set_option maxHeartbeats 2000000 in
theorem bit_core (p : Option Addr) (N c : Nat) (bs : List Int) (w : World) (hv : ArgAt w (.slice p N c) bs) (hN : bs.length = N) (ho : Oct bs) (j : Nat) (hj : j ≤ 1200000000000000) :
    Calls Tryd.prog 16 #[.slice p N c, .int .i64 j] w fun e w' => e = .returned (.int .i64 (bitAt bs j)) ∧ w' = w := by
  obtain ⟨q, hq⟩ : ∃ q, j / 8 = q := ⟨_, rfl⟩
  obtain ⟨r, hr⟩ : ∃ r, j % 8 = r := ⟨_, rfl⟩
  have hq' : (j : Int) / 8 = q := by omega
  have hr' : (j : Int) % 8 = r := by omega
  have hj' : (j : Int) ≤ 1200000000000000 := by omega
  by_cases hlt : q < N
  · obtain ⟨b, o, rfl, _, c0⟩ := hv.cell hN q hlt
    have hx := getD_bd ho q
    obtain ⟨x, hxx⟩ : ∃ x, bs.getD q 0 = x := ⟨_, rfl⟩
    rw [hxx] at c0 hx
    have HE := hid (bitAt_is bs j q r x hq hr hxx)
    obtain ⟨hx0, hx1⟩ := hx
    have hlt' : (q : Int) < N := by omega
    have hr8 : r = 0 ∨ r = 1 ∨ r = 2 ∨ r = 3 ∨ r = 4 ∨ r = 5 ∨ r = 6 ∨ r = 7 := by omega
    clear hq hr hxx hv hN ho hj hlt
    rcases hr8 with rfl | rfl | rfl | rfl | rfl | rfl | rfl | rfl
    all_goals
      go_enter Tryd.func16, Tryd.ntmps16
      go_wp2
      go_ret
      rw [HE.out]
      refine ⟨ret_int ((and1 _ (by omega) (by omega)).trans ?_), rfl⟩
      simp
  · have HE := hid (bitAt_none bs j (by omega))
    have hlt' : N ≤ q := by omega
    clear hq hr hv hN ho hj hlt
    go_enter Tryd.func16, Tryd.ntmps16
    go_wp2
    go_ret
    refine ⟨?_, rfl⟩
    rw [HE.out]
    rfl
theorem bit_sum (p : Option Addr) (N c : Nat) (bs : List Int) (w : World) (hv : ArgAt w (.slice p N c) bs) (hN : bs.length = N) (ho : Oct bs) (i t : Nat) (hj : i + t ≤ 1200000000000000) :
    Calls Tryd.prog 16 #[.slice p N c, .int .i64 ((i : Int) + (t : Int))] w fun e w' => e = .returned (.int .i64 (bitAt bs (i + t))) ∧ w' = w := by
  have := bit_core p N c bs w hv hN ho (i + t) hj
  rwa [Int.natCast_add] at this
end Go.Proofs.YtnpijgpjakmkdaaDoor
