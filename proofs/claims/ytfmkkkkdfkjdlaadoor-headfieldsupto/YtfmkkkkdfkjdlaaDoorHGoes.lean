/- The document's head: a line that goes on, its error's number. -/
import Derived.Test.YtfmkkkkdfkjdlaaDoorHStatus
namespace Go.Proofs.YtfmkkkkdfkjdlaaDoor
open Go.RowKit

def goesB (resp : Bool) (ln : Nat) (s : B) (wh : Bool) : Bool := if 0 < ln then fieldB s wh else if resp then statusB s wh else requestB s wh
def kindN (ln : Nat) : Nat := if 0 < ln then 21 else 20
structure Seven (w : World) (g : Nat) (c0 c1 c2 c3 c4 c5 c6 : Value) : Prop where
  a0 : w.cell? ⟨g, 0, none⟩ = some c0
  a1 : w.cell? ⟨g, 1, none⟩ = some c1
  a2 : w.cell? ⟨g, 2, none⟩ = some c2
  a3 : w.cell? ⟨g, 3, none⟩ = some c3
  a4 : w.cell? ⟨g, 4, none⟩ = some c4
  a5 : w.cell? ⟨g, 5, none⟩ = some c5
  a6 : w.cell? ⟨g, 6, none⟩ = some c6
  z : ∀ j, w.frozen? ⟨g, j, none⟩ = false
theorem seven {w : World} {g : Nat} {c0 c1 c2 c3 c4 c5 c6 : Value} {T : TypeId} (h : w.heap[g]? = some (.cells #[c0, c1, c2, c3, c4, c5, c6] T (0, 0))) : Seven w g c0 c1 c2 c3 c4 c5 c6 := by
  refine ⟨?_, ?_, ?_, ?_, ?_, ?_, ?_, fun j => by simp [World.frozen?, h]⟩ <;> simp [World.cell?, h]
set_option maxRecDepth 20000 in
set_option maxHeartbeats 8000000 in
theorem goes_any (resp dn : Bool) (most len er : Int) (pl : Option Addr) (ln cp : Nat) (L : ByteArray) (s : B) (wh : Bool) (hs : s.length ≤ 70368744177664) (w : World) :
    Calls Tryd.prog 57 #[.agg #[.bool resp, .int .i64 most, .slice pl ln cp, .string L, .int .i64 len, .bool dn, .int .i64 er], .string (str s), .bool wh] w fun e w' => e = .returned (.bool (goesB resp ln s wh)) ∧ Below w.heap.size w w' := by
  obtain ⟨R, hR⟩ : ∃ R, goesB resp ln s wh = R := ⟨_, rfl⟩
  have HR := hid hR
  have HFd := hid (field_any s wh hs)
  have HSt := hid (status_any s wh hs)
  have HRq := hid (request_any s wh hs)
  obtain ⟨S, hS⟩ : ∃ S, str s = S := ⟨_, rfl⟩
  rw [hS] at HFd HSt HRq
  rw [hS, hR]
  clear hS hR
  have HB := hid (below_new w (.cells #[.bool resp, .int .i64 most, .slice pl ln cp, .string L, .int .i64 len, .bool dn, .int .i64 er] 32 (0, 0)))
  go_enter Tryd.func57, Tryd.ntmps57
  by_cases h0 : 0 < ln
  · have h02 : (0 : Int) < (ln : Int) := by omega
    have HV := hid (show R = fieldB s wh from by rw [← HR.out]; unfold goesB; rw [if_pos h0])
    rw [← HV.out] at HFd
    go_wp2_with (go_at_call 76; (with_reducible refine (HFd.out _).mono ?_); rintro e w1 ⟨rfl, hw1⟩; subst w1)
    go_ret
    exact ⟨rfl, HB.out⟩
  · obtain rfl : ln = 0 := by omega
    cases resp with
    | true =>
      have HV := hid (show R = statusB s wh from by rw [← HR.out]; rfl)
      rw [← HV.out] at HSt
      go_wp2_with (go_at_call 77; (with_reducible refine (HSt.out _).mono ?_); rintro e w1 ⟨rfl, hw1⟩; subst w1)
      go_ret
      exact ⟨rfl, HB.out⟩
    | false =>
      have HV := hid (show R = requestB s wh from by rw [← HR.out]; rfl)
      rw [← HV.out] at HRq
      go_wp2_with (go_at_call 78; (with_reducible refine (HRq.out _).mono ?_); rintro e w1 ⟨rfl, hw1⟩; subst w1)
      go_ret
      exact ⟨rfl, HB.out⟩
set_option maxRecDepth 20000 in
set_option maxHeartbeats 8000000 in
theorem kind_any (resp dn : Bool) (most len er : Int) (pl : Option Addr) (ln cp : Nat) (L : ByteArray) (w : World) :
    Calls Tryd.prog 58 #[.agg #[.bool resp, .int .i64 most, .slice pl ln cp, .string L, .int .i64 len, .bool dn, .int .i64 er]] w fun e w' => e = .returned (.int .i64 (kindN ln : Int)) ∧ Below w.heap.size w w' := by
  have HB := hid (below_new w (.cells #[.bool resp, .int .i64 most, .slice pl ln cp, .string L, .int .i64 len, .bool dn, .int .i64 er] 32 (0, 0)))
  go_enter Tryd.func58, Tryd.ntmps58
  by_cases h0 : 0 < ln
  · have h02 : (0 : Int) < (ln : Int) := by omega
    have HV := hid (show kindN ln = 21 from by unfold kindN; rw [if_pos h0])
    go_wp2
    go_ret
    exact ⟨by rw [HV.out]; rfl, HB.out⟩
  · obtain rfl : ln = 0 := by omega
    go_wp2
    go_ret
    exact ⟨rfl, HB.out⟩
end Go.Proofs.YtfmkkkkdfkjdlaaDoor
