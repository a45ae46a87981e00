/- Requests that go on: what is told, in plain lists; the program's small functions. -/
import Derived.Test.YtnlmjlfoeodleaaGreatDoorODFrm
import Derived.Test.YtnlmjlfoeodleaaGreatDoorWReq
namespace Go.Proofs.YtnlmjlfoeodleaaGreatDoor
open Go.RowKit

def expB : B := [69, 120, 112, 101, 99, 116]
def postB (m : B) : Bool := m == [80, 79, 83, 84] || m == [80, 85, 84] || m == [80, 65, 84, 67, 72]
def tellsB (m : B) (L : Int) : Bool := if postB m = true then decide (0 ≤ L) else decide (0 < L)
/-- The fields of a request that goes on. -/
def onQ1 (fs : List (B × B)) : List (B × B) := framF (delB (stripF fs) (str expB)) 0 0
def onQ2 (fs : List (B × B)) (cl : B) (k : Int) : List (B × B) := viaF (fwdF (onQ1 fs) cl) k
def onQ (m : B) (fs : List (B × B)) (cl : B) (k L : Int) : List (B × B) := if tellsB m L = true then onQ2 fs cl k ++ [(clB, Lib.itoa L)] else onQ2 fs cl k
def greatE (n e : Nat) : Nat := if 64 < n then 21 else if e = 22 then 22 else 0
theorem doc_tells (m : B) (L : Int) : (decide (0 < L) || (decide (L = 0) && postB m)) = tellsB m L := by
  unfold tellsB
  cases postB m with
  | true =>
    rw [if_pos rfl, Bool.and_true]
    by_cases h1 : 0 < L
    · rw [decide_eq_true h1, decide_eq_true (by omega : 0 ≤ L)]; rfl
    · by_cases h2 : L = 0
      · rw [decide_eq_true h2, decide_eq_true (by omega : 0 ≤ L)]; simp
      · rw [decide_eq_false h1, decide_eq_false h2, decide_eq_false (by omega)]; rfl
  | false => simp
theorem eql_errsO (w : World) (a b : Int) : (binOp .eql 29 (.iface 72 (.int .i64 a)) (.iface 72 (.int .i64 b))).run Tryz.prog w = .ok (.bool (a == b)) w := by
  obtain ⟨i, hi, hc⟩ : ∃ i, Tryz.prog.info? 72 = some i ∧ i.comparable = true := by
    have h : (Tryz.prog.info? 72).map (·.comparable) = some true := by kernel_rfl
    cases e : Tryz.prog.info? 72 with
    | none => rw [e] at h; cases h
    | some i => rw [e] at h; exact ⟨i, rfl, by simpa using h⟩
  have h : ∀ d, (Op.equalIn (d + 2) 29 (.iface 72 (.int .i64 a)) (.iface 72 (.int .i64 b))).run Tryz.prog w = .ok (a == b) w := fun d => by
    simp [Op.equalIn, run_underlying Tryz.underlying29, run_underlying Tryz.underlying72, typeInfo, hi, hc]
  simp only [binOp]
  simp [Op.equal, Op.maxDepth, h 9998]
theorem eql_noneO (w : World) (v : Value) : (binOp .eql 29 .nilIface (.iface 72 v)).run Tryz.prog w = .ok (.bool false) w := run_eql_iface_nil_left w 72 v Tryz.underlying29
set_option maxRecDepth 20000 in
set_option maxHeartbeats 4000000 in
theorem ptells (m : B) (L : Int) (w : World) : Calls Tryz.prog 41 #[.string (str m), .int .i64 L] w fun e w' => e = .returned (.bool (tellsB m L)) ∧ w' = w := by
  by_cases h0 : m = [80, 79, 83, 84]
  · have HT := hid (show tellsB m L = decide (0 ≤ L) from by unfold tellsB; rw [if_pos (by rw [h0]; decide)])
    rw [HT.out, h0]
    obtain ⟨S, hS⟩ : ∃ S, str [80, 79, 83, 84] = S := ⟨_, rfl⟩
    obtain rfl : (⟨#[80, 79, 83, 84]⟩ : ByteArray) = S := hS
    clear HT h0
    by_cases hL : 0 ≤ L
    · rw [decide_eq_true hL]
      go_enter Tryz.func41, Tryz.ntmps41
      go_wp2
      go_ret
      exact ⟨by simp, rfl⟩
    · rw [decide_eq_false hL]
      go_enter Tryz.func41, Tryz.ntmps41
      go_wp2
      go_ret
      exact ⟨by simp, rfl⟩
  by_cases h1 : m = [80, 85, 84]
  · have HT := hid (show tellsB m L = decide (0 ≤ L) from by unfold tellsB; rw [if_pos (by rw [h1]; decide)])
    rw [HT.out, h1]
    obtain ⟨S, hS⟩ : ∃ S, str [80, 85, 84] = S := ⟨_, rfl⟩
    obtain rfl : (⟨#[80, 85, 84]⟩ : ByteArray) = S := hS
    clear HT h0 h1
    by_cases hL : 0 ≤ L
    · rw [decide_eq_true hL]
      go_enter Tryz.func41, Tryz.ntmps41
      go_wp2
      go_ret
      exact ⟨by simp, rfl⟩
    · rw [decide_eq_false hL]
      go_enter Tryz.func41, Tryz.ntmps41
      go_wp2
      go_ret
      exact ⟨by simp, rfl⟩
  by_cases h2 : m = [80, 65, 84, 67, 72]
  · have HT := hid (show tellsB m L = decide (0 ≤ L) from by unfold tellsB; rw [if_pos (by rw [h2]; decide)])
    rw [HT.out, h2]
    obtain ⟨S, hS⟩ : ∃ S, str [80, 65, 84, 67, 72] = S := ⟨_, rfl⟩
    obtain rfl : (⟨#[80, 65, 84, 67, 72]⟩ : ByteArray) = S := hS
    clear HT h0 h1 h2
    by_cases hL : 0 ≤ L
    · rw [decide_eq_true hL]
      go_enter Tryz.func41, Tryz.ntmps41
      go_wp2
      go_ret
      exact ⟨by simp, rfl⟩
    · rw [decide_eq_false hL]
      go_enter Tryz.func41, Tryz.ntmps41
      go_wp2
      go_ret
      exact ⟨by simp, rfl⟩
  have HT := hid (show tellsB m L = decide (0 < L) from by unfold tellsB postB; rw [if_neg (by rw [beq_ne h0, beq_ne h1, beq_ne h2]; decide)])
  rw [HT.out]
  obtain ⟨S, hS⟩ : ∃ S, str m = S := ⟨_, rfl⟩
  obtain ⟨p0, q0⟩ := tl_ne hS h0
  replace p0 : (S.toList == (⟨#[80, 79, 83, 84]⟩ : ByteArray).toList) = false := p0
  obtain ⟨p1, q1⟩ := tl_ne hS h1
  replace p1 : (S.toList == (⟨#[80, 85, 84]⟩ : ByteArray).toList) = false := p1
  obtain ⟨p2, q2⟩ := tl_ne hS h2
  replace p2 : (S.toList == (⟨#[80, 65, 84, 67, 72]⟩ : ByteArray).toList) = false := p2
  rw [hS]
  clear HT hS h0 h1 h2
  by_cases hL : 0 < L
  · rw [decide_eq_true hL]
    go_enter Tryz.func41, Tryz.ntmps41
    go_wp2
    go_ret
    exact ⟨by simp, rfl⟩
  · rw [decide_eq_false hL]
    go_enter Tryz.func41, Tryz.ntmps41
    go_wp2
    go_ret
    exact ⟨by simp, rfl⟩
set_option maxRecDepth 20000 in
set_option maxHeartbeats 4000000 in
theorem pgreat (p : Option Addr) (n c e : Nat) (w : World) : Calls Tryz.prog 46 #[.slice p n c, errOf e] w fun r w' => r = .returned (errOf (greatE n e)) ∧ Below w.heap.size w w' := by
  have r0 := fun W => eql_noneO W (.int .i64 22)
  by_cases h1 : 64 < n
  · have HT := hid (show greatE n e = 21 from by unfold greatE; rw [if_pos h1])
    rw [HT.out]
    have h2 : (n : Int) > 64 := by omega
    go_enter Tryz.func46, Tryz.ntmps46
    go_wp2
    go_ret
    exact ⟨rfl, Below.refl _ _⟩
  · have h2 : ¬ (n : Int) > 64 := by omega
    by_cases h22 : e = 22
    · subst h22
      have HT := hid (show greatE n 22 = 22 from by unfold greatE; rw [if_neg h1, if_pos rfl])
      rw [HT.out]
      rw [show errOf 22 = .iface 72 (.int .i64 22) from rfl]
      have r8 := fun W => eql_errsO W 22 22
      go_enter Tryz.func46, Tryz.ntmps46
      go_wp2
      go_ret
      exact ⟨rfl, Below.refl _ _⟩
    · have HT := hid (show greatE n e = 0 from by unfold greatE; rw [if_neg h1, if_neg h22])
      rw [HT.out]
      by_cases h0 : e = 0
      · subst h0
        rw [show errOf 0 = .nilIface from rfl]
        go_enter Tryz.func46, Tryz.ntmps46
        go_wp2
        go_ret
        exact ⟨rfl, Below.refl _ _⟩
      · rw [show errOf 0 = .nilIface from rfl, errOf_pos h0]
        have r8 := fun W => eql_errsO W (e : Int) 22
        have h23 : ((e : Int) == 22) = false := by simp; omega
        have h24 : ¬ (e : Int) = 22 := by omega
        go_enter Tryz.func46, Tryz.ntmps46
        go_wp2
        go_ret
        exact ⟨rfl, Below.refl _ _⟩
end Go.Proofs.YtnlmjlfoeodleaaGreatDoor
