/- Whether a connection stays open, on both sides. -/
import Derived.Test.YthakldcfpndabaaGreatDoorHHas
namespace Go.Proofs.YthakldcfpndabaaGreatDoor
open Go.RowKit

def connName : ByteArray := ⟨#[67, 111, 110, 110, 101, 99, 116, 105, 111, 110]⟩
def closeName : ByteArray := ⟨#[99, 108, 111, 115, 101]⟩
def keepOut (k : Int) (fs : List (B × B)) : Bool := decide (k = 1) && !hasB (valsB fs connName) closeName
set_option maxRecDepth 20000 in
set_option maxHeartbeats 4000000 in
theorem pkeep (k : Int) (fs : List (B × B)) (p : Option Addr) (n c : Nat) (hn : fs.length = n) (w : World) (hF : FAt w p fs) (hsz : szB fs) (hnn : n ≤ 1048576) (hmx : ∃ m : Int, w.cell? ⟨1, 0, none⟩ = some (.int .i64 m)) :
    Calls Tryz.prog 7 #[.int .i64 k, .slice p n c] w fun e w' => e = .returned (.bool (keepOut k fs)) ∧ Below w.heap.size w w' := by
  have h0 := phas fs p n c hn connName closeName w hF hsz (by decide) hnn (by decide) hmx
  have HH := hid h0
  obtain ⟨Y, hY⟩ : ∃ Y, hasB (valsB fs connName) closeName = Y := ⟨_, rfl⟩
  rw [hY] at HH
  unfold keepOut
  rw [hY]
  unfold connName closeName at HH
  have HB := hid (Below.refl w.heap.size w)
  clear hY h0 hF hsz hn hmx
  by_cases hk : k = 1
  · subst hk
    go_enter Tryz.func7, Tryz.ntmps7
    go_wp2_with (go_at_call 18; (with_reducible refine HH.out.mono ?_); rintro e w1 ⟨rfl, hb⟩; have HB1 := hid hb; clear hb)
    go_ret
    exact ⟨rfl, HB1.out⟩
  · have hk2 : (k == 1) = false := by simpa using hk
    rw [show decide (k = 1) = false from decide_eq_false hk]
    go_enter Tryz.func7, Tryz.ntmps7
    go_wp2
    go_ret
    exact ⟨rfl, HB.out⟩
set_option maxRecDepth 20000 in
set_option maxHeartbeats 4000000 in
theorem dkeep (k : Int) (fs : List (B × B)) (p : Option Addr) (n c : Nat) (hn : fs.length = n) (w : World) (hF : FAt w p fs) (hsz : szB fs) (hnn : n ≤ 1048576) :
    Calls Tryz.prog 8 #[.int .i64 k, .slice p n c] w fun e w' => e = .returned (.bool (keepOut k fs)) ∧ Below w.heap.size w w' := by
  have h0 := dhas fs p n c hn connName closeName w hF hsz (by decide) hnn (by decide)
  have HH := hid h0
  obtain ⟨Y, hY⟩ : ∃ Y, hasB (valsB fs connName) closeName = Y := ⟨_, rfl⟩
  rw [hY] at HH
  unfold keepOut
  rw [hY]
  unfold connName closeName at HH
  have HB := hid (Below.refl w.heap.size w)
  clear hY h0 hF hsz hn
  by_cases hk : k = 1
  · subst hk
    go_enter Tryz.func8, Tryz.ntmps8
    go_wp2_with (go_at_call 19; (with_reducible refine HH.out.mono ?_); rintro e w1 ⟨rfl, hb⟩; have HB1 := hid hb; clear hb)
    go_ret
    exact ⟨rfl, HB1.out⟩
  · have hk2 : (k == 1) = false := by simpa using hk
    rw [show decide (k = 1) = false from decide_eq_false hk]
    go_enter Tryz.func8, Tryz.ntmps8
    go_wp2
    go_ret
    exact ⟨rfl, HB.out⟩
end Go.Proofs.YthakldcfpndabaaGreatDoor
