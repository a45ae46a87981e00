/- The functions of words of package sha: each call returns the plain function's word and leaves the world as it was. -/
import Derived.Test.YtojcaoieodogdaaDoorProg
import Derived.WalkKit
import Derived.WalkSpells
import Derived.WalkLawsBesides
import Derived.Lib.Strings
import Derived.Deep.QuietTactic
import Derived.BigQuiet
namespace Go.Proofs.YtojcaoieodogdaaDoor
open Go.RowKit

def turn (x : Int) (n : Nat) : Int := bits .or .u32 (x / 2 ^ n) (x * 2 ^ (32 - n) % 4294967296)
def add32 (x y : Int) : Int := (x + y) % 4294967296
def xor32 (x y : Int) : Int := bits .xor .u32 x y
def and32 (x y : Int) : Int := bits .and .u32 x y
def not32 (x : Int) : Int := bits .xor .u32 4294967295 x
def ls0 (x : Int) : Int := xor32 (xor32 (turn x 7) (turn x 18)) (x / 8)
def ls1 (x : Int) : Int := xor32 (xor32 (turn x 17) (turn x 19)) (x / 1024)
def bs0 (x : Int) : Int := xor32 (xor32 (turn x 2) (turn x 13)) (turn x 22)
def bs1 (x : Int) : Int := xor32 (xor32 (turn x 6) (turn x 11)) (turn x 25)
def chW (x y z : Int) : Int := xor32 (and32 x y) (and32 (not32 x) z)
def majW (x y z : Int) : Int := xor32 (xor32 (and32 x y) (and32 x z)) (and32 y z)

theorem turned_any (x : Int) (n : Nat) (h1 : 1 ≤ n) (h2 : n ≤ 31) (w : World) :
    Calls Tryd.prog 63 #[.int .u32 x, .int .u64 n] w fun e w' => e = .returned (.int .u32 (turn x n)) ∧ w' = w := by
  go_enter Tryd.func63, Tryd.ntmps63
  go_wp2
  go_ret
  exact ⟨rfl, rfl⟩
theorem turned_lit (x : Int) (n : Nat) (i : Int) (hi : i = n) (h1 : 1 ≤ n) (h2 : n ≤ 31) (w : World) :
    Calls Tryd.prog 63 #[.int .u32 x, .int .u64 i] w fun e w' => e = .returned (.int .u32 (turn x n)) ∧ w' = w := by
  subst hi
  exact turned_any x n h1 h2 w
theorem ls0_any (x : Int) (w : World) : Calls Tryd.prog 62 #[.int .u32 x] w fun e w' => e = .returned (.int .u32 (ls0 x)) ∧ w' = w := by
  go_enter Tryd.func62, Tryd.ntmps62
  go_wp2_with (first
    | (go_at_call 63; with_reducible refine (turned_lit x 7 7 rfl (by decide) (by decide) _).mono ?_; rintro e w' ⟨rfl, rfl⟩)
    | (go_at_call 63; with_reducible refine (turned_lit x 18 18 rfl (by decide) (by decide) _).mono ?_; rintro e w' ⟨rfl, rfl⟩))
  go_ret
  exact ⟨rfl, rfl⟩
theorem ls1_any (x : Int) (w : World) : Calls Tryd.prog 61 #[.int .u32 x] w fun e w' => e = .returned (.int .u32 (ls1 x)) ∧ w' = w := by
  go_enter Tryd.func61, Tryd.ntmps61
  go_wp2_with (first
    | (go_at_call 63; with_reducible refine (turned_lit x 17 17 rfl (by decide) (by decide) _).mono ?_; rintro e w' ⟨rfl, rfl⟩)
    | (go_at_call 63; with_reducible refine (turned_lit x 19 19 rfl (by decide) (by decide) _).mono ?_; rintro e w' ⟨rfl, rfl⟩))
  go_ret
  exact ⟨rfl, rfl⟩
theorem bs0_any (x : Int) (w : World) : Calls Tryd.prog 58 #[.int .u32 x] w fun e w' => e = .returned (.int .u32 (bs0 x)) ∧ w' = w := by
  go_enter Tryd.func58, Tryd.ntmps58
  go_wp2_with (first
    | (go_at_call 63; with_reducible refine (turned_lit x 2 2 rfl (by decide) (by decide) _).mono ?_; rintro e w' ⟨rfl, rfl⟩)
    | (go_at_call 63; with_reducible refine (turned_lit x 13 13 rfl (by decide) (by decide) _).mono ?_; rintro e w' ⟨rfl, rfl⟩)
    | (go_at_call 63; with_reducible refine (turned_lit x 22 22 rfl (by decide) (by decide) _).mono ?_; rintro e w' ⟨rfl, rfl⟩))
  go_ret
  exact ⟨rfl, rfl⟩
theorem bs1_any (x : Int) (w : World) : Calls Tryd.prog 56 #[.int .u32 x] w fun e w' => e = .returned (.int .u32 (bs1 x)) ∧ w' = w := by
  go_enter Tryd.func56, Tryd.ntmps56
  go_wp2_with (first
    | (go_at_call 63; with_reducible refine (turned_lit x 6 6 rfl (by decide) (by decide) _).mono ?_; rintro e w' ⟨rfl, rfl⟩)
    | (go_at_call 63; with_reducible refine (turned_lit x 11 11 rfl (by decide) (by decide) _).mono ?_; rintro e w' ⟨rfl, rfl⟩)
    | (go_at_call 63; with_reducible refine (turned_lit x 25 25 rfl (by decide) (by decide) _).mono ?_; rintro e w' ⟨rfl, rfl⟩))
  go_ret
  exact ⟨rfl, rfl⟩
theorem ch_any (x y z : Int) (w : World) : Calls Tryd.prog 57 #[.int .u32 x, .int .u32 y, .int .u32 z] w fun e w' => e = .returned (.int .u32 (chW x y z)) ∧ w' = w := by
  go_enter Tryd.func57, Tryd.ntmps57
  go_wp2
  go_ret
  exact ⟨rfl, rfl⟩
theorem maj_any (x y z : Int) (w : World) : Calls Tryd.prog 59 #[.int .u32 x, .int .u32 y, .int .u32 z] w fun e w' => e = .returned (.int .u32 (majW x y z)) ∧ w' = w := by
  go_enter Tryd.func59, Tryd.ntmps59
  go_wp2
  go_ret
  exact ⟨rfl, rfl⟩
theorem rotr_any (x : Int) (n : Nat) (h1 : 1 ≤ n) (h2 : n ≤ 31) (w : World) :
    Calls Tryd.prog 54 #[.int .u32 x, .int .u64 n] w fun e w' => e = .returned (.int .u32 (turn x n)) ∧ w' = w := by
  go_enter Tryd.func54, Tryd.ntmps54
  go_wp2
  go_ret
  exact ⟨rfl, rfl⟩
theorem rotr_lit (x : Int) (n : Nat) (i : Int) (hi : i = n) (h1 : 1 ≤ n) (h2 : n ≤ 31) (w : World) :
    Calls Tryd.prog 54 #[.int .u32 x, .int .u64 i] w fun e w' => e = .returned (.int .u32 (turn x n)) ∧ w' = w := by
  subst hi
  exact rotr_any x n h1 h2 w
end Go.Proofs.YtojcaoieodogdaaDoor
