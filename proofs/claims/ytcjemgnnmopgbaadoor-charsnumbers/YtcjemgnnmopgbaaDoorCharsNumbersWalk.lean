/- The law CharsNumbers returns true for every text, bound and number; what was in memory stays; where the tables of Go's library and errors.errorType are laid. -/
import Derived.Test.YtcjemgnnmopgbaaDoorTexts
import Derived.Test.YtcjemgnnmopgbaaDoorAs
namespace Go.Proofs.YtcjemgnnmopgbaaDoor
open Go.RowKit

/-- What the walks ask of the package variables. -/
structure Env (w : World) : Prop where
  err : w.cell? ⟨0, 0, none⟩ = some (.iface 78 (.agg #[.pointer (some ⟨7, 29, none⟩)]))
  bit : w.cell? ⟨4, 15, none⟩ = some (.int .u8 4)
  tab : Lib.TabIs Tryd.prog w "internal/strconv.uint64pow10" .u64 Lib.pow10Tab
theorem lt_of_cell {w : World} {b o : Nat} {v : Value} (h : w.cell? ⟨b, o, none⟩ = some v) : b < w.heap.size := by
  rcases Nat.lt_or_ge b w.heap.size with h' | h'
  · exact h'
  · simp [World.cell?, Array.getElem?_eq_none h'] at h
theorem Env.below {w w' : World} (h : Env w) (hb : Below w.heap.size w w') : Env w' :=
  ⟨(hb.cell (p := ⟨0, 0, none⟩) (lt_of_cell h.err)).trans h.err, (hb.cell (p := ⟨4, 15, none⟩) (lt_of_cell h.bit)).trans h.bit, Lib.tabBelow_of_tabIs h.tab _ hb⟩
structure Since (w0 w : World) : Prop where
  env : Env w
  below : Below w0.heap.size w0 w
theorem Since.next {w0 w w' : World} (h : Since w0 w) (hb : Below w.heap.size w w') : Since w0 w' :=
  ⟨h.env.below hb, h.below.trans (hb.mono h.below.size)⟩

theorem num_any (k : Int) (w : World) (h : Env w) : Calls Tryd.prog 26 #[errV k] w fun e w' => e = .returned (.int .i64 k) ∧ Below w.heap.size w w' := by
  by_cases hk : k = 0
  · subst hk; exact num_nil w
  · rw [show errV k = .iface 49 (.int .i64 k) by simp [errV, hk]]
    exact num_err k w h.err

set_option maxHeartbeats 2000000 in
theorem charsNumbers_walk (s : ByteArray) (most n : Int) (w : World) (hs : s.size ≤ maxLen) (hm0 : -9223372036854775808 ≤ most) (hm : most ≤ 9223372036854775807) (h0 : -9223372036854775808 ≤ n) (h1 : n ≤ 9223372036854775807) (hE : Env w) :
    Calls Tryd.prog 4 #[.string s, .int .i64 most, .int .i64 n] w fun e w' => e = .returned (.bool true) ∧ Below w.heap.size w w' := by
  have hS : Since w w := ⟨hE, Below.refl _ _⟩
  clear hE
  go_enter Tryd.func4, Tryd.ntmps4
  go_wp2_with (first
    | (go_at_call 20; refine (decimal_any _ _ _ hs hm hm0).mono ?_; rintro e w' ⟨rfl, rfl⟩)
    | (go_at_call 21; refine (rdecimal_any _ _ _ hs hm hm0).mono ?_; rintro e w' ⟨rfl, rfl⟩)
    | (go_at_call 22; refine (hexnumber_any _ _ _ hs hm hm0).mono ?_; rintro e w' ⟨rfl, rfl⟩)
    | (go_at_call 23; refine (rhexnumber_any _ _ _ hs hm hm0).mono ?_; rintro e w' ⟨rfl, rfl⟩)
    | (go_at_call 24; refine (hextext_any _ _ h0 h1 hS.env.bit).mono ?_; rintro e w' ⟨rfl, hb⟩; replace hS := hS.next hb; clear hb)
    | (go_at_call 25; refine (rhextext_any _ _ h0 h1).mono ?_; rintro e w' ⟨rfl, hb⟩; replace hS := hS.next hb; clear hb)
    | (go_at_call 26; refine (num_any _ _ hS.env).mono ?_; rintro e w' ⟨rfl, hb⟩; replace hS := hS.next hb; clear hb)
    | (go_at_call 27; refine (text_any _ _ h0 h1 hS.env.tab).mono ?_; rintro e w' ⟨rfl, hb⟩; replace hS := hS.next hb; clear hb)
    | (go_at_call 28; refine (rtext_any _ _ h0 h1).mono ?_; rintro e w' ⟨rfl, hb⟩; replace hS := hS.next hb; clear hb)
    | (go_at_call 19; refine (sure_any _ hS.env.tab).mono ?_; rintro e w' ⟨rfl, hb⟩; replace hS := hS.next hb; clear hb))
  go_ret
  exact ⟨rfl, hS.below⟩
end Go.Proofs.YtcjemgnnmopgbaaDoor
