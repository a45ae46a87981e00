/- Whatever the act: both rings go the same way. -/
import Derived.Test.YtfiiiefhchbhlaaDo
import Derived.Test.YtfiiiefhchbhlaaDo2
import Derived.Test.YtfiiiefhchbhlaaDo3
import Derived.Test.YtfiiiefhchbhlaaDo4
import Derived.Test.YtfiiiefhchbhlaaDo5
namespace Go.Proofs.Ytfiiiefhchbhlaa
open Go.RowKit

theorem do_any (r g S N c : Nat) (pv pb : Option Addr) (nb cb : Nat) (kind n : Int) (q bs : List Int) (w : World) (h : Holds w r g S q) (hN : q.length = N) (hq : QAt r g w (.slice pv N c) q) (hb : VbAt r g w (.slice pb nb cb) bs) (hnb : bs.length = nb) (hnb2 : nb ≤ 140737488355328) (hn2 : n ≤ 9223372036854775807) :
    Calls Try.prog 10 #[.pointer (some ⟨r, 0, none⟩), .agg #[.int .i64 S, .slice pv N c], .agg #[.int .i64 kind, .int .i64 n, .slice pb nb cb]] w fun e w' => ∃ v' q', e = .returned (.tuple #[.agg #[.int .i64 S, v'], .bool true]) ∧ DoP r g S w w' v' q' := by
  rcases (by omega : (kind.tmod 6 + 6) % 6 = 0 ∨ (kind.tmod 6 + 6) % 6 = 1 ∨ (kind.tmod 6 + 6) % 6 = 2 ∨ (kind.tmod 6 + 6) % 6 = 3 ∨ (kind.tmod 6 + 6) % 6 = 4 ∨ (kind.tmod 6 + 6) % 6 = 5) with hk | hk | hk | hk | hk | hk
  · exact do_write0 r g S N c pv pb nb cb kind n q bs w h hN hq hb hnb hnb2 hk
  · exact do_write1 r g S N c pv pb nb cb kind n q bs w h hN hq hb hnb hnb2 hk
  · exact do_read r g S N c pv pb nb cb kind n q w h hN hq hk
  · exact do_skip r g S N c pv pb nb cb kind n q w h hN hq hk
  · exact do_line r g S N c pv pb nb cb kind n q w h hN hq hk hn2
  · by_cases hn : n.tmod 9 = 0
    · exact do_clear r g S N c pv pb nb cb kind n q w h hN hk hn
    · exact do_none r g S N c pv pb nb cb kind n q w h hq hk hn
end Go.Proofs.Ytfiiiefhchbhlaa
