/- The document's new head. -/
import Derived.Test.YtfmkkkkdfkjdlaaDoorHByte4
namespace Go.Proofs.YtfmkkkkdfkjdlaaDoor
open Go.RowKit

theorem results_hd2 {fn : Func} {p u : Tmp} (h : fn.results = #[.cell p 32, .tmp u]) (tmps : Array Value) (w : World) (g : Nat) (t : TypeId) (cs : Array Value) (fr : Nat × Nat)
    (hp : tmps.getD p undef = .pointer (some ⟨g, 0, none⟩)) (hg : w.heap[g]? = some (.cells cs t fr)) (hs : cs.size = 7) : (results fn tmps).run Tryd.prog w = .ok (.tuple #[.agg cs, tmps.getD u undef]) w := by
  have hl := run_loadVar_row (P := Tryd.prog) w g t 32 cs fr _ hg Tryd.underlying32 rfl (by rw [hd_size, hs])
  rw [results_cell_tmp h, hp]
  simp [asAddr, Result.andThen, hl]
def newH (resp : Bool) (most : Int) : HS := ⟨resp, most, [], [], 0, false, 0⟩
set_option maxRecDepth 20000 in
set_option maxHeartbeats 4000000 in
theorem newR_ok (resp : Bool) (most : Int) (w : World) (h1 : ¬ most < 1) (h2 : ¬ (65536 : Int) < most) :
    Calls Tryd.prog 16 #[.bool resp, .int .i64 most] w fun e w' => e = .returned (.tuple #[headV (newH resp most) (.slice none 0 0), .int .i64 0]) ∧ Below w.heap.size w w' := by
  unfold headV newH
  dsimp only
  rw [show str [] = ⟨#[]⟩ from rfl]
  go_enter Tryd.func16, Tryd.ntmps16
  go_wp2
  refine bodyPost_ret (results_hd2 rfl _ _ _ 32 _ (0, 0) rfl (heap_alloc_new w _) rfl) rfl ?_
  exact ⟨rfl, below_new w _⟩
set_option maxRecDepth 20000 in
set_option maxHeartbeats 4000000 in
theorem newR_no (resp : Bool) (most : Int) (w : World) (h1 : most < 1 ∨ (65536 : Int) < most) :
    Calls Tryd.prog 16 #[.bool resp, .int .i64 most] w fun e w' => e = .returned (.tuple #[headV (newH false 0) (.slice none 0 0), .int .i64 1]) ∧ Below w.heap.size w w' := by
  unfold headV newH
  dsimp only
  rw [show str [] = ⟨#[]⟩ from rfl]
  go_enter Tryd.func16, Tryd.ntmps16
  rcases h1 with h1 | h1
  · go_wp2
    refine bodyPost_ret (results_hd2 rfl _ _ _ 32 _ (0, 0) rfl (heap_alloc_new w _) rfl) rfl ?_
    exact ⟨rfl, below_new w _⟩
  · have h2 : ¬ most < 1 := by omega
    go_wp2
    refine bodyPost_ret (results_hd2 rfl _ _ _ 32 _ (0, 0) rfl (heap_alloc_new w _) rfl) rfl ?_
    exact ⟨rfl, below_new w _⟩
end Go.Proofs.YtfmkkkkdfkjdlaaDoor
