/- What must come whatever the input is: the framing of a request with one length, told twice. -/
import Derived.Test.YthakldcfpndabaaDoorFMsg
namespace Go.Proofs.YthakldcfpndabaaDoor
open Go.RowKit

theorem fat_oneF (w : World) (f : B × B) : FAt (w.alloc (.cells #[.string (str f.1), .string (str f.2)] 25 (0, 0))) (some ⟨w.heap.size, 0, none⟩) [f] := by
  intro j x hj
  have h := heap_alloc_new w (.cells #[.string (str f.1), .string (str f.2)] 25 (0, 0))
  cases j with
  | zero =>
    simp at hj
    subst hj
    refine ⟨_, _, rfl, ?_, ?_⟩
    · simp only [World.cell?, h]; rfl
    · simp only [World.cell?, h]; rfl
  | succ j => simp at hj
def sureF : B × B := ([67, 111, 110, 116, 101, 110, 116, 45, 76, 101, 110, 103, 116, 104], [53, 44, 32, 53])
theorem sure_frm : frmF 1 [sureF] 0 = ((1, 5), 0) := by decide +kernel
def MxL (w : World) : Prop := ∃ m : Int, w.cell? ⟨2, 0, none⟩ = some (.int .i64 m)
theorem MxL.next {w w' : World} (h : MxL w) (hb : Below w.heap.size w w') : MxL w' := ⟨h.choose, cell_keep hb h.choose_spec⟩
set_option maxRecDepth 20000 in
set_option maxHeartbeats 8000000 in
theorem sure11_any (w : World) (hmx : MxL w) : Calls Tryd.prog 26 #[] w fun e w' => e = .returned (.bool true) ∧ Below w.heap.size w w' := by
  have hF := fat_oneF w sureF
  have hB0 := below_new w (.cells #[.string (str sureF.1), .string (str sureF.2)] 25 (0, 0))
  have hQ := prequest ⟨#[]⟩ ⟨#[]⟩ 1 [sureF] (some ⟨w.heap.size, 0, none⟩) 1 1 rfl _ hF (fun f hf => by simp at hf; subst hf; decide) (by decide) (hmx.next hB0)
  rw [sure_frm] at hQ
  have HQ := hid hQ
  have HB0 := hid hB0
  dsimp only [frmV, sureF, str] at HQ HB0
  rw [show errOf 0 = .nilIface from rfl] at HQ
  clear hF hB0 hQ hmx
  go_enter Tryd.func26, Tryd.ntmps26
  go_wp2_with (go_at_call 27; (with_reducible refine HQ.out.mono ?_); rintro e w1 ⟨rfl, hb⟩; have HB1 := hid (below_out (below_out HB0.out hb) (below_new w1 (.cells #[.int .i64 1, .int .i64 5] 34 (0, 0)))); clear hb HQ)
  go_ret
  exact ⟨rfl, HB1.out⟩
end Go.Proofs.YthakldcfpndabaaDoor
