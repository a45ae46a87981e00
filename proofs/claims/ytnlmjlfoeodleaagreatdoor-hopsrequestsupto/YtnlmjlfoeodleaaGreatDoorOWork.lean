/- What must come whatever the input is; fields copied. -/
import Derived.Test.YtnlmjlfoeodleaaGreatDoorOReq
namespace Go.Proofs.YtnlmjlfoeodleaaGreatDoor
open Go.RowKit

set_option maxRecDepth 20000 in
set_option maxHeartbeats 8000000 in
theorem twin14 (fs : List (B × B)) (p : Option Addr) (n c : Nat) (hn : fs.length = n) (w : World) (hF : FAt w p fs) (hnn : n ≤ 1048576) : Calls Tryz.prog 20 #[.slice p n c] w fun e w' => ∃ q d, e = .returned (.slice q n d) ∧ OwnF w' w.heap.size (.slice q n d) fs ∧ Below w.heap.size w w' := by
  obtain ⟨i0, hi0, hz0, hz1, hz2⟩ := info_parts infoF
  cases p with
  | none =>
    have hfs : fs = [] := by
      cases fs with
      | nil => rfl
      | cons f l => obtain ⟨g, o, e, _⟩ := hF 0 f rfl; cases e
    subst hfs
    subst hn
    clear hF
    go_enter Tryz.func20, Tryz.ntmps20
    go_wp2
    go_ret
    exact ⟨none, 0, rfl, OwnF.nil _ _, by first | exact Below.refl _ _ | exact (Below.refl _ _).drew⟩
  | some ad =>
    have HNw := hid hF.newsW
    have HL := hid hn
    clear hF hn
    go_enter Tryz.func20, Tryz.ntmps20
    go_wp2_with (at_builtin; refine wpList_append_own_at w rfl (.tmp 4) (.tmp 5) 33 rfl w.heap.size 88 i0 _ 2 32 Tryz.underlying33 hi0 hz0 hz1 hz2 rfl (by decide) (.slice none 0 0) 0 [] (by go_simp) (OwnF.nil _ _) ad n c (fldC fs) (by go_simp) (by rw [fldC_len, HL.out]) HNw.out (fldC_oneW fs) (by unfold maxLen; omega) (by omega) (Nat.le_refl _) ?_; intro v' w1 hown hgr _ _; rw [Nat.zero_add, List.nil_append] at hown; obtain ⟨q, d, rfl⟩ := own_slice hown; have HO := hid (show OwnF w1 w.heap.size (.slice q n d) fs from by unfold OwnF; rw [HL.out]; exact hown); have HB := hid (below_grown hgr); clear hown hgr)
    go_ret
    exact ⟨q, d, rfl, HO.out, HB.out⟩
def wkF : List (B × B) := [([67, 111, 110, 110, 101, 99, 116, 105, 111, 110], [99, 108, 111, 115, 101, 44, 32, 88, 45, 65]), ([88, 45, 65], [49]), ([88, 45, 66], [50])]
def wkG : List (B × B) := [([72, 111, 115, 116], [97]), ([84, 69], [116, 114, 97, 105, 108, 101, 114, 115])]
def wkR : List (B × B) := [([72, 111, 115, 116], [97]), ([88, 45, 70, 111, 114, 119, 97, 114, 100, 101, 100, 45, 70, 111, 114], [55]), ([86, 105, 97], [49, 46, 48, 32, 116, 117, 114, 110, 115, 116, 105, 108, 101])]
theorem wk_strip : stripF wkF = [([88, 45, 66], [50])] := by decide +kernel
theorem wk_on : onQ [71, 69, 84] wkG [55] 0 0 = wkR := by decide +kernel
theorem wk_great : greatE wkR.length (reqE [71, 69, 84] [47] 1 wkR) = 0 := by decide +kernel
theorem wk_fat {W : World} {fs : List (B × B)} {g : Nat} {cs : Array Value} (h : W.heap[g]? = some (.cells cs 88 (0, 0))) (hc : (fldC fs).toArray = cs) : FAt W (some ⟨g, 0, none⟩) fs := by
  subst hc
  exact arr_fat (Z := []) (by rw [List.append_nil]; exact h)
theorem wk_cells {W : World} {g : Nat} (h : BlkF W g wkR) : (W.cell? ⟨g, 2, none⟩ = some (.string (⟨#[88, 45, 70, 111, 114, 119, 97, 114, 100, 101, 100, 45, 70, 111, 114]⟩ : ByteArray)) ∧ W.cell? ⟨g, 3, none⟩ = some (.string (⟨#[55]⟩ : ByteArray))) ∧ W.cell? ⟨g, 4, none⟩ = some (.string (⟨#[86, 105, 97]⟩ : ByteArray)) ∧ W.cell? ⟨g, 5, none⟩ = some (.string (⟨#[49, 46, 48, 32, 116, 117, 114, 110, 115, 116, 105, 108, 101]⟩ : ByteArray)) := by
  have h2 : W.heap[g]? = some (.cells #[.string ⟨#[72, 111, 115, 116]⟩, .string ⟨#[97]⟩, .string ⟨#[88, 45, 70, 111, 114, 119, 97, 114, 100, 101, 100, 45, 70, 111, 114]⟩, .string ⟨#[55]⟩, .string ⟨#[86, 105, 97]⟩, .string ⟨#[49, 46, 48, 32, 116, 117, 114, 110, 115, 116, 105, 108, 101]⟩] 88 (0, 0)) := h
  refine ⟨⟨?_, ?_⟩, ?_, ?_⟩ <;> simp [World.cell?, h2]
set_option maxRecDepth 20000 in
set_option maxHeartbeats 16000000 in
theorem works14 (w : World) (hE : EnvP w) (hmx : ∃ m : Int, w.cell? ⟨2, 0, none⟩ = some (.int .i64 m)) :
    Calls Tryz.prog 19 #[] w fun e w' => e = .returned (.bool true) ∧ Below w.heap.size w w' := by
  have hb0 := below_new w (.cells #[.string ⟨#[67, 111, 110, 110, 101, 99, 116, 105, 111, 110]⟩, .string ⟨#[99, 108, 111, 115, 101, 44, 32, 88, 45, 65]⟩, .string ⟨#[88, 45, 65]⟩, .string ⟨#[49]⟩, .string ⟨#[88, 45, 66]⟩, .string ⟨#[50]⟩] 88 (0, 0))
  have HB0 := hid hb0
  have HSt := hid (pstrip wkF (some ⟨w.heap.size, 0, none⟩) 3 3 rfl (w.alloc (.cells #[.string ⟨#[67, 111, 110, 110, 101, 99, 116, 105, 111, 110]⟩, .string ⟨#[99, 108, 111, 115, 101, 44, 32, 88, 45, 65]⟩, .string ⟨#[88, 45, 65]⟩, .string ⟨#[49]⟩, .string ⟨#[88, 45, 66]⟩, .string ⟨#[50]⟩] 88 (0, 0))) (wk_fat (heap_alloc_new w _) rfl) (by unfold szN wkF; decide) (by decide) (hmx.elim fun m h => ⟨m, cell_keep hb0 h⟩))
  rw [wk_strip] at HSt
  have HRq := hid (show ∀ W : World, Below w.heap.size w W → _ from fun W hb => preq [71, 69, 84] [47] 0 wkG (some ⟨W.heap.size, 0, none⟩) 2 2 rfl [55] 0 (W.alloc (.cells #[.string ⟨#[72, 111, 115, 116]⟩, .string ⟨#[97]⟩, .string ⟨#[84, 69]⟩, .string ⟨#[116, 114, 97, 105, 108, 101, 114, 115]⟩] 88 (0, 0))) (wk_fat (heap_alloc_new W _) rfl) (by unfold szN wkG; decide) (by decide) (by decide) (by decide) (by decide) (by decide) (by decide) (hE.next (below_out hb (below_new _ _))) (hmx.elim fun m h => ⟨m, cell_keep (below_out hb (below_new _ _)) h⟩))
  rw [wk_on] at HRq
  have HRs := hid (show ∀ W : World, Below w.heap.size w W → Calls Tryz.prog 21 #[.agg #[.string (⟨#[71, 69, 84]⟩ : ByteArray), .string (⟨#[47]⟩ : ByteArray), .int .i64 0, .slice (some ⟨W.heap.size, 0, none⟩) 2 2], .string (⟨#[55]⟩ : ByteArray), .int .i64 0] (W.alloc (.cells #[.string ⟨#[72, 111, 115, 116]⟩, .string ⟨#[97]⟩, .string ⟨#[84, 69]⟩, .string ⟨#[116, 114, 97, 105, 108, 101, 114, 115]⟩] 88 (0, 0))) fun e w' => ∃ g, e = .returned (.tuple #[.agg #[.string (⟨#[71, 69, 84]⟩ : ByteArray), .string (⟨#[47]⟩ : ByteArray), .int .i64 1, .slice (some ⟨g, 0, none⟩) 3 3], .nilIface]) ∧ BlkF w' g wkR ∧ Below (W.alloc (.cells #[.string ⟨#[72, 111, 115, 116]⟩, .string ⟨#[97]⟩, .string ⟨#[84, 69]⟩, .string ⟨#[116, 114, 97, 105, 108, 101, 114, 115]⟩] 88 (0, 0))).heap.size (W.alloc (.cells #[.string ⟨#[72, 111, 115, 116]⟩, .string ⟨#[97]⟩, .string ⟨#[84, 69]⟩, .string ⟨#[116, 114, 97, 105, 108, 101, 114, 115]⟩] 88 (0, 0))) w' from fun W hb => (HRq.out W hb).mono (by
    rintro e w' (⟨h1, _⟩ | ⟨_, g, rfl, _, h3, h4⟩)
    · exact absurd wk_great h1
    · exact ⟨g, rfl, h3, h4⟩))
  clear hb0 hE hmx HRq
  go_enter Tryz.func19, Tryz.ntmps19
  go_wp2_with (first | (go_at_call 36; (with_reducible refine HSt.out.mono ?_); rintro e w1 ⟨v1, rfl, ho, hb⟩; obtain ⟨q1, d1, rfl⟩ := own_slice ho; obtain ⟨g1, o1, rfl, k1, _⟩ := OwnF.at (j := 0) ho rfl; have HB1 := hid (below_out HB0.out hb); have K1 := hid (show w1.cell? ⟨g1, o1, none⟩ = some (.string (⟨#[88, 45, 66]⟩ : ByteArray)) from k1); clear hb ho HSt HB0 k1) | (go_at_call 21; (with_reducible refine (HRs.out _ HB1.out).mono ?_); rintro e w2 ⟨g2, rfl, hbk, hb⟩; have HB2 := hid (below_out (below_out HB1.out (below_new _ _)) hb); have hn2 := below_new w2 (.cells #[.string (⟨#[71, 69, 84]⟩ : ByteArray), .string (⟨#[47]⟩ : ByteArray), .int .i64 1, .slice (some ⟨g2, 0, none⟩) 3 3] 54 (0, 0)); obtain ⟨⟨k2, k3⟩, k4, k5⟩ := wk_cells (hbk.next hn2); have k1 := cell_keep hn2 (cell_keep hb (cell_keep (below_new w1 _) K1.out)); clear hn2; clear hb hbk HRs))
  go_ret
  exact ⟨rfl, below_out HB2.out (below_new _ _)⟩
end Go.Proofs.YtnlmjlfoeodleaaGreatDoor
