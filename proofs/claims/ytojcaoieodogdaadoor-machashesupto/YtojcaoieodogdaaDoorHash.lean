/- A sum under way in memory; New, Len, Clone of package sha. -/
import Derived.Test.YtojcaoieodogdaaDoorMix
namespace Go.Proofs.YtojcaoieodogdaaDoor
open Go.RowKit

def first8 : List Int := [1779033703, 3144134277, 1013904242, 2773480762, 1359893119, 2600822924, 528734635, 1541459225]
def hcells (st rest : List Int) (n : Nat) : Array Value := (st.map (Value.int .u32) ++ rest.map (Value.int .u8) ++ [Value.int .i64 n]).toArray
theorem size55 : (Tryd.prog.info? 61).map (·.size) = some 73 := by kernel_rfl
structure HashAt (w : World) (h : Nat) (st rest : List Int) (n : Nat) : Prop where
  row : RowAt w h (hcells st rest n) 61
  st : st.length = 8
  rest : rest.length = 64
theorem hcells_size {st rest : List Int} {n : Nat} (h1 : st.length = 8) (h2 : rest.length = 64) : (hcells st rest n).size = 73 := by simp [hcells, h1, h2]
theorem hcells_one (st rest : List Int) (n : Nat) : (hcells st rest n).all (·.oneCell') = true := by simp [hcells, Value.oneCell']
section
variable {w w' : World} {h : Nat} {st rest : List Int} {n : Nat}
theorem HashAt.count (H : HashAt w h st rest n) : w.cell? ⟨h, 72, none⟩ = some (.int .i64 n) := by
  rw [H.row.cell 72]
  simp only [hcells, List.getElem?_toArray]
  rw [List.getElem?_append_right (by simp [H.st, H.rest])]
  simp [H.st, H.rest]
theorem HashAt.of_heap (H : HashAt w h st rest n) (e : w'.heap[h]? = w.heap[h]?) : HashAt w' h st rest n := ⟨e.trans H.row, H.st, H.rest⟩
theorem HashAt.below (H : HashAt w h st rest n) (hb : Below w.heap.size w w') : HashAt w' h st rest n := ⟨H.row.below hb, H.st, H.rest⟩
theorem HashAt.lt (H : HashAt w h st rest n) : h < w.heap.size := H.row.lt
end
theorem first_any (w : World) : Calls Tryd.prog 40 #[] w fun e w' => e = .returned (.agg (ws first8)) ∧ Below w.heap.size w w' := by
  go_enter Tryd.func40, Tryd.ntmps40
  go_wp2_with (refine wpList_store_row rfl 57 _ _ rfl _ (ws first8) rfl rfl 57 (ws (List.replicate 8 0)) (heap_alloc_new _ _) (by rw [size52, ws_size]; rfl) (by rw [ws_size, ws_size]; rfl) (ws_one _) ?_)
  refine bodyPost_ret (results_cell_row rfl _ _ _ 57 (ws first8) _ _ rfl (RowAt.setRow (row_new _ _ _) _) und52 rfl (by rw [size52, ws_size]; rfl)) rfl ?_
  exact ⟨rfl, below_setRow ((Below.refl _ _).alloc (Nat.le_refl _) _) (Nat.le_refl _) _⟩
theorem new_any (w : World) : Calls Tryd.prog 9 #[] w fun e w' => ∃ h, e = .returned (.pointer (some ⟨h, 0, none⟩)) ∧ w.heap.size ≤ h ∧ HashAt w' h first8 (List.replicate 64 0) 0 ∧ Below w.heap.size w w' := by
  go_enter Tryd.func9, Tryd.ntmps9
  go_wp2_with (go_at_call 40; with_reducible refine (first_any _).mono ?_; rintro e w1 ⟨rfl, hb1⟩)
  have e : Array.foldl (fun (cs : Array Value) (x : Value × Nat) => cs.setIfInBounds x.snd x.fst) Tryd.zeroCells61 (ws first8).zipIdx 0 (ws first8).size = hcells first8 (List.replicate 64 0) 0 := by kernel_rfl
  rw [e]
  go_ret
  exact ⟨_, rfl, hb1.size, ⟨row_new _ _ _, rfl, by simp⟩, hb1.alloc hb1.size _⟩
theorem len_any {w : World} {h : Nat} {st rest : List Int} {n : Nat} (H : HashAt w h st rest n) : Calls Tryd.prog 14 #[.pointer (some ⟨h, 0, none⟩)] w fun e w' => e = .returned (.int .i64 n) ∧ w' = w := by
  have c := H.count
  go_enter Tryd.func14, Tryd.ntmps14
  go_wp2
  go_ret
  exact ⟨rfl, rfl⟩
theorem clone_any {w : World} {h : Nat} {st rest : List Int} {n : Nat} (H : HashAt w h st rest n) : Calls Tryd.prog 49 #[.pointer (some ⟨h, 0, none⟩)] w fun e w' => ∃ g, e = .returned (.pointer (some ⟨g, 0, none⟩)) ∧ w.heap.size ≤ g ∧ HashAt w' g st rest n ∧ Below w.heap.size w w' := by
  have HH := hid H
  clear H
  go_enter Tryd.func49, Tryd.ntmps49
  go_wp2_with (first
    | (refine wpList_load_row rfl 61 _ rfl _ rfl 61 (hcells st rest n) _ _ HH.out.row Tryd.underlying61 rfl (by rw [size55, hcells_size HH.out.st HH.out.rest]) ?_)
    | (refine wpList_store_as rfl 61 _ _ rfl _ (hcells st rest n) rfl rfl 61 _ (row_new _ _ _) (by rw [size55, hcells_size HH.out.st HH.out.rest]) (by rw [hcells_size HH.out.st HH.out.rest]; rfl) (hcells_one _ _ _) ?_; intro W hst))
  go_ret
  exact ⟨_, rfl, Nat.le_refl _, ⟨hst.row, HH.out.st, HH.out.rest⟩, hst.below ((Below.refl _ _).alloc (Nat.le_refl _) _) (Nat.le_refl _)⟩
end Go.Proofs.YtojcaoieodogdaaDoor
