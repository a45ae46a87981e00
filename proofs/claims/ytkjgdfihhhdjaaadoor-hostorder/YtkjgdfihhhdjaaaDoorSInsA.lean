/- A shape is laid into the row of shapes: slices.Insert. -/
import Derived.Test.YtkjgdfihhhdjaaaDoorSTab
import Derived.Test.YtkjgdfihhhdjaaaDoorSIns
namespace Go.Proofs.YtkjgdfihhhdjaaaDoor
open Go.RowKit

def setL (cur : Array Value) : Nat → List Value → Array Value
  | _, [] => cur
  | o, v :: r => setL (cur.setIfInBounds o v) (o + 1) r
theorem heap_sets {b : Nat} {T : TypeId} {fr : Nat × Nat} : ∀ (vs : List Value) (o : Nat) (w : World) (cur : Array Value), w.heap[b]? = some (.cells cur T fr) → (w.setCells b o vs).heap[b]? = some (.cells (setL cur o vs) T fr)
  | [], _, _, _, h => h
  | v :: r, o, w, cur, h => by
    unfold World.setCells setL
    exact heap_sets r (o + 1) _ _ (heap_set1 h)
theorem setL_size : ∀ (vs : List Value) (o : Nat) (cur : Array Value), (setL cur o vs).size = cur.size
  | [], _, _ => rfl
  | v :: r, o, cur => by
    unfold setL
    rw [setL_size r]
    simp
theorem setL_at : ∀ (vs : List Value) (o : Nat) (cur : Array Value) (j : Nat), (setL cur o vs)[j]? = if o ≤ j ∧ j < o + vs.length ∧ j < cur.size then vs[j - o]? else cur[j]?
  | [], o, cur, j => by
    rw [if_neg (by simp; omega)]
    rfl
  | v :: r, o, cur, j => by
    unfold setL
    rw [setL_at r]
    have hs : (cur.setIfInBounds o v).size = cur.size := by simp
    rw [hs]
    by_cases h1 : o + 1 ≤ j ∧ j < o + 1 + r.length ∧ j < cur.size
    · rw [if_pos h1, if_pos ⟨by omega, by rw [List.length_cons]; omega, h1.2.2⟩, show j - o = (j - (o + 1)) + 1 by omega]
      simp
    · rw [if_neg h1]
      by_cases h2 : o ≤ j ∧ j < o + (v :: r).length ∧ j < cur.size
      · rw [if_pos h2]
        have : j = o := by rw [List.length_cons] at h2; omega
        subst this
        simp [h2.2.2]
      · rw [if_neg h2]
        rw [Array.getElem?_setIfInBounds]
        by_cases h3 : o = j
        · subst h3
          rw [if_pos rfl]
          have : ¬ o < cur.size := fun h => h2 ⟨by omega, by rw [List.length_cons]; omega, h⟩
          rw [if_neg this]
          exact (Array.getElem?_eq_none (by omega)).symm
        · rw [if_neg h3]
theorem kept_sets (b : Nat) : ∀ (vs : List Value) (o : Nat) (w : World), Kept (fun i => i = b) w (w.setCells b o vs)
  | [], _, _ => Kept.refl _ _
  | v :: r, o, w => (kept_set w b o v).trans (kept_sets b r (o + 1) _) (fun _ _ h => h)
/-- The row with a shape more at place i. -/
def insC (cs : List Value) (i : Nat) (u : Value) : List Value := cs.take i ++ u :: cs.drop i
theorem insC_at {cs : List Value} {i : Nat} (u : Value) (hi : i ≤ cs.length) (j : Nat) : (insC cs i u)[j]? = if j < i then cs[j]? else if j = i then some u else cs[j - 1]? := by
  unfold insC
  by_cases h1 : j < i
  · rw [if_pos h1, List.getElem?_append_left (by simp; omega), List.getElem?_take, if_pos h1]
  · rw [if_neg h1, List.getElem?_append_right (by simp; omega)]
    have : (cs.take i).length = i := by simp; omega
    rw [this]
    by_cases h2 : j = i
    · subst h2
      simp
    · rw [if_neg h2, show j - i = (j - i - 1) + 1 by omega, List.getElem?_cons_succ, List.getElem?_drop]
      congr 1
      omega
theorem insC_len {cs : List Value} {i : Nat} (u : Value) (hi : i ≤ cs.length) : (insC cs i u).length = cs.length + 1 := by
  unfold insC
  simp
  omega
theorem strC_ins (s : B) (L : List B) (i : Nat) : strC (L.take i ++ s :: L.drop i) = insC (strC L) i (.string (str s)) := by
  unfold strC insC
  simp
/-- The cells of a row are told one by one. -/
theorem take_cells {cur : Array Value} {n : Nat} {xs : List Value} (hx : xs.length = n) (h : ∀ j, j < n → cur[j]? = xs[j]?) : cur.toList.take (n * 1) = xs := by
  apply List.ext_getElem?
  intro j
  rw [List.getElem?_take]
  by_cases hj : j < n
  · rw [if_pos (by omega), Array.getElem?_toList, h j hj]
  · rw [if_neg (by omega), List.getElem?_eq_none (by omega)]
theorem row_cells {cur : Array Value} {n : Nat} {xs : List Value} (h : cur.toList.take (n * 1) = xs) {j : Nat} (hj : j < n) : cur[j]? = xs[j]? := by
  rw [← h, List.getElem?_take, if_pos (by omega), Array.getElem?_toList]
theorem zero_size (n : Nat) : (Builtin.zeroCells (Value.string ⟨#[]⟩).cells n).size = n := by
  unfold Builtin.zeroCells
  simp [Value.cells]
def InsAns (v : Value) (L : List B) (i : Nat) (s : B) (w : World) (e : Ending) (w' : World) : Prop := ∃ v', e = .returned v' ∧ OwnS w' 0 v' (L.take i ++ s :: L.drop i) ∧ Kept (fun i => v.ownBlock = some i) w w' ∧ (v'.ownBlock = v.ownBlock ∨ v'.ownBlock = some w.heap.size)
theorem ins_any (L : List B) (s : B) (i vb : Nat) (p : Option Addr) (n c : Nat) (hn : L.length = n) (hi : i ≤ n) (hnn : n ≤ 100000) (w : World) (ho : OwnS w 0 (.slice p n c) L) (hv : w.heap[vb]? = some (.cells #[.string (str s)] 9 (0, 0))) (hvb : (Value.slice p n c).ownBlock ≠ some vb) :
    Calls Tryd.prog 55 #[.slice p n c, .int .i64 (i : Int), .slice (some ⟨vb, 0, none⟩) 1 1] w fun e w' => InsAns (.slice p n c) L i s w e w' := by
  have hcl : (strC L).length = n := by unfold strC; rw [List.length_map]; exact hn
  have hvs : ∀ j v, [Value.string (str s)][j]? = some v → w.cell? ⟨vb, 0 + j, none⟩ = some v := by
    intro j v hj
    have hj0 : j = 0 := by
      have := (List.getElem?_eq_some_iff.1 hj).1
      simp at this
      exact this
    subst hj0
    simp at hj
    subst hj
    simp only [World.cell?, hv]
    rfl
  have h1v : ∀ v ∈ [Value.string (str s)], v.oneCell' = true := by intro v hv; simp at hv; subst hv; rfl
  have h1c : ∀ v ∈ strC L, v.oneCell' = true := by
    intro v hv
    unfold strC at hv
    obtain ⟨t, _, rfl⟩ := List.mem_map.1 hv
    rfl
  have htl : (strC (L.take i ++ s :: L.drop i)) = insC (strC L) i (.string (str s)) := strC_ins s L i
  have hil := insC_len (.string (str s)) (show i ≤ (strC L).length by omega)
  have htn : (L.take i ++ s :: L.drop i).length = n + 1 := by simp; omega
  rcases ho.2 with ⟨hnil, h0⟩ | ⟨g, cap, cur, hsl, _, hg, hle, hcap, hcs, htk⟩
  · -- no row yet
    have hn0 : n = 0 := by omega
    subst hn0
    injection hnil with e1 _ e3
    subst e1
    subst e3
    obtain rfl : i = 0 := by omega
    obtain rfl : L = [] := List.eq_nil_of_length_eq_zero hn
    refine (Any2.slices_Insert_string_end_grow Tryd.lays22 none 0 0 vb 0 1 1 [] [.string (str s)] w (by omega) (by omega) (by omega) (by omega) rfl rfl (fun _ => rfl) (fun _ e => by cases e) hvs h1v).mono ?_
    rintro e w' ⟨rfl, rfl⟩
    have hge := grownCap_ge w (0 + 1) 0 9
    have hmx := grownCap_le_maxLen w (0 + 1) 0 9 (by unfold maxLen; omega)
    refine ⟨_, rfl, ⟨rfl, .inr ⟨w.heap.size, _, _, rfl, Nat.zero_le _, heap_alloc_new w.drew _, hge, hmx, ?_, ?_⟩⟩, Below.kept (below_out (below_drewH w 1) (below_new w.drew _)), .inr rfl⟩
    · rw [Array.size_append, zero_size, Nat.mul_one]
      show 1 + (grownCap w (0 + 1) 0 9 - (0 + 1)) = grownCap w (0 + 1) 0 9
      omega
    · refine take_cells rfl (fun j hj => ?_)
      obtain rfl : j = 0 := by simpa using hj
      rw [Array.getElem?_append_left (by simp)]
      rfl
  · rw [hn] at hsl hle htk
    injection hsl with e1 _ e3
    subst e1
    subst e3
    have hc0 : cur.size = c := by omega
    have hcsx : ∀ j v, (strC L)[j]? = some v → w.cell? ⟨g, 0 + j, none⟩ = some v := by
      intro j v hj
      have hlt : j < n := by rw [← hcl]; exact (List.getElem?_eq_some_iff.1 hj).1
      have := row_cells htk hlt
      simp only [World.cell?, hg]
      rw [Nat.zero_add]
      simpa using this.trans hj
    have hsome : ∀ j, j < c → (w.cell? ⟨g, 0 + j, none⟩).isSome = true := by
      intro j hj
      simp only [World.cell?, hg, Nat.zero_add]
      simp [hc0, hj]
    have hfz : ∀ j, w.frozen? ⟨g, j, none⟩ = false := by
      intro j
      simp only [World.frozen?, hg]
      simp
    have hgv : g ≠ vb := fun e => hvb (by rw [e]; rfl)
    by_cases hroom : n + 1 ≤ c
    · by_cases hin : i = n
      · subst hin
        refine (Any2.slices_Insert_string_end_room Tryd.lays22 g 0 i c vb 0 1 1 [.string (str s)] w (by omega) hroom (by unfold maxLen at hcap; omega) rfl (fun j hj => by have := hsome (i + j) (by omega); rwa [Nat.zero_add] at this ⊢) (fun j _ => hfz _) hvs h1v).mono ?_
        rintro e w' ⟨rfl, rfl⟩
        refine ⟨_, rfl, ⟨by rw [htl, hil, hcl, htn, Nat.mul_one], .inr ⟨g, c, _, by rw [htn], Nat.zero_le _, heap_sets _ _ _ _ hg, by rw [htn]; exact hroom, hcap, by rw [setL_size, hcs], ?_⟩⟩, (kept_sets g _ _ w).mono (fun k _ h => by rw [h]; rfl), .inl rfl⟩
        rw [htn, htl]
        refine take_cells (by rw [hil, hcl]) (fun j hj => ?_)
        rw [setL_at, insC_at _ (by omega)]
        by_cases h1 : j = i
        · subst h1
          rw [if_pos ⟨by omega, by simp, by omega⟩, if_neg (Nat.lt_irrefl _), if_pos rfl, Nat.zero_add, Nat.sub_self]
          rfl
        · rw [if_neg (by simp; omega), if_pos (by omega)]
          exact row_cells htk (by omega)
      · have hlt : i < n := by omega
        refine (Any2.slices_Insert_string_shift Tryd.lays22 g 0 n c i vb 0 1 1 (strC L) [.string (str s)] w hlt (by omega) hroom (by unfold maxLen at hcap; omega) (fun e => hgv e.symm) hcl rfl hcsx (fun j hj => hsome j (by omega)) (fun j _ => hfz _) hvs h1c h1v 9 9 1 c (by simp only [World.shape?, hv]; rfl) (by simp only [World.shape?, hg]; rw [hc0]) (by omega) (by simp only [World.frozen?, hv]; rfl) (by simp only [World.frozen?, hv]; rfl)).mono ?_
        rintro e w' ⟨rfl, rfl⟩
        refine ⟨_, rfl, ⟨by rw [htl, hil, hcl, htn, Nat.mul_one], .inr ⟨g, c, _, by rw [htn], Nat.zero_le _, heap_sets _ _ _ _ (heap_sets _ _ w.drew _ hg), by rw [htn]; exact hroom, hcap, by rw [setL_size, setL_size, hcs], ?_⟩⟩, ?_, .inl rfl⟩
        · rw [htn, htl]
          refine take_cells (by rw [hil, hcl]) (fun j hj => ?_)
          rw [setL_at, setL_at, setL_size, insC_at _ (by omega), List.length_drop, hcl]
          by_cases h1 : j = i
          · subst h1
            rw [if_pos ⟨by omega, by simp, by omega⟩, if_neg (Nat.lt_irrefl _), if_pos rfl, Nat.zero_add, Nat.sub_self]
            rfl
          · rw [if_neg (by simp; omega)]
            by_cases h2 : j < i
            · rw [if_neg (by omega), if_pos h2]
              exact row_cells htk (by omega)
            · rw [if_pos ⟨by omega, by omega, by omega⟩, if_neg h2, if_neg h1, List.getElem?_drop]
              congr 1
              omega
        · exact (((Below.kept (below_drewH w 1)).trans (kept_sets g _ _ _) (fun k _ h => h)).trans (kept_sets g _ _ _) (fun k _ h => h)).mono (fun k _ h => by rw [h]; rfl)
    · by_cases hin : i = n
      · subst hin
        refine (Any2.slices_Insert_string_end_grow Tryd.lays22 (some ⟨g, 0, none⟩) i c vb 0 1 1 (strC L) [.string (str s)] w (by omega) hle (by omega) (by omega) hcl rfl (fun e => by cases e) (fun a ha j v hj => by
          injection ha with ha
          subst ha
          rw [add_off]
          have := hcsx j v hj
          rwa [Nat.zero_add] at this) hvs h1v).mono ?_
        rintro e w' ⟨rfl, rfl⟩
        have hge := grownCap_ge w (i + 1) c 9
        have hmx := grownCap_le_maxLen w (i + 1) c 9 (by unfold maxLen; omega)
        refine ⟨_, rfl, ⟨by rw [htl, hil, hcl, htn, Nat.mul_one], .inr ⟨w.heap.size, _, _, by rw [htn]; rfl, Nat.zero_le _, heap_alloc_new w.drew _, by rw [htn]; exact hge, hmx, ?_, ?_⟩⟩, Below.kept (below_out (below_drewH w 1) (below_new w.drew _)), .inr rfl⟩
        · rw [Array.size_append, zero_size, List.size_toArray, List.length_append, hcl, Nat.mul_one]
          simp
          show _ = grownCap w (i + 1) c 9
          have hge' : i + 1 ≤ grownCap w (i + 1) c 9 := hge
          show i + 1 + (grownCap w (i + 1) c 9 - (i + 1)) = _
          omega
        · rw [htn, htl]
          refine take_cells (by rw [hil, hcl]) (fun j hj => ?_)
          rw [insC_at _ (by omega), Array.getElem?_append_left (by simp [hcl]; omega), List.getElem?_toArray]
          by_cases h1 : j = i
          · subst h1
            rw [if_neg (Nat.lt_irrefl _), if_pos rfl, List.getElem?_append_right (by omega), hcl, Nat.sub_self]
            rfl
          · rw [if_pos (by omega), List.getElem?_append_left (by omega)]
      · have hlt : i < n := by omega
        refine (Any2.slices_Insert_string_grow Tryd.lays22 g 0 n c i vb 0 1 1 (strC L) [.string (str s)] w hlt (by omega) hle (by omega) (by omega) hcl rfl hcsx hvs h1c h1v).mono ?_
        rintro e w' ⟨rfl, rfl⟩
        have hge := grownCap_ge w (n + 1) c 9
        have hmx := grownCap_le_maxLen w (n + 1) c 9 (by unfold maxLen; omega)
        refine ⟨_, rfl, ⟨by rw [htl, hil, hcl, htn, Nat.mul_one], .inr ⟨w.heap.size, _, _, by rw [htn]; rfl, Nat.zero_le _, heap_sets _ _ _ _ (show (World.drew _).heap[w.heap.size]? = _ from heap_sets _ _ _ _ (show (World.drew _).heap[w.heap.size]? = _ from heap_alloc_new w _)), by rw [htn]; exact hge, hmx, ?_, ?_⟩⟩, ?_, .inr rfl⟩
        · rw [setL_size, setL_size, Array.size_append, Array.size_append, zero_size, zero_size, List.size_toArray, List.length_take, hcl, Nat.mul_one]
          show min i n + (n + 1 - i) + (grownCap w (n + 1) c 9 - (n + 1)) = grownCap w (n + 1) c 9
          omega
        · rw [htn, htl]
          refine take_cells (by rw [hil, hcl]) (fun j hj => ?_)
          rw [setL_at, setL_at, setL_size, insC_at _ (by omega), List.length_drop, hcl]
          rw [Array.size_append, Array.size_append, zero_size, zero_size, List.size_toArray, List.length_take, hcl]
          by_cases h1 : j = i
          · subst h1
            rw [if_neg (by omega), if_pos ⟨by omega, by simp, by omega⟩, if_neg (Nat.lt_irrefl _), if_pos rfl, Nat.sub_self]
            rfl
          · by_cases h2 : j < i
            · rw [if_neg (by omega), if_neg (by simp; omega), if_pos h2]
              rw [Array.append_assoc, Array.getElem?_append_left (by simp [hcl]; omega), List.getElem?_toArray, List.getElem?_take, if_pos h2]
            · rw [if_pos ⟨by omega, by omega, by omega⟩, if_neg h2, if_neg h1, List.getElem?_drop]
              congr 1
              omega
        · refine ((((Below.kept (F := fun k => k = w.heap.size) (below_new w _)).trans (Below.kept (below_drewH _ 1)) (fun _ _ h => h)).trans (kept_sets w.heap.size _ _ _) (fun k _ h => h)).trans (Below.kept (below_drewH _ 1)) (fun _ _ h => h)).trans (kept_sets w.heap.size _ _ _) (fun k _ h => h) |>.mono (fun k hk h => ?_)
          omega
end Go.Proofs.YtkjgdfihhhdjaaaDoor
