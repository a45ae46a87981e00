/- Codes under way of package mac: Reset, New, Write, Sum. -/
import Derived.Test.YtojcaoieodogdaaDoorMKey
namespace Go.Proofs.YtojcaoieodogdaaDoor
open Go.RowKit

def mcells (kb : List Int) (v : Value) : Array Value := (kb.map (Value.int .u8) ++ [v]).toArray
theorem size70 : (Tryd.prog.info? 70).map (·.size) = some 65 := by kernel_rfl
theorem mcells_size {kb : List Int} (h : kb.length = 64) (v : Value) : (mcells kb v).size = 65 := by simp [mcells, h]
structure MRow (w : World) (g : Nat) (kb : List Int) (v : Value) : Prop where
  row : RowAt w g (mcells kb v) 70
  len : kb.length = 64
section
variable {w w' : World} {g : Nat} {kb : List Int} {v : Value}
theorem MRow.below (H : MRow w g kb v) (hb : Below w.heap.size w w') : MRow w' g kb v := ⟨H.row.below hb, H.len⟩
theorem MRow.of_heap (H : MRow w g kb v) (e : w'.heap[g]? = w.heap[g]?) : MRow w' g kb v := ⟨e.trans H.row, H.len⟩
theorem MRow.lt (H : MRow w g kb v) : g < w.heap.size := H.row.lt
theorem MRow.inner (H : MRow w g kb v) : w.cell? ⟨g, 64, none⟩ = some v := by
  rw [H.row.cell 64]
  simp only [mcells, List.getElem?_toArray]
  rw [List.getElem?_append_right (by simp [H.len])]
  simp [H.len]
theorem MRow.load_key (H : MRow w g kb v) : (Instr.loadAt 59 (.pointer (some ⟨g, 0, none⟩))).run Tryd.prog w = .ok (.agg (bsv kb)) w := by
  refine load_part 59 64 5 (kb.map (Value.int .u8)) und35 (by rw [size35, List.length_map, H.len]) (fun j x hj => ?_)
  rw [Nat.zero_add, H.row.cell j]
  have hlt : j < (kb.map (Value.int .u8)).length := (List.getElem?_eq_some_iff.1 hj).1
  simp only [mcells, List.getElem?_toArray]
  rw [List.getElem?_append_left hlt]
  exact hj
theorem MRow.set (H : MRow w g kb v) (x : Value) : MRow (w.setCell ⟨g, 64, none⟩ x) g kb x := by
  refine ⟨?_, H.len⟩
  have := H.row.set 64 x
  have e : (mcells kb v).setIfInBounds 64 x = mcells kb x := by
    unfold mcells
    simp only [List.setIfInBounds_toArray]
    rw [List.set_append_right _ _ (by simp [H.len])]
    simp [H.len]
  rwa [e] at this
end
set_option maxRecDepth 20000 in
set_option maxHeartbeats 2000000 in
theorem reset_any {w : World} {g : Nat} {kb : List Int} {v : Value} (H : MRow w g kb v) (hK : KAt w) (h0 : 0 < g) :
    Calls Tryd.prog 35 #[.pointer (some ⟨g, 0, none⟩)] w fun e w' => ∃ h, e = .returned (.tuple #[]) ∧ w.heap.size ≤ h ∧ MRow w' g kb (.pointer (some ⟨h, 0, none⟩)) ∧ HoldsH w' h (xorB 54 kb) ∧ Turn g w w' := by
  have HH := hid H
  have HK := hid hK
  have HG := hid h0
  clear H hK h0
  go_enter Tryd.func35, Tryd.ntmps35
  go_wp2_with (first
    | (refine wpList_load_by rfl 59 _ rfl _ (.agg (bsv kb)) rfl HH.out.load_key ?_)
    | (go_at_call 48; (with_reducible refine (begun_any kb HH.out.len 54 _ HK.out).mono ?_); rintro e w1 ⟨h, rfl, hh, hH, hb⟩; have c64 := (HH.out.below hb).inner; have f64 := (HH.out.below hb).row.fz 64; have N1 : Hid (w.heap.size ≤ h ∧ HoldsH w1 h (xorB 54 kb) ∧ Below w.heap.size w w1 ∧ MRow w1 g kb v) := ⟨hh, hH, hb, HH.out.below hb⟩; clear hh hH hb))
  refine bodyPost_end (results_none rfl _ _ _) rfl ?_
  have hlt := HH.out.lt
  have h1 := N1.out.1
  have hne : h ≠ g := by omega
  refine ⟨h, rfl, h1, N1.out.2.2.2.set _, N1.out.2.1.of_heap (Below.heap_setCell _ _ _ _ hne), (Turn.of_below N1.out.2.2.1).setCell _ _⟩
/-- A code under way at block g, its sum at block h: the key's block and the bytes so far. -/
structure MacAt (w : World) (g h : Nat) (kb m : List Int) : Prop where
  row : MRow w g kb (.pointer (some ⟨h, 0, none⟩))
  hash : HoldsH w h (xorB 54 kb ++ m)
  ne : g ≠ h
section
variable {w w' : World} {g h x : Nat} {kb m : List Int}
theorem MacAt.below (H : MacAt w g h kb m) (hb : Below w.heap.size w w') : MacAt w' g h kb m := ⟨H.row.below hb, H.hash.below hb, H.ne⟩
theorem MacAt.turn (H : MacAt w g h kb m) (ht : Turn x w w') (hg : g ≠ x) (hh : h ≠ x) : MacAt w' g h kb m := ⟨H.row.of_heap (ht.block g H.row.lt hg), H.hash.turn ht hh, H.ne⟩
end
theorem foldl_set (l : List Value) : ∀ (cs : Array Value) (o : Nat), o + l.length ≤ cs.size → (l.zipIdx o).foldl (fun (cs : Array Value) (x : Value × Nat) => cs.setIfInBounds x.2 x.1) cs = (cs.toList.take o ++ l ++ cs.toList.drop (o + l.length)).toArray := by
  induction l with
  | nil => intro cs o h; simp
  | cons v l ih =>
    intro cs o h
    simp only [List.length_cons] at h
    simp only [List.zipIdx_cons, List.foldl_cons]
    rw [ih _ _ (by simp; omega)]
    congr 1
    simp only [Array.toList_setIfInBounds]
    apply List.ext_getElem?
    intro j
    have hsz : cs.toList.length = cs.size := by simp
    simp only [List.append_assoc, List.getElem?_append, List.length_take, List.length_set, List.getElem?_take, List.getElem?_drop, List.getElem?_set, List.length_cons, hsz]
    have e1 : min (o + 1) cs.size = o + 1 := by omega
    have e2 : min o cs.size = o := by omega
    rw [e1, e2]
    by_cases h1 : j < o
    · rw [if_pos (by omega), if_pos (by omega), if_neg (by omega), if_pos h1, if_pos h1]
    · by_cases h2 : j = o
      · subst h2
        rw [if_pos (by omega), if_pos (by omega), if_pos rfl, if_pos (by omega), if_neg (by omega), if_pos (by omega)]
        simp
      · rw [if_neg (by omega), if_neg h1]
        by_cases h3 : j - (o + 1) < l.length
        · rw [if_pos h3, if_pos (by omega), show j - o = (j - (o + 1)) + 1 by omega, List.getElem?_cons_succ]
        · rw [if_neg h3, if_neg (by omega), if_neg (by omega)]
          congr 1
          omega
theorem zeros70 : Tryd.zeroCells70 = mcells (List.replicate 64 0) (.pointer none) := by kernel_rfl
theorem build_key (kb : List Int) (h : kb.length = 64) : Array.foldl (fun (cs : Array Value) (x : Value × Nat) => cs.setIfInBounds x.snd x.fst) Tryd.zeroCells70 (bsv kb).zipIdx 0 (bsv kb).size = mcells kb (.pointer none) := by
  have hs : (bsv kb).size = (bsv kb).zipIdx.size := by simp
  rw [hs, ← Array.foldl_toList]
  simp only [Array.toList_zipIdx, bsv]
  rw [foldl_set _ _ 0 (by rw [zeros70, mcells_size (by simp)]; simp [h])]
  rw [zeros70]
  simp [mcells, h]
theorem build_key64 (kb : List Int) (h : kb.length = 64) : Array.foldl (fun (cs : Array Value) (x : Value × Nat) => cs.setIfInBounds x.snd x.fst) Tryd.zeroCells70 (bsv kb).zipIdx 0 64 = mcells kb (.pointer none) := by
  have := build_key kb h
  rwa [bsv_size, h] at this
set_option maxRecDepth 20000 in
set_option maxHeartbeats 2000000 in
theorem mnew_any {w : World} {v : Value} {key : List Int} (hK : KAt w) (ha : ArgAt w v key) (hm : key.length ≤ 140737488355328) :
    Calls Tryd.prog 31 #[v] w fun e w' => ∃ g h, e = .returned (.pointer (some ⟨g, 0, none⟩)) ∧ w.heap.size ≤ g ∧ w.heap.size ≤ h ∧ MacAt w' g h (keyB key) [] ∧ Below w.heap.size w w' := by
  have HK := hid hK
  have HA := hid ha
  have HM := hid hm
  have hsz : (bsv (keyB key)).size = 64 := by rw [bsv_size, keyB_len]
  clear hK ha hm
  go_enter Tryd.func31, Tryd.ntmps31
  go_wp2_with (go_at_call 47; (with_reducible refine (block_any HK.out HA.out HM.out).mono ?_); rintro e w1 ⟨rfl, hb1⟩; have B1 := hid hb1; clear hb1)
  rw [build_key64 _ (keyB_len key)]
  have HR : Hid (MRow (w1.alloc (.cells (mcells (keyB key) (.pointer none)) 70)) w1.heap.size (keyB key) (.pointer none)) := ⟨row_new _ _ _, keyB_len key⟩
  have hp := HK.out.lt
  have hz := B1.out.size
  refine (reset_any HR.out ((HK.out.below B1.out).below (below_new _ _)) (by omega)).mono ?_
  rintro e w2 ⟨h, rfl, hh, hr, hH, ht⟩
  go_wp2
  go_ret
  rw [World.size_alloc] at hh
  have b1 : Below w.heap.size w (w1.alloc (.cells (mcells (keyB key) (.pointer none)) 70)) := B1.out.alloc hz _
  exact ⟨_, h, rfl, hz, by omega, ⟨hr, by rw [List.append_nil]; exact hH, by omega⟩, b1.trans (ht.below b1.size hz)⟩
set_option maxRecDepth 20000 in
set_option maxHeartbeats 2000000 in
theorem mwrite_any {w : World} {g h : Nat} {kb m bs : List Int} {v : Value} (H : MacAt w g h kb m) (hK : KAt w) (h0 : 0 < h) (ha : ArgAt w v bs) (hne : Off h v) (hm : m.length + bs.length ≤ 1000000000000000000) :
    Calls Tryd.prog 32 #[.pointer (some ⟨g, 0, none⟩), v] w fun e w' => e = .returned (.tuple #[]) ∧ MacAt w' g h kb (m ++ bs) ∧ Turn h w w' := by
  have HH := hid H
  have HX : Hid (KAt w ∧ 0 < h ∧ ArgAt w v bs ∧ Off h v ∧ m.length + bs.length ≤ 1000000000000000000) := ⟨hK, h0, ha, hne, hm⟩
  have c64 := H.row.inner
  clear H hK h0 ha hne hm
  go_enter Tryd.func32, Tryd.ntmps32
  go_wp2_with (go_at_call 13; (with_reducible refine (write_any HH.out.hash HX.out.1 HX.out.2.1 HX.out.2.2.1 HX.out.2.2.2.1 (by have := HX.out.2.2.2.2; have := HH.out.row.len; rw [List.length_append, xorB_len]; omega)).mono ?_); rintro e w1 ⟨rfl, hh1, ht1⟩; have N1 := hid hh1; have T1 := hid ht1; clear hh1 ht1)
  refine bodyPost_end (results_none rfl _ _ _) rfl ?_
  refine ⟨rfl, ⟨HH.out.row.of_heap (T1.out.block g HH.out.row.lt HH.out.ne), ?_, HH.out.ne⟩, T1.out⟩
  rw [← List.append_assoc]
  exact N1.out
/-- In Sum: the answer's cell, the code, the inner sum. -/
structure MSumP (w W : World) (g h : Nat) (kb m : List Int) : Prop where
  below : Below w.heap.size w W
  k : KAt W
  out : RowAt W w.heap.size (bsv (List.replicate 32 0)) 24
  mac : MacAt W g h kb m
theorem MSumP.next {w W W' : World} {g h : Nat} {kb m : List Int} (H : MSumP w W g h kb m) (hb : Below W.heap.size W W') : MSumP w W' g h kb m :=
  ⟨H.below.trans (hb.mono H.below.size), H.k.below hb, H.out.below hb, H.mac.below hb⟩
theorem msum_start {w : World} {g h : Nat} {kb m : List Int} (H : MacAt w g h kb m) (hK : KAt w) : MSumP w (w.alloc (.cells (bsv (List.replicate 32 0)) 24)) g h kb m :=
  ⟨below_new _ _, hK.below (below_new _ _), row_new _ _ _, H.below (below_new _ _)⟩
set_option maxRecDepth 20000 in
set_option maxHeartbeats 2000000 in
theorem msum_any {w : World} {g h : Nat} {kb m : List Int} (H : MacAt w g h kb m) (hK : KAt w) (hm : m.length ≤ 900000000000000000) :
    Calls Tryd.prog 33 #[.pointer (some ⟨g, 0, none⟩)] w fun e w' => e = .returned (.agg (bsv (hmacK kb m))) ∧ Below w.heap.size w w' := by
  have P0 := hid (msum_start H hK)
  have c64 : ∀ ob, (w.alloc ob).cell? ⟨g, 64, none⟩ = some (.pointer (some ⟨h, 0, none⟩)) := fun ob => (H.row.below (below_new w ob)).inner
  have HM := hid hm
  have HL := hid H.row.len
  obtain ⟨S, HS⟩ : ∃ S, Hid (sha (xorB 54 kb ++ m) = S) := ⟨_, hid rfl⟩
  have HSL : Hid (S.length = 32) := by rw [← HS.out]; exact sha_len _
  clear H hK hm
  go_enter Tryd.func33, Tryd.ntmps33
  go_wp2_with (first
    | (go_at_call 15; (refine (hsum_any P0.out.mac.hash P0.out.k (by have := HM.out; have := HL.out; rw [List.length_append, xorB_len]; omega)).mono ?_); rintro e w1 ⟨rfl, hb1⟩; rw [HS.out]; have P1 := hid (P0.out.next hb1); clear hb1 P0)
    | (refine wpList_store_as rfl 24 _ _ rfl _ (bsv S) rfl rfl 24 _ (row_new _ _ _) (by rw [size24, bsv_size, HSL.out]) (by rw [bsv_size, HSL.out]; rfl) (bsv_one _) ?_; intro w2 hst; have P2 : Hid (MSumP w w2 g h kb m ∧ RowAt w2 w1.heap.size (bsv S) 24 ∧ w.heap.size < w1.heap.size) := (⟨P1.out.next (hst.below (below_new w1 _) (Nat.le_refl _)), hst.row, P1.out.out.lt⟩); clear hst P1)
    | (refine wpList_load_by rfl 59 _ rfl _ (.agg (bsv kb)) rfl P2.out.1.mac.row.load_key ?_)
    | (go_at_call 48; (with_reducible refine (begun_any kb HL.out 92 _ P2.out.1.k).mono ?_); rintro e w3 ⟨o, rfl, ho, hO, hb3⟩; have P3 : Hid (MSumP w w3 g h kb m ∧ RowAt w3 w1.heap.size (bsv S) 24 ∧ w1.heap.size < o ∧ HoldsH w3 o (xorB 92 kb) ∧ w.heap.size < o) := (⟨P2.out.1.next hb3, P2.out.2.1.below hb3, Nat.lt_of_lt_of_le P2.out.2.1.lt ho, hO, Nat.lt_trans P2.out.2.2 (Nat.lt_of_lt_of_le P2.out.2.1.lt ho)⟩); clear ho hO hb3 P2)
    | (go_at_call 13; (with_reducible refine (write_any (bs := S) P3.out.2.2.2.1 P3.out.1.k (Nat.lt_of_le_of_lt (Nat.zero_le _) P3.out.2.2.1) (row_argT (n := 32) P3.out.2.1 HSL.out (by unfold maxLen; omega)) (off_ne (Nat.ne_of_lt P3.out.2.2.1)) (by rw [xorB_len, HL.out, HSL.out]; omega)).mono ?_); rintro e w4 ⟨rfl, hh4, ht4⟩; have P4 : Hid (KAt w4 ∧ HoldsH w4 o (xorB 92 kb ++ S) ∧ Below w.heap.size w w4 ∧ RowAt w4 w.heap.size (bsv (List.replicate 32 0)) 24) := (⟨P3.out.1.k.turn ht4 (Nat.lt_of_le_of_lt (Nat.zero_le _) P3.out.2.2.1), hh4, P3.out.1.below.trans (ht4.below P3.out.1.below.size (Nat.le_of_lt P3.out.2.2.2.2)), P3.out.1.out.turn ht4 (Nat.ne_of_lt P3.out.2.2.2.2)⟩); clear hh4 ht4 P3)
    | (go_at_call 15; (with_reducible refine (hsum_any P4.out.2.1 P4.out.1 (by rw [List.length_append, xorB_len, HL.out, HSL.out]; omega)).mono ?_); rintro e w5 ⟨rfl, hb5⟩; have P5 : Hid (Below w.heap.size w w5 ∧ RowAt w5 w.heap.size (bsv (List.replicate 32 0)) 24) := (⟨P4.out.2.2.1.trans (hb5.mono P4.out.2.2.1.size), P4.out.2.2.2.below hb5⟩); clear hb5 P4)
    | (refine wpList_store_row rfl 24 _ _ rfl _ (bsv (sha (xorB 92 kb ++ S))) rfl rfl 24 _ P5.out.2 (by rw [size24, bsv_size, sha_len]) (by rw [bsv_size, bsv_size, sha_len]; simp) (bsv_one _) ?_))
  refine bodyPost_ret (results_cell_row rfl _ _ _ 24 (bsv (sha (xorB 92 kb ++ S))) _ _ rfl (P5.out.2.setRow _) und24 rfl (by rw [size24, bsv_size, sha_len])) rfl ?_
  refine ⟨?_, below_setRow P5.out.1 (Nat.le_refl _) _⟩
  unfold hmacK
  rw [HS.out]
/-- In Sum of the package: the answer's cell and the code. -/
structure PMacP (w W : World) (g h : Nat) (kb m : List Int) : Prop where
  st : MSumP w W g h kb m
  lo : w.heap.size < g ∧ w.heap.size < h
set_option maxRecDepth 20000 in
set_option maxHeartbeats 2000000 in
theorem macsum_any {w : World} {v u : Value} {key text : List Int} (hK : KAt w) (ha : ArgAt w v key) (hb : ArgAt w u text) (hm : key.length ≤ 140737488355328) (hn : text.length ≤ 140737488355328) :
    Calls Tryd.prog 18 #[v, u] w fun e w' => e = .returned (.agg (bsv (hmac key text))) ∧ Below w.heap.size w w' := by
  have HX : Hid (KAt w ∧ ArgAt w v key ∧ ArgAt w u text ∧ key.length ≤ 140737488355328 ∧ text.length ≤ 140737488355328) := ⟨hK, ha, hb, hm, hn⟩
  clear hK ha hb hm hn
  go_enter Tryd.func18, Tryd.ntmps18
  go_wp2_with (first
    | (go_at_call 31; (refine (mnew_any (key := key) (HX.out.1.below (below_new _ _)) (HX.out.2.1.below (below_new _ _)) HX.out.2.2.2.1).mono ?_); rintro e w1 ⟨g, h, rfl, hg, hh, hM, hb1⟩; have P1 : Hid (PMacP w w1 g h (keyB key) []) := (by rw [World.size_alloc] at hg hh; have b1 := (below_new w (.cells (bsv (List.replicate 32 0)) 24)).trans (hb1.mono (by simp)); exact ⟨⟨b1, HX.out.1.below b1, (row_new _ _ _).below hb1, hM⟩, by omega, by omega⟩); clear hg hh hM hb1)
    | (go_at_call 32; (with_reducible refine (mwrite_any (bs := text) P1.out.st.mac P1.out.st.k (Nat.lt_of_le_of_lt (Nat.zero_le _) P1.out.lo.2) (HX.out.2.2.1.below P1.out.st.below) (HX.out.2.2.1.off (Nat.le_of_lt P1.out.lo.2)) (by have := HX.out.2.2.2.2; simp only [List.length_nil]; omega)).mono ?_); rintro e w2 ⟨rfl, hM2, ht2⟩; rw [List.nil_append] at hM2; have P2 : Hid (MSumP w w2 g h (keyB key) text) := (⟨P1.out.st.below.trans (ht2.below P1.out.st.below.size (Nat.le_of_lt P1.out.lo.2)), P1.out.st.k.turn ht2 (Nat.lt_of_le_of_lt (Nat.zero_le _) P1.out.lo.2), P1.out.st.out.turn ht2 (Nat.ne_of_lt P1.out.lo.2), hM2⟩); clear hM2 ht2 P1)
    | (go_at_call 33; (with_reducible refine (msum_any P2.out.mac P2.out.k (by have := HX.out.2.2.2.2; omega)).mono ?_); rintro e w3 ⟨rfl, hb3⟩; have P3 := hid (P2.out.next hb3); clear hb3 P2)
    | (refine wpList_store_row rfl 24 _ _ rfl _ (bsv (hmacK (keyB key) text)) rfl rfl 24 _ P3.out.out (by rw [size24, bsv_size, hmacK_len]) (by rw [bsv_size, bsv_size, hmacK_len]; simp) (bsv_one _) ?_))
  refine bodyPost_ret (results_cell_row rfl _ _ _ 24 (bsv (hmacK (keyB key) text)) _ _ rfl (P3.out.out.setRow _) und24 rfl (by rw [size24, bsv_size, hmacK_len])) rfl ?_
  exact ⟨rfl, below_setRow P3.out.below (Nat.le_refl _) _⟩
end Go.Proofs.YtojcaoieodogdaaDoor
