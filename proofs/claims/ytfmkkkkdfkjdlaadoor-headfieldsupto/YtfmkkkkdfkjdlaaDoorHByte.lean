/- The document's head: one byte more. -/
import Derived.Test.YtfmkkkkdfkjdlaaDoorHGoes
namespace Go.Proofs.YtfmkkkkdfkjdlaaDoor
open Go.RowKit

structure HS where
  resp : Bool
  most : Int
  lines : List B
  line : B
  len : Nat
  done : Bool
  err : Nat
def byteH (h : HS) (c : UInt8) : HS :=
  if h.most < (h.len : Int) + 1 then { h with len := h.len + 1, err := 22 }
  else if h.line.getLast? = some 13 then
    if c = 10 then
      if h.line.dropLast = [] ∧ h.lines ≠ [] then { h with len := h.len + 1, line := [], done := true }
      else { h with len := h.len + 1, line := [], lines := h.lines ++ [h.line.dropLast], err := if 65 < h.lines.length + 1 then 22 else h.err }
    else { h with len := h.len + 1, err := kindN h.lines.length }
  else if c = 10 then { h with len := h.len + 1, err := kindN h.lines.length }
  else if c = 13 then
    if goesB h.resp h.lines.length h.line true = true ∨ h.line = [] ∧ h.lines ≠ [] then { h with len := h.len + 1, line := h.line ++ [13] }
    else { h with len := h.len + 1, err := kindN h.lines.length }
  else if goesB h.resp h.lines.length (h.line ++ [c]) false = true then { h with len := h.len + 1, line := h.line ++ [c] }
  else { h with len := h.len + 1, err := kindN h.lines.length }
/-- A head as a value, its row of lines given. -/
def headV (h : HS) (v : Value) : Value := .agg #[.bool h.resp, .int .i64 h.most, v, .string (str h.line), .int .i64 (h.len : Int), .bool h.done, .int .i64 (h.err : Int)]
theorem hd_size : (Tryd.prog.info? 32).map (·.size) = some 7 := by kernel_rfl
theorem results_hd {fn : Func} {p : Tmp} (h : fn.results = #[.cell p 32]) (tmps : Array Value) (w : World) (g : Nat) (t : TypeId) (cs : Array Value) (fr : Nat × Nat)
    (hp : tmps.getD p undef = .pointer (some ⟨g, 0, none⟩)) (hg : w.heap[g]? = some (.cells cs t fr)) (hs : cs.size = 7) : (results fn tmps).run Tryd.prog w = .ok (.agg cs) w :=
  results_cell_row h tmps w g t cs fr _ hp hg Tryd.underlying32 rfl (by rw [hd_size, hs])
theorem has_seven {w : World} {g : Nat} {T : TypeId} {fr : Nat × Nat} {x0 x1 x2 x3 x4 x5 x6 : Value} (h : w.heap[g]? = some (.cells #[x0, x1, x2, x3, x4, x5, x6] T fr)) : ∃ cs : Array Value, cs.size = 7 ∧ w.heap[g]? = some (.cells cs T fr) := ⟨_, rfl, h⟩
theorem new_second (w : World) (o1 o2 : Obj) : ((w.alloc o1).alloc o2).heap[w.heap.size + 1]? = some o2 := by
  have := heap_alloc_new (w.alloc o1) o2
  rwa [show (w.alloc o1).heap.size = w.heap.size + 1 by simp] at this
theorem two_at {w W0 : World} {o1 o2 : Obj} (h : W0 = (w.alloc o1).alloc o2) : W0.heap[w.heap.size]? = some o1 ∧ W0.heap[w.heap.size + 1]? = some o2 ∧ Below w.heap.size w W0 := by
  subst h
  refine ⟨?_, new_second w o1 o2, ?_⟩
  · rw [Below.heap_alloc _ _ _ (by simp)]
    exact heap_alloc_new w o1
  · exact (below_new w o1).trans ((below_new _ o2).mono (by simp))
theorem seven_put {w : World} {g : Nat} {T : TypeId} {fr : Nat × Nat} (h : ∃ cs : Array Value, cs.size = 7 ∧ w.heap[g]? = some (.cells cs T fr)) (c0 c1 c2 c3 c4 c5 c6 : Value) :
    (((((((w.setCell ⟨g, 0, none⟩ c0).setCell ⟨g, 1, none⟩ c1).setCell ⟨g, 2, none⟩ c2).setCell ⟨g, 3, none⟩ c3).setCell ⟨g, 4, none⟩ c4).setCell ⟨g, 5, none⟩ c5).setCell ⟨g, 6, none⟩ c6).heap[g]? = some (.cells #[c0, c1, c2, c3, c4, c5, c6] T fr) := by
  obtain ⟨⟨l⟩, hs, h⟩ := h
  rcases l with _ | ⟨x0, _ | ⟨x1, _ | ⟨x2, _ | ⟨x3, _ | ⟨x4, _ | ⟨x5, _ | ⟨x6, _ | ⟨x7, r⟩⟩⟩⟩⟩⟩⟩⟩ <;> simp at hs
  · simp [World.setCell, Array.getElem?_modify, h]
def ByteAns (h : HS) (c : UInt8) (base : Nat) (w : World) (e : Ending) (w' : World) : Prop := ∃ v', e = .returned (headV (byteH h c) v') ∧ OwnS w' base v' (byteH h c).lines ∧ Below w.heap.size w w'
theorem ans_of {h h' : HS} {c : UInt8} {base : Nat} {w w' : World} {v' : Value} {e : Ending} (hv : byteH h c = h') (he : e = .returned (headV h' v')) (ho : OwnS w' base v' h'.lines) (hb : Below w.heap.size w w') : ByteAns h c base w e w' := ⟨v', by rw [hv, he], by rw [hv]; exact ho, hb⟩
theorem conv_one (W : World) (c : UInt8) : (convert 22 9 (.slice (some ⟨W.heap.size, 0, none⟩) 1 1)).run Tryd.prog (W.alloc (.cells #[.int .u8 (c.toNat : Int)] 5 (0, 0))) = .ok (.string (str [c])) (W.alloc (.cells #[.int .u8 (c.toNat : Int)] 5 (0, 0))) := by
  rw [← str_cells]
  refine run_convert_bytes_arg _ 22 5 (by kernel_rfl) (by kernel_rfl) W.heap.size 0 1 1 _ (by simp) ?_ 9 (by kernel_rfl)
  intro i hi
  obtain rfl : i = 0 := by omega
  have := heap_alloc_new W (.cells #[.int .u8 (c.toNat : Int)] 5 (0, 0))
  simp only [World.cell?, this]
  rfl
theorem last_split {l : B} (h : l ≠ []) : ∃ k y, l.length = k + 1 ∧ l[k]? = some y ∧ l.getLast? = some y := by
  refine ⟨l.length - 1, l.getLast h, by have := List.length_pos_iff.2 h; omega, ?_, List.getLast?_eq_some_getLast h⟩
  rw [List.getLast_eq_getElem h, List.getElem?_eq_getElem]
theorem below_two (w : World) (o1 o2 : Obj) : Below w.heap.size w ((w.alloc o1).alloc o2) := (two_at rfl).2.2
/-- A head in its own block, and the block of what is handed out. -/
structure HWd (w W : World) (c0 c1 c2 c3 c4 c5 c6 : Value) : Prop where
  r : W.heap[w.heap.size]? = some (.cells #[c0, c1, c2, c3, c4, c5, c6] 32 (0, 0))
  o : W.heap[w.heap.size + 1]? = some (.cells #[.bool false, .int .i64 0, .slice none 0 0, .string ⟨#[]⟩, .int .i64 0, .bool false, .int .i64 0] 32 (0, 0))
  low : Below w.heap.size w W
theorem HWd.below {w W V : World} {c0 c1 c2 c3 c4 c5 c6 : Value} (h : HWd w W c0 c1 c2 c3 c4 c5 c6) (hb : Below W.heap.size W V) : HWd w V c0 c1 c2 c3 c4 c5 c6 :=
  ⟨(hb.block _ (lt_of_heap h.r)).trans h.r, (hb.block _ (lt_of_heap h.o)).trans h.o, h.low.trans (hb.mono h.low.size)⟩
theorem HWd.start {w W0 : World} {c0 c1 c2 c3 c4 c5 c6 : Value} (h : W0 = (w.alloc (.cells #[c0, c1, c2, c3, c4, c5, c6] 32 (0, 0))).alloc (.cells #[.bool false, .int .i64 0, .slice none 0 0, .string ⟨#[]⟩, .int .i64 0, .bool false, .int .i64 0] 32 (0, 0))) : HWd w W0 c0 c1 c2 c3 c4 c5 c6 := by
  obtain ⟨a, b, c⟩ := two_at h
  exact ⟨a, b, c⟩
theorem HWd.next {w W : World} {c0 c1 c2 c3 c4 c5 c6 : Value} (h : HWd w W c0 c1 c2 c3 c4 c5 c6) (o : Obj) : HWd w (W.alloc o) c0 c1 c2 c3 c4 c5 c6 := h.below (below_new W o)
theorem HWd.line {w W : World} {c0 c1 c2 c3 c4 c5 c6 : Value} (h : HWd w W c0 c1 c2 c3 c4 c5 c6) (d : Value) : HWd w (W.setCell ⟨w.heap.size, 3, none⟩ d) c0 c1 c2 d c4 c5 c6 := by
  refine ⟨?_, ?_, ?_⟩
  · simp [World.setCell, Array.getElem?_modify, h.r]
  · rw [Below.heap_setCell _ _ _ _ (show w.heap.size + 1 ≠ w.heap.size by omega)]
    exact h.o
  · exact Below.setCell h.low (Nat.le_refl _) _
theorem HWd.err {w W : World} {c0 c1 c2 c3 c4 c5 c6 : Value} (h : HWd w W c0 c1 c2 c3 c4 c5 c6) (d : Value) : HWd w (W.setCell ⟨w.heap.size, 6, none⟩ d) c0 c1 c2 c3 c4 c5 d := by
  refine ⟨?_, ?_, ?_⟩
  · simp [World.setCell, Array.getElem?_modify, h.r]
  · rw [Below.heap_setCell _ _ _ _ (show w.heap.size + 1 ≠ w.heap.size by omega)]
    exact h.o
  · exact Below.setCell h.low (Nat.le_refl _) _
theorem HWd.out {w W : World} {c0 c1 c2 c3 c4 c5 c6 : Value} (h : HWd w W c0 c1 c2 c3 c4 c5 c6) (a0 a1 a2 a3 a4 a5 a6 : Value) : Below w.heap.size w (((((((W.setCell ⟨w.heap.size + 1, 0, none⟩ a0).setCell ⟨w.heap.size + 1, 1, none⟩ a1).setCell ⟨w.heap.size + 1, 2, none⟩ a2).setCell ⟨w.heap.size + 1, 3, none⟩ a3).setCell ⟨w.heap.size + 1, 4, none⟩ a4).setCell ⟨w.heap.size + 1, 5, none⟩ a5).setCell ⟨w.heap.size + 1, 6, none⟩ a6) := by
  iterate 7 refine Below.setCell ?_ (show w.heap.size ≤ w.heap.size + 1 by omega) _
  exact h.low
set_option maxRecDepth 20000 in
set_option maxHeartbeats 8000000 in
theorem byte_size (resp dn : Bool) (most : Int) (lines : List B) (line : B) (len er : Nat) (c : UInt8) (base : Nat) (pl : Option Addr) (ln cp : Nat) (hln : lines.length = ln) (w : World) (ho : OwnS w base (.slice pl ln cp) lines) (hlen : len ≤ 70368744177600) (hm : most < (len : Int) + 1) :
    Calls Tryd.prog 40 #[headV ⟨resp, most, lines, line, len, dn, er⟩ (.slice pl ln cp), byteV c] w (ByteAns ⟨resp, most, lines, line, len, dn, er⟩ c base w) := by
  have HV := hid (show byteH ⟨resp, most, lines, line, len, dn, er⟩ c = ⟨resp, most, lines, line, len + 1, dn, 22⟩ from by unfold byteH; rw [if_pos hm])
  have HO := hid ho
  have HLn := hid hln
  unfold headV byteV
  dsimp only
  obtain ⟨S, hS⟩ : ∃ S, str line = S := ⟨_, rfl⟩
  have HSs := hid hS
  rw [hS]
  clear ho
  clear hS hln
  go_enter Tryd.func40, Tryd.ntmps40
  go_wp2
  (try simp only [Exit.inBlock, Exit.then])
  refine bodyPost_ret (results_hd rfl _ _ _ 32 _ (0, 0) rfl (new_second _ _ _) rfl) rfl ?_
  refine ans_of HV.out (v' := .slice pl ln cp) ?_ (HO.out.keep (below_two _ _ _)) (below_two _ _ _)
  unfold headV
  rw [HSs.out]
  simp
set_option maxRecDepth 20000 in
set_option maxHeartbeats 8000000 in
theorem byte_on (resp dn : Bool) (most : Int) (lines : List B) (line : B) (len er : Nat) (c : UInt8) (base : Nat) (pl : Option Addr) (ln cp : Nat) (hln : lines.length = ln) (w : World) (ho : OwnS w base (.slice pl ln cp) lines) (hlen : len ≤ 70368744177600) (hl1 : line.length ≤ 70368744177600) (hm : ¬ most < (len : Int) + 1) (hw13 : line.getLast? ≠ some 13) (hc10 : c ≠ 10) (hc13 : c ≠ 13) (hg : goesB resp ln (line ++ [c]) false = true) :
    Calls Tryd.prog 40 #[headV ⟨resp, most, lines, line, len, dn, er⟩ (.slice pl ln cp), byteV c] w (ByteAns ⟨resp, most, lines, line, len, dn, er⟩ c base w) := by
  have HV := hid (show byteH ⟨resp, most, lines, line, len, dn, er⟩ c = ⟨resp, most, lines, line ++ [c], len + 1, dn, er⟩ from by unfold byteH; dsimp only; rw [if_neg hm, if_neg hw13, if_neg hc10, if_neg hc13, if_pos (by rw [hln]; exact hg)])
  have HO := hid ho
  have HLn := hid hln
  unfold headV byteV
  dsimp only
  obtain ⟨S, hS⟩ : ∃ S, str line = S := ⟨_, rfl⟩
  have HSs := hid hS
  rw [hS]
  clear ho
  have HSz := hid (show S.size = line.length from by rw [← hS]; exact str_size line)
  have HByte := hid (show ∀ (k : Nat) (h : k < line.length) (h2 : k < S.size), S[k]'h2 = line[k]'h from fun k h h2 => by subst hS; rfl)
  have HGo := hid (goes_any resp dn most ((len : Int) + 1) (er : Int) pl ln cp S (line ++ [c]) false (by rw [List.length_append]; simp; omega))
  rw [hg, ← str_app, hS] at HGo
  have y101 : ¬ (c.toNat : Int) = 10 := fun e => hc10 (UInt8.toNat_inj.1 (by show c.toNat = 10; omega))
  have y102 : ((c.toNat : Int) == 10) = false := by simpa using y101
  have y103 : ((c.toNat : Int) != 10) = true := by simpa using y101
  have y131 : ¬ (c.toNat : Int) = 13 := fun e => hc13 (UInt8.toNat_inj.1 (by show c.toNat = 13; omega))
  have y132 : ((c.toNat : Int) == 13) = false := by simpa using y131
  have y133 : ((c.toNat : Int) != 13) = true := by simpa using y131
  obtain ⟨W0, hW0⟩ : ∃ W0, W0 = (w.alloc (.cells #[.bool resp, .int .i64 most, .slice pl ln cp, .string S, .int .i64 ((len : Int) + 1), .bool dn, .int .i64 (er : Int)] 32 (0, 0))).alloc (.cells #[.bool false, .int .i64 0, .slice none 0 0, .string ⟨#[]⟩, .int .i64 0, .bool false, .int .i64 0] 32 (0, 0)) := ⟨_, rfl⟩
  have HT0 := hid (HWd.start hW0)
  have HW0 := hid hW0
  have hW0s : W0.heap.size = w.heap.size + 1 + 1 := by rw [hW0]; simp
  have hcv := conv_one W0 c
  rw [hW0s, hW0] at hcv
  clear hW0 hW0s hc10 hc13 hg
  clear hS hln
  go_enter Tryd.func40, Tryd.ntmps40
  by_cases hnil : line = []
  · have hS0 : S.size = 0 := by rw [HSz.out, hnil]; rfl
    clear hnil
    go_wp2_with (go_at_call 57; (with_reducible refine (HGo.out _).mono ?_); rintro e w1 ⟨rfl, hb⟩; rw [← HW0.out] at hb; have HT1 := hid ((HT0.out.next _).below hb); have hc1 := conv_one w1 c; have HT2 := hid (HT1.out.next (.cells #[.int .u8 (c.toNat : Int)] 5 (0, 0))); obtain ⟨_, _, _, u3, _, _, _, _⟩ := seven HT1.out.r; obtain ⟨x0, x1, x2, x3, x4, x5, x6, xz⟩ := seven HT2.out.r; obtain ⟨_, _, _, _, _, _, _, oz⟩ := seven HT2.out.o; have xz3 := xz 3; have xz6 := xz 6; have oz0 := oz 0; have oz1 := oz 1; have oz2 := oz 2; have oz3 := oz 3; have oz4 := oz 4; have oz5 := oz 5; have oz6 := oz 6; clear xz oz; clear hb)
    (try simp only [Exit.inBlock, Exit.then])
    refine bodyPost_ret (results_hd rfl _ _ _ 32 _ (0, 0) rfl (seven_put (has_seven (HT2.out.line _).o) _ _ _ _ _ _ _) rfl) rfl ?_
    refine ans_of HV.out (v' := .slice pl ln cp) ?_ (HO.out.keep ((HT2.out.line _).out _ _ _ _ _ _ _)) ((HT2.out.line _).out _ _ _ _ _ _ _)
    unfold headV
    dsimp only
    rw [← str_app, HSs.out]; push_cast; rfl
  · obtain ⟨k, y, hk, hky, hlast⟩ := last_split hnil
    have hSk : S.size = k + 1 := by rw [HSz.out, hk]
    have hbyte : ∀ h : k < S.size, (S[k]'h).toNat = y.toNat := fun h => by rw [HByte.out k (by omega) h]; rw [List.getElem?_eq_getElem (by omega)] at hky; rw [Option.some.inj hky]
    have z13 : ¬ (y.toNat : Int) = 13 := fun e => hw13 (by rw [hlast, show y = 13 from UInt8.toNat_inj.1 (by show y.toNat = 13; omega)])
    have z14 : ((y.toNat : Int) == 13) = false := by simpa using z13
    have hwk : wrap64 (k : Int) = (k : Int) := by unfold wrap64; omega
    have hk2 : k ≤ 70368744177600 := by omega
    clear hnil hk hky hlast
    go_wp2_with (go_at_call 57; (with_reducible refine (HGo.out _).mono ?_); rintro e w1 ⟨rfl, hb⟩; rw [← HW0.out] at hb; have HT1 := hid ((HT0.out.next _).below hb); have hc1 := conv_one w1 c; have HT2 := hid (HT1.out.next (.cells #[.int .u8 (c.toNat : Int)] 5 (0, 0))); obtain ⟨_, _, _, u3, _, _, _, _⟩ := seven HT1.out.r; obtain ⟨x0, x1, x2, x3, x4, x5, x6, xz⟩ := seven HT2.out.r; obtain ⟨_, _, _, _, _, _, _, oz⟩ := seven HT2.out.o; have xz3 := xz 3; have xz6 := xz 6; have oz0 := oz 0; have oz1 := oz 1; have oz2 := oz 2; have oz3 := oz 3; have oz4 := oz 4; have oz5 := oz 5; have oz6 := oz 6; clear xz oz; clear hb)
    (try simp only [Exit.inBlock, Exit.then])
    refine bodyPost_ret (results_hd rfl _ _ _ 32 _ (0, 0) rfl (seven_put (has_seven (HT2.out.line _).o) _ _ _ _ _ _ _) rfl) rfl ?_
    refine ans_of HV.out (v' := .slice pl ln cp) ?_ (HO.out.keep ((HT2.out.line _).out _ _ _ _ _ _ _)) ((HT2.out.line _).out _ _ _ _ _ _ _)
    unfold headV
    dsimp only
    rw [← str_app, HSs.out]; push_cast; rfl
set_option maxRecDepth 20000 in
set_option maxHeartbeats 8000000 in
theorem byte_off (resp dn : Bool) (most : Int) (lines : List B) (line : B) (len er : Nat) (c : UInt8) (base : Nat) (pl : Option Addr) (ln cp : Nat) (hln : lines.length = ln) (w : World) (ho : OwnS w base (.slice pl ln cp) lines) (hlen : len ≤ 70368744177600) (hl1 : line.length ≤ 70368744177600) (hm : ¬ most < (len : Int) + 1) (hw13 : line.getLast? ≠ some 13) (hc10 : c ≠ 10) (hc13 : c ≠ 13) (hg : goesB resp ln (line ++ [c]) false = false) :
    Calls Tryd.prog 40 #[headV ⟨resp, most, lines, line, len, dn, er⟩ (.slice pl ln cp), byteV c] w (ByteAns ⟨resp, most, lines, line, len, dn, er⟩ c base w) := by
  have HV := hid (show byteH ⟨resp, most, lines, line, len, dn, er⟩ c = ⟨resp, most, lines, line, len + 1, dn, kindN ln⟩ from by unfold byteH; dsimp only; rw [if_neg hm, if_neg hw13, if_neg hc10, if_neg hc13, if_neg (by rw [hln, hg]; simp), hln])
  have HO := hid ho
  have HLn := hid hln
  unfold headV byteV
  dsimp only
  obtain ⟨S, hS⟩ : ∃ S, str line = S := ⟨_, rfl⟩
  have HSs := hid hS
  rw [hS]
  clear ho
  have HSz := hid (show S.size = line.length from by rw [← hS]; exact str_size line)
  have HByte := hid (show ∀ (k : Nat) (h : k < line.length) (h2 : k < S.size), S[k]'h2 = line[k]'h from fun k h h2 => by subst hS; rfl)
  have HGo := hid (goes_any resp dn most ((len : Int) + 1) (er : Int) pl ln cp S (line ++ [c]) false (by rw [List.length_append]; simp; omega))
  rw [hg, ← str_app, hS] at HGo
  have HKi := hid (kind_any resp dn most ((len : Int) + 1) (er : Int) pl ln cp S)
  have y101 : ¬ (c.toNat : Int) = 10 := fun e => hc10 (UInt8.toNat_inj.1 (by show c.toNat = 10; omega))
  have y102 : ((c.toNat : Int) == 10) = false := by simpa using y101
  have y103 : ((c.toNat : Int) != 10) = true := by simpa using y101
  have y131 : ¬ (c.toNat : Int) = 13 := fun e => hc13 (UInt8.toNat_inj.1 (by show c.toNat = 13; omega))
  have y132 : ((c.toNat : Int) == 13) = false := by simpa using y131
  have y133 : ((c.toNat : Int) != 13) = true := by simpa using y131
  obtain ⟨W0, hW0⟩ : ∃ W0, W0 = (w.alloc (.cells #[.bool resp, .int .i64 most, .slice pl ln cp, .string S, .int .i64 ((len : Int) + 1), .bool dn, .int .i64 (er : Int)] 32 (0, 0))).alloc (.cells #[.bool false, .int .i64 0, .slice none 0 0, .string ⟨#[]⟩, .int .i64 0, .bool false, .int .i64 0] 32 (0, 0)) := ⟨_, rfl⟩
  have HT0 := hid (HWd.start hW0)
  have HW0 := hid hW0
  have hW0s : W0.heap.size = w.heap.size + 1 + 1 := by rw [hW0]; simp
  have hcv := conv_one W0 c
  rw [hW0s, hW0] at hcv
  clear hW0 hW0s hc10 hc13 hg
  clear hS hln
  go_enter Tryd.func40, Tryd.ntmps40
  by_cases hnil : line = []
  · have hS0 : S.size = 0 := by rw [HSz.out, hnil]; rfl
    clear hnil
    go_wp2_with (first | (go_at_call 57; (with_reducible refine (HGo.out _).mono ?_); rintro e w1 ⟨rfl, hb⟩; rw [← HW0.out] at hb; have HT1 := hid ((HT0.out.next _).below hb); obtain ⟨u0, u1, u2, u3, u4, u5, u6, _⟩ := seven HT1.out.r; clear hb) | (go_at_call 58; (with_reducible refine (HKi.out _).mono ?_); rintro e w2 ⟨rfl, hb⟩; have HT2 := hid (HT1.out.below hb); obtain ⟨x0, x1, x2, x3, x4, x5, x6, xz⟩ := seven HT2.out.r; obtain ⟨_, _, _, _, _, _, _, oz⟩ := seven HT2.out.o; have xz3 := xz 3; have xz6 := xz 6; have oz0 := oz 0; have oz1 := oz 1; have oz2 := oz 2; have oz3 := oz 3; have oz4 := oz 4; have oz5 := oz 5; have oz6 := oz 6; clear xz oz; clear hb))
    (try simp only [Exit.inBlock, Exit.then])
    refine bodyPost_ret (results_hd rfl _ _ _ 32 _ (0, 0) rfl (seven_put (has_seven (HT2.out.err _).o) _ _ _ _ _ _ _) rfl) rfl ?_
    refine ans_of HV.out (v' := .slice pl ln cp) ?_ (HO.out.keep ((HT2.out.err _).out _ _ _ _ _ _ _)) ((HT2.out.err _).out _ _ _ _ _ _ _)
    unfold headV
    dsimp only
    rw [HSs.out]; push_cast; rfl
  · obtain ⟨k, y, hk, hky, hlast⟩ := last_split hnil
    have hSk : S.size = k + 1 := by rw [HSz.out, hk]
    have hbyte : ∀ h : k < S.size, (S[k]'h).toNat = y.toNat := fun h => by rw [HByte.out k (by omega) h]; rw [List.getElem?_eq_getElem (by omega)] at hky; rw [Option.some.inj hky]
    have z13 : ¬ (y.toNat : Int) = 13 := fun e => hw13 (by rw [hlast, show y = 13 from UInt8.toNat_inj.1 (by show y.toNat = 13; omega)])
    have z14 : ((y.toNat : Int) == 13) = false := by simpa using z13
    have hwk : wrap64 (k : Int) = (k : Int) := by unfold wrap64; omega
    have hk2 : k ≤ 70368744177600 := by omega
    clear hnil hk hky hlast
    go_wp2_with (first | (go_at_call 57; (with_reducible refine (HGo.out _).mono ?_); rintro e w1 ⟨rfl, hb⟩; rw [← HW0.out] at hb; have HT1 := hid ((HT0.out.next _).below hb); obtain ⟨u0, u1, u2, u3, u4, u5, u6, _⟩ := seven HT1.out.r; clear hb) | (go_at_call 58; (with_reducible refine (HKi.out _).mono ?_); rintro e w2 ⟨rfl, hb⟩; have HT2 := hid (HT1.out.below hb); obtain ⟨x0, x1, x2, x3, x4, x5, x6, xz⟩ := seven HT2.out.r; obtain ⟨_, _, _, _, _, _, _, oz⟩ := seven HT2.out.o; have xz3 := xz 3; have xz6 := xz 6; have oz0 := oz 0; have oz1 := oz 1; have oz2 := oz 2; have oz3 := oz 3; have oz4 := oz 4; have oz5 := oz 5; have oz6 := oz 6; clear xz oz; clear hb))
    (try simp only [Exit.inBlock, Exit.then])
    refine bodyPost_ret (results_hd rfl _ _ _ 32 _ (0, 0) rfl (seven_put (has_seven (HT2.out.err _).o) _ _ _ _ _ _ _) rfl) rfl ?_
    refine ans_of HV.out (v' := .slice pl ln cp) ?_ (HO.out.keep ((HT2.out.err _).out _ _ _ _ _ _ _)) ((HT2.out.err _).out _ _ _ _ _ _ _)
    unfold headV
    dsimp only
    rw [HSs.out]; push_cast; rfl
set_option maxRecDepth 20000 in
set_option maxHeartbeats 8000000 in
theorem byte_cr (resp dn : Bool) (most : Int) (lines : List B) (line : B) (len er : Nat) (c : UInt8) (base : Nat) (pl : Option Addr) (ln cp : Nat) (hln : lines.length = ln) (w : World) (ho : OwnS w base (.slice pl ln cp) lines) (hlen : len ≤ 70368744177600) (hl1 : line.length ≤ 70368744177600) (hm : ¬ most < (len : Int) + 1) (hw13 : line.getLast? ≠ some 13) (hc : c = 13) (hg : goesB resp ln line true = true) :
    Calls Tryd.prog 40 #[headV ⟨resp, most, lines, line, len, dn, er⟩ (.slice pl ln cp), byteV c] w (ByteAns ⟨resp, most, lines, line, len, dn, er⟩ c base w) := by
  subst hc
  have HV := hid (show byteH ⟨resp, most, lines, line, len, dn, er⟩ 13 = ⟨resp, most, lines, line ++ [13], len + 1, dn, er⟩ from by unfold byteH; dsimp only; rw [if_neg hm, if_neg hw13, if_neg (by decide), if_pos rfl, if_pos (.inl (by rw [hln]; exact hg))])
  have HO := hid ho
  have HLn := hid hln
  unfold headV byteV
  dsimp only
  obtain ⟨S, hS⟩ : ∃ S, str line = S := ⟨_, rfl⟩
  have HSs := hid hS
  rw [hS]
  clear ho
  have HSz := hid (show S.size = line.length from by rw [← hS]; exact str_size line)
  have HByte := hid (show ∀ (k : Nat) (h : k < line.length) (h2 : k < S.size), S[k]'h2 = line[k]'h from fun k h h2 => by subst hS; rfl)
  have HGo := hid (goes_any resp dn most ((len : Int) + 1) (er : Int) pl ln cp S (line) true (by omega))
  rw [hg, hS] at HGo
  obtain ⟨W0, hW0⟩ : ∃ W0, W0 = (w.alloc (.cells #[.bool resp, .int .i64 most, .slice pl ln cp, .string S, .int .i64 ((len : Int) + 1), .bool dn, .int .i64 (er : Int)] 32 (0, 0))).alloc (.cells #[.bool false, .int .i64 0, .slice none 0 0, .string ⟨#[]⟩, .int .i64 0, .bool false, .int .i64 0] 32 (0, 0)) := ⟨_, rfl⟩
  have HT0 := hid (HWd.start hW0)
  have HW0 := hid hW0
  have hW0s : W0.heap.size = w.heap.size + 1 + 1 := by rw [hW0]; simp
  rw [show ((13 : UInt8).toNat : Int) = 13 from rfl]
  clear hW0 hW0s hg
  clear hS hln
  go_enter Tryd.func40, Tryd.ntmps40
  by_cases hnil : line = []
  · have hS0 : S.size = 0 := by rw [HSz.out, hnil]; rfl
    clear hnil
    go_wp2_with (go_at_call 57; (with_reducible refine (HGo.out _).mono ?_); rintro e w1 ⟨rfl, hb⟩; rw [← HW0.out] at hb; have HT1 := hid (HT0.out.below hb); obtain ⟨x0, x1, x2, x3, x4, x5, x6, xz⟩ := seven HT1.out.r; obtain ⟨_, _, _, _, _, _, _, oz⟩ := seven HT1.out.o; have xz3 := xz 3; have xz6 := xz 6; have oz0 := oz 0; have oz1 := oz 1; have oz2 := oz 2; have oz3 := oz 3; have oz4 := oz 4; have oz5 := oz 5; have oz6 := oz 6; clear xz oz; clear hb)
    (try simp only [Exit.inBlock, Exit.then])
    refine bodyPost_ret (results_hd rfl _ _ _ 32 _ (0, 0) rfl (seven_put (has_seven (HT1.out.line _).o) _ _ _ _ _ _ _) rfl) rfl ?_
    refine ans_of HV.out (v' := .slice pl ln cp) ?_ (HO.out.keep ((HT1.out.line _).out _ _ _ _ _ _ _)) ((HT1.out.line _).out _ _ _ _ _ _ _)
    unfold headV
    dsimp only
    rw [← str_app, HSs.out]; push_cast; rfl
  · obtain ⟨k, y, hk, hky, hlast⟩ := last_split hnil
    have hSk : S.size = k + 1 := by rw [HSz.out, hk]
    have hbyte : ∀ h : k < S.size, (S[k]'h).toNat = y.toNat := fun h => by rw [HByte.out k (by omega) h]; rw [List.getElem?_eq_getElem (by omega)] at hky; rw [Option.some.inj hky]
    have z13 : ¬ (y.toNat : Int) = 13 := fun e => hw13 (by rw [hlast, show y = 13 from UInt8.toNat_inj.1 (by show y.toNat = 13; omega)])
    have z14 : ((y.toNat : Int) == 13) = false := by simpa using z13
    have hwk : wrap64 (k : Int) = (k : Int) := by unfold wrap64; omega
    have hk2 : k ≤ 70368744177600 := by omega
    clear hnil hk hky hlast
    go_wp2_with (go_at_call 57; (with_reducible refine (HGo.out _).mono ?_); rintro e w1 ⟨rfl, hb⟩; rw [← HW0.out] at hb; have HT1 := hid (HT0.out.below hb); obtain ⟨x0, x1, x2, x3, x4, x5, x6, xz⟩ := seven HT1.out.r; obtain ⟨_, _, _, _, _, _, _, oz⟩ := seven HT1.out.o; have xz3 := xz 3; have xz6 := xz 6; have oz0 := oz 0; have oz1 := oz 1; have oz2 := oz 2; have oz3 := oz 3; have oz4 := oz 4; have oz5 := oz 5; have oz6 := oz 6; clear xz oz; clear hb)
    (try simp only [Exit.inBlock, Exit.then])
    refine bodyPost_ret (results_hd rfl _ _ _ 32 _ (0, 0) rfl (seven_put (has_seven (HT1.out.line _).o) _ _ _ _ _ _ _) rfl) rfl ?_
    refine ans_of HV.out (v' := .slice pl ln cp) ?_ (HO.out.keep ((HT1.out.line _).out _ _ _ _ _ _ _)) ((HT1.out.line _).out _ _ _ _ _ _ _)
    unfold headV
    dsimp only
    rw [← str_app, HSs.out]; push_cast; rfl
set_option maxRecDepth 20000 in
set_option maxHeartbeats 8000000 in
theorem byte_lf0 (resp dn : Bool) (most : Int) (lines : List B) (line : B) (len er : Nat) (c : UInt8) (base : Nat) (pl : Option Addr) (ln cp : Nat) (hln : lines.length = ln) (w : World) (ho : OwnS w base (.slice pl ln cp) lines) (hlen : len ≤ 70368744177600) (hl1 : line.length ≤ 70368744177600) (hm : ¬ most < (len : Int) + 1) (hw13 : line.getLast? ≠ some 13) (hc : c = 10) :
    Calls Tryd.prog 40 #[headV ⟨resp, most, lines, line, len, dn, er⟩ (.slice pl ln cp), byteV c] w (ByteAns ⟨resp, most, lines, line, len, dn, er⟩ c base w) := by
  subst hc
  have HV := hid (show byteH ⟨resp, most, lines, line, len, dn, er⟩ 10 = ⟨resp, most, lines, line, len + 1, dn, kindN ln⟩ from by unfold byteH; dsimp only; rw [if_neg hm, if_neg hw13, if_pos rfl, hln])
  have HO := hid ho
  have HLn := hid hln
  unfold headV byteV
  dsimp only
  obtain ⟨S, hS⟩ : ∃ S, str line = S := ⟨_, rfl⟩
  have HSs := hid hS
  rw [hS]
  clear ho
  have HSz := hid (show S.size = line.length from by rw [← hS]; exact str_size line)
  have HByte := hid (show ∀ (k : Nat) (h : k < line.length) (h2 : k < S.size), S[k]'h2 = line[k]'h from fun k h h2 => by subst hS; rfl)
  have HKi := hid (kind_any resp dn most ((len : Int) + 1) (er : Int) pl ln cp S)
  obtain ⟨W0, hW0⟩ : ∃ W0, W0 = (w.alloc (.cells #[.bool resp, .int .i64 most, .slice pl ln cp, .string S, .int .i64 ((len : Int) + 1), .bool dn, .int .i64 (er : Int)] 32 (0, 0))).alloc (.cells #[.bool false, .int .i64 0, .slice none 0 0, .string ⟨#[]⟩, .int .i64 0, .bool false, .int .i64 0] 32 (0, 0)) := ⟨_, rfl⟩
  have HT0 := hid (HWd.start hW0)
  have HW0 := hid hW0
  have hW0s : W0.heap.size = w.heap.size + 1 + 1 := by rw [hW0]; simp
  rw [show ((10 : UInt8).toNat : Int) = 10 from rfl]
  clear hW0 hW0s
  clear hS hln
  go_enter Tryd.func40, Tryd.ntmps40
  by_cases hnil : line = []
  · have hS0 : S.size = 0 := by rw [HSz.out, hnil]; rfl
    clear hnil
    go_wp2_with (go_at_call 58; (with_reducible refine (HKi.out _).mono ?_); rintro e w2 ⟨rfl, hb⟩; rw [← HW0.out] at hb; have HT2 := hid (HT0.out.below hb); obtain ⟨x0, x1, x2, x3, x4, x5, x6, xz⟩ := seven HT2.out.r; obtain ⟨_, _, _, _, _, _, _, oz⟩ := seven HT2.out.o; have xz3 := xz 3; have xz6 := xz 6; have oz0 := oz 0; have oz1 := oz 1; have oz2 := oz 2; have oz3 := oz 3; have oz4 := oz 4; have oz5 := oz 5; have oz6 := oz 6; clear xz oz; clear hb)
    (try simp only [Exit.inBlock, Exit.then])
    refine bodyPost_ret (results_hd rfl _ _ _ 32 _ (0, 0) rfl (seven_put (has_seven (HT2.out.err _).o) _ _ _ _ _ _ _) rfl) rfl ?_
    refine ans_of HV.out (v' := .slice pl ln cp) ?_ (HO.out.keep ((HT2.out.err _).out _ _ _ _ _ _ _)) ((HT2.out.err _).out _ _ _ _ _ _ _)
    unfold headV
    dsimp only
    rw [HSs.out]; push_cast; rfl
  · obtain ⟨k, y, hk, hky, hlast⟩ := last_split hnil
    have hSk : S.size = k + 1 := by rw [HSz.out, hk]
    have hbyte : ∀ h : k < S.size, (S[k]'h).toNat = y.toNat := fun h => by rw [HByte.out k (by omega) h]; rw [List.getElem?_eq_getElem (by omega)] at hky; rw [Option.some.inj hky]
    have z13 : ¬ (y.toNat : Int) = 13 := fun e => hw13 (by rw [hlast, show y = 13 from UInt8.toNat_inj.1 (by show y.toNat = 13; omega)])
    have z14 : ((y.toNat : Int) == 13) = false := by simpa using z13
    have hwk : wrap64 (k : Int) = (k : Int) := by unfold wrap64; omega
    have hk2 : k ≤ 70368744177600 := by omega
    clear hnil hk hky hlast
    go_wp2_with (go_at_call 58; (with_reducible refine (HKi.out _).mono ?_); rintro e w2 ⟨rfl, hb⟩; rw [← HW0.out] at hb; have HT2 := hid (HT0.out.below hb); obtain ⟨x0, x1, x2, x3, x4, x5, x6, xz⟩ := seven HT2.out.r; obtain ⟨_, _, _, _, _, _, _, oz⟩ := seven HT2.out.o; have xz3 := xz 3; have xz6 := xz 6; have oz0 := oz 0; have oz1 := oz 1; have oz2 := oz 2; have oz3 := oz 3; have oz4 := oz 4; have oz5 := oz 5; have oz6 := oz 6; clear xz oz; clear hb)
    (try simp only [Exit.inBlock, Exit.then])
    refine bodyPost_ret (results_hd rfl _ _ _ 32 _ (0, 0) rfl (seven_put (has_seven (HT2.out.err _).o) _ _ _ _ _ _ _) rfl) rfl ?_
    refine ans_of HV.out (v' := .slice pl ln cp) ?_ (HO.out.keep ((HT2.out.err _).out _ _ _ _ _ _ _)) ((HT2.out.err _).out _ _ _ _ _ _ _)
    unfold headV
    dsimp only
    rw [HSs.out]; push_cast; rfl
set_option maxRecDepth 20000 in
set_option maxHeartbeats 8000000 in
theorem byte_cr3 (resp dn : Bool) (most : Int) (lines : List B) (line : B) (len er : Nat) (c : UInt8) (base : Nat) (pl : Option Addr) (ln cp : Nat) (hln : lines.length = ln) (w : World) (ho : OwnS w base (.slice pl ln cp) lines) (hlen : len ≤ 70368744177600) (hl1 : line.length ≤ 70368744177600) (hm : ¬ most < (len : Int) + 1) (hw13 : line.getLast? ≠ some 13) (hc : c = 13) (hg : goesB resp ln line true = false) (hno : ¬ (line = [] ∧ 0 < ln)) :
    Calls Tryd.prog 40 #[headV ⟨resp, most, lines, line, len, dn, er⟩ (.slice pl ln cp), byteV c] w (ByteAns ⟨resp, most, lines, line, len, dn, er⟩ c base w) := by
  subst hc
  have HV := hid (show byteH ⟨resp, most, lines, line, len, dn, er⟩ 13 = ⟨resp, most, lines, line, len + 1, dn, kindN ln⟩ from by unfold byteH; dsimp only; rw [if_neg hm, if_neg hw13, if_neg (by decide), if_pos rfl, if_neg (by rw [hln, hg]; intro h; rcases h with h | h; exact absurd h (by simp); exact hno ⟨h.1, by rw [← hln]; exact List.length_pos_iff.2 h.2⟩), hln])
  have HO := hid ho
  have HLn := hid hln
  unfold headV byteV
  dsimp only
  obtain ⟨S, hS⟩ : ∃ S, str line = S := ⟨_, rfl⟩
  have HSs := hid hS
  rw [hS]
  clear ho
  have HSz := hid (show S.size = line.length from by rw [← hS]; exact str_size line)
  have HByte := hid (show ∀ (k : Nat) (h : k < line.length) (h2 : k < S.size), S[k]'h2 = line[k]'h from fun k h h2 => by subst hS; rfl)
  have HE := hid (show line ≠ [] → (S.toList == []) = false ∧ S.toList.isEmpty = false ∧ ¬ S.toList = [] from fun h => by rw [← hS, str_tl]; simpa using h)
  have HGo := hid (goes_any resp dn most ((len : Int) + 1) (er : Int) pl ln cp S (line) true (by omega))
  rw [hg, hS] at HGo
  have HKi := hid (kind_any resp dn most ((len : Int) + 1) (er : Int) pl ln cp S)
  obtain ⟨W0, hW0⟩ : ∃ W0, W0 = (w.alloc (.cells #[.bool resp, .int .i64 most, .slice pl ln cp, .string S, .int .i64 ((len : Int) + 1), .bool dn, .int .i64 (er : Int)] 32 (0, 0))).alloc (.cells #[.bool false, .int .i64 0, .slice none 0 0, .string ⟨#[]⟩, .int .i64 0, .bool false, .int .i64 0] 32 (0, 0)) := ⟨_, rfl⟩
  have HT0 := hid (HWd.start hW0)
  have HW0 := hid hW0
  have hW0s : W0.heap.size = w.heap.size + 1 + 1 := by rw [hW0]; simp
  rw [show ((13 : UInt8).toNat : Int) = 13 from rfl]
  clear hW0 hW0s hg
  clear hS hln
  go_enter Tryd.func40, Tryd.ntmps40
  by_cases hnil : line = []
  · have hnil3 := hnil
    have hS0 : S.size = 0 := by rw [HSz.out, hnil]; rfl
    clear hnil
    obtain rfl : ln = 0 := by rcases Nat.eq_zero_or_pos ln with h | h; exact h; exact absurd ⟨hnil3, h⟩ hno
    obtain rfl : S = ⟨#[]⟩ := by rw [← HSs.out, hnil3]
    clear hno hnil3
    go_wp2_with (first | (go_at_call 57; (with_reducible refine (HGo.out _).mono ?_); rintro e w1 ⟨rfl, hb⟩; rw [← HW0.out] at hb; have HT1 := hid (HT0.out.below hb); obtain ⟨u0, u1, u2, u3, u4, u5, u6, _⟩ := seven HT1.out.r; clear hb) | (go_at_call 58; (with_reducible refine (HKi.out _).mono ?_); rintro e w2 ⟨rfl, hb⟩; have HT2 := hid (HT1.out.below hb); obtain ⟨x0, x1, x2, x3, x4, x5, x6, xz⟩ := seven HT2.out.r; obtain ⟨_, _, _, _, _, _, _, oz⟩ := seven HT2.out.o; have xz3 := xz 3; have xz6 := xz 6; have oz0 := oz 0; have oz1 := oz 1; have oz2 := oz 2; have oz3 := oz 3; have oz4 := oz 4; have oz5 := oz 5; have oz6 := oz 6; clear xz oz; clear hb))
    (try simp only [Exit.inBlock, Exit.then])
    refine bodyPost_ret (results_hd rfl _ _ _ 32 _ (0, 0) rfl (seven_put (has_seven (HT2.out.err _).o) _ _ _ _ _ _ _) rfl) rfl ?_
    refine ans_of HV.out (v' := .slice pl 0 cp) ?_ (HO.out.keep ((HT2.out.err _).out _ _ _ _ _ _ _)) ((HT2.out.err _).out _ _ _ _ _ _ _)
    unfold headV
    dsimp only
    rw [HSs.out]; push_cast; rfl
  · have hnil3 := hnil
    obtain ⟨k, y, hk, hky, hlast⟩ := last_split hnil
    have hSk : S.size = k + 1 := by rw [HSz.out, hk]
    have hbyte : ∀ h : k < S.size, (S[k]'h).toNat = y.toNat := fun h => by rw [HByte.out k (by omega) h]; rw [List.getElem?_eq_getElem (by omega)] at hky; rw [Option.some.inj hky]
    have z13 : ¬ (y.toNat : Int) = 13 := fun e => hw13 (by rw [hlast, show y = 13 from UInt8.toNat_inj.1 (by show y.toNat = 13; omega)])
    have z14 : ((y.toNat : Int) == 13) = false := by simpa using z13
    have hwk : wrap64 (k : Int) = (k : Int) := by unfold wrap64; omega
    have hk2 : k ≤ 70368744177600 := by omega
    clear hnil hk hky hlast
    obtain ⟨e1, e2, e3⟩ := HE.out hnil3
    clear hno hnil3
    go_wp2_with (first | (go_at_call 57; (with_reducible refine (HGo.out _).mono ?_); rintro e w1 ⟨rfl, hb⟩; rw [← HW0.out] at hb; have HT1 := hid (HT0.out.below hb); obtain ⟨u0, u1, u2, u3, u4, u5, u6, _⟩ := seven HT1.out.r; clear hb) | (go_at_call 58; (with_reducible refine (HKi.out _).mono ?_); rintro e w2 ⟨rfl, hb⟩; have HT2 := hid (HT1.out.below hb); obtain ⟨x0, x1, x2, x3, x4, x5, x6, xz⟩ := seven HT2.out.r; obtain ⟨_, _, _, _, _, _, _, oz⟩ := seven HT2.out.o; have xz3 := xz 3; have xz6 := xz 6; have oz0 := oz 0; have oz1 := oz 1; have oz2 := oz 2; have oz3 := oz 3; have oz4 := oz 4; have oz5 := oz 5; have oz6 := oz 6; clear xz oz; clear hb))
    (try simp only [Exit.inBlock, Exit.then])
    refine bodyPost_ret (results_hd rfl _ _ _ 32 _ (0, 0) rfl (seven_put (has_seven (HT2.out.err _).o) _ _ _ _ _ _ _) rfl) rfl ?_
    refine ans_of HV.out (v' := .slice pl ln cp) ?_ (HO.out.keep ((HT2.out.err _).out _ _ _ _ _ _ _)) ((HT2.out.err _).out _ _ _ _ _ _ _)
    unfold headV
    dsimp only
    rw [HSs.out]; push_cast; rfl
set_option maxRecDepth 20000 in
set_option maxHeartbeats 8000000 in
theorem byte_cr2 (resp dn : Bool) (most : Int) (lines : List B) (line : B) (len er : Nat) (c : UInt8) (base : Nat) (pl : Option Addr) (ln cp : Nat) (hln : lines.length = ln) (w : World) (ho : OwnS w base (.slice pl ln cp) lines) (hlen : len ≤ 70368744177600) (hl1 : line.length ≤ 70368744177600) (hm : ¬ most < (len : Int) + 1) (hc : c = 13) (hg : goesB resp ln line true = false) (hnil : line = []) (hl0 : 0 < ln) :
    Calls Tryd.prog 40 #[headV ⟨resp, most, lines, line, len, dn, er⟩ (.slice pl ln cp), byteV c] w (ByteAns ⟨resp, most, lines, line, len, dn, er⟩ c base w) := by
  subst hc
  have hw13 : line.getLast? ≠ some 13 := by rw [hnil]; simp
  have HV := hid (show byteH ⟨resp, most, lines, line, len, dn, er⟩ 13 = ⟨resp, most, lines, line ++ [13], len + 1, dn, er⟩ from by unfold byteH; dsimp only; rw [if_neg hm, if_neg hw13, if_neg (by decide), if_pos rfl, if_pos (.inr ⟨hnil, fun h => by rw [h] at hln; simp at hln; omega⟩)])
  have HO := hid ho
  have HLn := hid hln
  unfold headV byteV
  dsimp only
  obtain ⟨S, hS⟩ : ∃ S, str line = S := ⟨_, rfl⟩
  have HSs := hid hS
  rw [hS]
  clear ho
  obtain rfl : S = ⟨#[]⟩ := by rw [← hS, hnil]
  have hl02 : (0 : Int) < (ln : Int) := by omega
  have HGo := hid (goes_any resp dn most ((len : Int) + 1) (er : Int) pl ln cp ⟨#[]⟩ (line) true (by omega))
  rw [hg, HSs.out] at HGo
  obtain ⟨W0, hW0⟩ : ∃ W0, W0 = (w.alloc (.cells #[.bool resp, .int .i64 most, .slice pl ln cp, .string ⟨#[]⟩, .int .i64 ((len : Int) + 1), .bool dn, .int .i64 (er : Int)] 32 (0, 0))).alloc (.cells #[.bool false, .int .i64 0, .slice none 0 0, .string ⟨#[]⟩, .int .i64 0, .bool false, .int .i64 0] 32 (0, 0)) := ⟨_, rfl⟩
  have HT0 := hid (HWd.start hW0)
  have HW0 := hid hW0
  have hW0s : W0.heap.size = w.heap.size + 1 + 1 := by rw [hW0]; simp
  rw [show ((13 : UInt8).toNat : Int) = 13 from rfl]
  clear hW0 hW0s hg hw13
  clear hln
  go_enter Tryd.func40, Tryd.ntmps40
  go_wp2_with (go_at_call 57; (with_reducible refine (HGo.out _).mono ?_); rintro e w1 ⟨rfl, hb⟩; rw [← HW0.out] at hb; have HT1 := hid (HT0.out.below hb); obtain ⟨x0, x1, x2, x3, x4, x5, x6, xz⟩ := seven HT1.out.r; obtain ⟨_, _, _, _, _, _, _, oz⟩ := seven HT1.out.o; have xz3 := xz 3; have xz6 := xz 6; have oz0 := oz 0; have oz1 := oz 1; have oz2 := oz 2; have oz3 := oz 3; have oz4 := oz 4; have oz5 := oz 5; have oz6 := oz 6; clear xz oz; clear hb)
  (try simp only [Exit.inBlock, Exit.then])
  refine bodyPost_ret (results_hd rfl _ _ _ 32 _ (0, 0) rfl (seven_put (has_seven (HT1.out.line _).o) _ _ _ _ _ _ _) rfl) rfl ?_
  refine ans_of HV.out (v' := .slice pl ln cp) ?_ (HO.out.keep ((HT1.out.line _).out _ _ _ _ _ _ _)) ((HT1.out.line _).out _ _ _ _ _ _ _)
  unfold headV
  dsimp only
  rw [hnil]; push_cast; rfl
set_option maxRecDepth 20000 in
set_option maxHeartbeats 8000000 in
theorem byte_end1 (resp dn : Bool) (most : Int) (lines : List B) (line : B) (len er : Nat) (c : UInt8) (base : Nat) (pl : Option Addr) (ln cp : Nat) (hln : lines.length = ln) (w : World) (ho : OwnS w base (.slice pl ln cp) lines) (hlen : len ≤ 70368744177600) (hl1 : line.length ≤ 70368744177600) (hm : ¬ most < (len : Int) + 1) (hw13 : line.getLast? = some 13) (hc : c = 13) :
    Calls Tryd.prog 40 #[headV ⟨resp, most, lines, line, len, dn, er⟩ (.slice pl ln cp), byteV c] w (ByteAns ⟨resp, most, lines, line, len, dn, er⟩ c base w) := by
  subst hc
  have HV := hid (show byteH ⟨resp, most, lines, line, len, dn, er⟩ 13 = ⟨resp, most, lines, line, len + 1, dn, kindN ln⟩ from by unfold byteH; dsimp only; rw [if_neg hm, if_pos hw13, if_neg (by decide), hln])
  have HO := hid ho
  have HLn := hid hln
  unfold headV byteV
  dsimp only
  obtain ⟨S, hS⟩ : ∃ S, str line = S := ⟨_, rfl⟩
  have HSs := hid hS
  rw [hS]
  clear ho
  have HSz := hid (show S.size = line.length from by rw [← hS]; exact str_size line)
  have HByte := hid (show ∀ (k : Nat) (h : k < line.length) (h2 : k < S.size), S[k]'h2 = line[k]'h from fun k h h2 => by subst hS; rfl)
  have HKi := hid (kind_any resp dn most ((len : Int) + 1) (er : Int) pl ln cp S)
  obtain ⟨k, y, hk, hky, hlast⟩ := last_split (show line ≠ [] from fun h => by rw [h] at hw13; simp at hw13)
  obtain rfl : y = 13 := by rw [hlast] at hw13; exact Option.some.inj hw13
  have hSk : S.size = k + 1 := by rw [HSz.out, hk]
  have hbyte : ∀ h : k < S.size, ((S[k]'h).toNat : Int) = 13 := fun h => by rw [HByte.out k (by omega) h]; rw [List.getElem?_eq_getElem (by omega)] at hky; rw [Option.some.inj hky]; rfl
  have hwk : wrap64 (k : Int) = (k : Int) := by unfold wrap64; omega
  have hk2 : k ≤ 70368744177600 := by omega
  obtain ⟨W0, hW0⟩ : ∃ W0, W0 = (w.alloc (.cells #[.bool resp, .int .i64 most, .slice pl ln cp, .string S, .int .i64 ((len : Int) + 1), .bool dn, .int .i64 (er : Int)] 32 (0, 0))).alloc (.cells #[.bool false, .int .i64 0, .slice none 0 0, .string ⟨#[]⟩, .int .i64 0, .bool false, .int .i64 0] 32 (0, 0)) := ⟨_, rfl⟩
  have HT0 := hid (HWd.start hW0)
  have HW0 := hid hW0
  have hW0s : W0.heap.size = w.heap.size + 1 + 1 := by rw [hW0]; simp
  rw [show ((13 : UInt8).toNat : Int) = 13 from rfl]
  clear hW0 hW0s hw13 hk hky hlast
  clear hS hln
  go_enter Tryd.func40, Tryd.ntmps40
  go_wp2_with (go_at_call 58; (with_reducible refine (HKi.out _).mono ?_); rintro e w2 ⟨rfl, hb⟩; rw [← HW0.out] at hb; have HT2 := hid (HT0.out.below hb); obtain ⟨x0, x1, x2, x3, x4, x5, x6, xz⟩ := seven HT2.out.r; obtain ⟨_, _, _, _, _, _, _, oz⟩ := seven HT2.out.o; have xz3 := xz 3; have xz6 := xz 6; have oz0 := oz 0; have oz1 := oz 1; have oz2 := oz 2; have oz3 := oz 3; have oz4 := oz 4; have oz5 := oz 5; have oz6 := oz 6; clear xz oz; clear hb)
  (try simp only [Exit.inBlock, Exit.then])
  refine bodyPost_ret (results_hd rfl _ _ _ 32 _ (0, 0) rfl (seven_put (has_seven (HT2.out.err _).o) _ _ _ _ _ _ _) rfl) rfl ?_
  refine ans_of HV.out (v' := .slice pl ln cp) ?_ (HO.out.keep ((HT2.out.err _).out _ _ _ _ _ _ _)) ((HT2.out.err _).out _ _ _ _ _ _ _)
  unfold headV
  dsimp only
  rw [HSs.out]; push_cast; rfl
set_option maxRecDepth 20000 in
set_option maxHeartbeats 8000000 in
theorem byte_end2 (resp dn : Bool) (most : Int) (lines : List B) (line : B) (len er : Nat) (c : UInt8) (base : Nat) (pl : Option Addr) (ln cp : Nat) (hln : lines.length = ln) (w : World) (ho : OwnS w base (.slice pl ln cp) lines) (hlen : len ≤ 70368744177600) (hl1 : line.length ≤ 70368744177600) (hm : ¬ most < (len : Int) + 1) (hw13 : line.getLast? = some 13) (hc10 : c ≠ 10) (hc13 : c ≠ 13) :
    Calls Tryd.prog 40 #[headV ⟨resp, most, lines, line, len, dn, er⟩ (.slice pl ln cp), byteV c] w (ByteAns ⟨resp, most, lines, line, len, dn, er⟩ c base w) := by
  have HV := hid (show byteH ⟨resp, most, lines, line, len, dn, er⟩ c = ⟨resp, most, lines, line, len + 1, dn, kindN ln⟩ from by unfold byteH; dsimp only; rw [if_neg hm, if_pos hw13, if_neg hc10, hln])
  have HO := hid ho
  have HLn := hid hln
  unfold headV byteV
  dsimp only
  obtain ⟨S, hS⟩ : ∃ S, str line = S := ⟨_, rfl⟩
  have HSs := hid hS
  rw [hS]
  clear ho
  have HSz := hid (show S.size = line.length from by rw [← hS]; exact str_size line)
  have HByte := hid (show ∀ (k : Nat) (h : k < line.length) (h2 : k < S.size), S[k]'h2 = line[k]'h from fun k h h2 => by subst hS; rfl)
  have HKi := hid (kind_any resp dn most ((len : Int) + 1) (er : Int) pl ln cp S)
  obtain ⟨k, y, hk, hky, hlast⟩ := last_split (show line ≠ [] from fun h => by rw [h] at hw13; simp at hw13)
  obtain rfl : y = 13 := by rw [hlast] at hw13; exact Option.some.inj hw13
  have hSk : S.size = k + 1 := by rw [HSz.out, hk]
  have hbyte : ∀ h : k < S.size, ((S[k]'h).toNat : Int) = 13 := fun h => by rw [HByte.out k (by omega) h]; rw [List.getElem?_eq_getElem (by omega)] at hky; rw [Option.some.inj hky]; rfl
  have hwk : wrap64 (k : Int) = (k : Int) := by unfold wrap64; omega
  have hk2 : k ≤ 70368744177600 := by omega
  have y101 : ¬ (c.toNat : Int) = 10 := fun e => hc10 (UInt8.toNat_inj.1 (by show c.toNat = 10; omega))
  have y102 : ((c.toNat : Int) == 10) = false := by simpa using y101
  have y103 : ((c.toNat : Int) != 10) = true := by simpa using y101
  have y131 : ¬ (c.toNat : Int) = 13 := fun e => hc13 (UInt8.toNat_inj.1 (by show c.toNat = 13; omega))
  have y132 : ((c.toNat : Int) == 13) = false := by simpa using y131
  have y133 : ((c.toNat : Int) != 13) = true := by simpa using y131
  obtain ⟨W0, hW0⟩ : ∃ W0, W0 = (w.alloc (.cells #[.bool resp, .int .i64 most, .slice pl ln cp, .string S, .int .i64 ((len : Int) + 1), .bool dn, .int .i64 (er : Int)] 32 (0, 0))).alloc (.cells #[.bool false, .int .i64 0, .slice none 0 0, .string ⟨#[]⟩, .int .i64 0, .bool false, .int .i64 0] 32 (0, 0)) := ⟨_, rfl⟩
  have HT0 := hid (HWd.start hW0)
  have HW0 := hid hW0
  have hW0s : W0.heap.size = w.heap.size + 1 + 1 := by rw [hW0]; simp
  clear hW0 hW0s hw13 hk hky hlast hc10 hc13
  clear hS hln
  go_enter Tryd.func40, Tryd.ntmps40
  go_wp2_with (go_at_call 58; (with_reducible refine (HKi.out _).mono ?_); rintro e w2 ⟨rfl, hb⟩; rw [← HW0.out] at hb; have HT2 := hid (HT0.out.below hb); obtain ⟨x0, x1, x2, x3, x4, x5, x6, xz⟩ := seven HT2.out.r; obtain ⟨_, _, _, _, _, _, _, oz⟩ := seven HT2.out.o; have xz3 := xz 3; have xz6 := xz 6; have oz0 := oz 0; have oz1 := oz 1; have oz2 := oz 2; have oz3 := oz 3; have oz4 := oz 4; have oz5 := oz 5; have oz6 := oz 6; clear xz oz; clear hb)
  (try simp only [Exit.inBlock, Exit.then])
  refine bodyPost_ret (results_hd rfl _ _ _ 32 _ (0, 0) rfl (seven_put (has_seven (HT2.out.err _).o) _ _ _ _ _ _ _) rfl) rfl ?_
  refine ans_of HV.out (v' := .slice pl ln cp) ?_ (HO.out.keep ((HT2.out.err _).out _ _ _ _ _ _ _)) ((HT2.out.err _).out _ _ _ _ _ _ _)
  unfold headV
  dsimp only
  rw [HSs.out]; push_cast; rfl
set_option maxRecDepth 20000 in
set_option maxHeartbeats 8000000 in
theorem byte_done (resp dn : Bool) (most : Int) (lines : List B) (line : B) (len er : Nat) (c : UInt8) (base : Nat) (pl : Option Addr) (ln cp : Nat) (hln : lines.length = ln) (w : World) (ho : OwnS w base (.slice pl ln cp) lines) (hlen : len ≤ 70368744177600) (hm : ¬ most < (len : Int) + 1) (hw13 : line = [13]) (hc : c = 10) (hl0 : 0 < ln) :
    Calls Tryd.prog 40 #[headV ⟨resp, most, lines, line, len, dn, er⟩ (.slice pl ln cp), byteV c] w (ByteAns ⟨resp, most, lines, line, len, dn, er⟩ c base w) := by
  subst hc
  have HV := hid (show byteH ⟨resp, most, lines, line, len, dn, er⟩ 10 = ⟨resp, most, lines, [], len + 1, true, er⟩ from by unfold byteH; dsimp only; rw [if_neg hm, if_pos (by rw [hw13]; rfl), if_pos (show (10 : UInt8) = 10 from rfl), if_pos ⟨by rw [hw13]; rfl, fun h => by rw [h] at hln; simp at hln; omega⟩])
  have HO := hid ho
  have HLn := hid hln
  unfold headV byteV
  dsimp only
  obtain ⟨S, hS⟩ : ∃ S, str line = S := ⟨_, rfl⟩
  have HSs := hid hS
  rw [hS]
  clear ho
  obtain rfl : S = ⟨#[13]⟩ := by rw [← hS, hw13]
  have hl02 : (0 : Int) < (ln : Int) := by omega
  rw [show ((10 : UInt8).toNat : Int) = 10 from rfl]
  clear hln hw13
  go_enter Tryd.func40, Tryd.ntmps40
  go_wp2
  (try simp only [Exit.inBlock, Exit.then])
  refine bodyPost_ret (results_hd rfl _ _ _ 32 _ (0, 0) rfl (new_second _ _ _) rfl) rfl ?_
  refine ans_of HV.out (v' := .slice pl ln cp) ?_ (HO.out.keep (below_two _ _ _)) (below_two _ _ _)
  unfold headV
  dsimp only
  push_cast
  rfl
end Go.Proofs.YtfmkkkkdfkjdlaaDoor
