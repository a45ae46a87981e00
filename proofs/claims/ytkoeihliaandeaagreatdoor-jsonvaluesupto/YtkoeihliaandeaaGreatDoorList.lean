/- A list, an object. -/
import Derived.Test.YtkoeihliaandeaaGreatDoorClos
import Derived.Test.YtkoeihliaandeaaGreatDoorShort
namespace Go.Proofs.YtkoeihliaandeaaGreatDoor
open Go.RowKit

theorem seven_other {U : World} {g k : Nat} (hk : k ≠ g) (c0 c1 c2 c3 c4 c5 c6 : Value) : (((((((U.setCell ⟨g, 0, none⟩ c0).setCell ⟨g, 1, none⟩ c1).setCell ⟨g, 2, none⟩ c2).setCell ⟨g, 3, none⟩ c3).setCell ⟨g, 4, none⟩ c4).setCell ⟨g, 5, none⟩ c5).setCell ⟨g, 6, none⟩ c6).heap[k]? = U.heap[k]? := by
  iterate 7 rw [Below.heap_setCell _ _ _ _ (by exact hk)]
/-- A value is handed out in a cell of its own: of what lay in memory nothing turns. -/
structure Out7 (U Wf : World) (r : Nat) : Prop where
  other : ∀ k, k ≠ r → Wf.heap[k]? = U.heap[k]?
  size : Wf.heap.size = U.heap.size
  os : Wf.os = U.os
  tape : Wf.tape = U.tape
  output : Wf.output = U.output
theorem out7 (U : World) (g : Nat) (c0 c1 c2 c3 c4 c5 c6 : Value) : Out7 U (((((((U.setCell ⟨g, 0, none⟩ c0).setCell ⟨g, 1, none⟩ c1).setCell ⟨g, 2, none⟩ c2).setCell ⟨g, 3, none⟩ c3).setCell ⟨g, 4, none⟩ c4).setCell ⟨g, 5, none⟩ c5).setCell ⟨g, 6, none⟩ c6) g :=
  ⟨fun _ hk => seven_other hk _ _ _ _ _ _ _, by simp only [size_set], by simp only [os_set], by simp only [tape_set], by simp only [output_set]⟩
theorem Out7.turn {w U Wf : World} {b r : Nat} (h : Out7 U Wf r) (ht : Turn b w U) (hr : w.heap.size ≤ r) : Turn b w Wf :=
  ⟨h.os.trans ht.os, h.tape.trans ht.tape, h.output.trans ht.output, by rw [h.size]; exact ht.size, fun k hk hb => (h.other k (by omega)).trans (ht.block k hk hb)⟩
theorem nested_end {w W w4 Wf : World} {N b v base r : Nat} {s : ByteArray} {d : Nat} {u : B} {kd : Int} {ls : List JV} {ns : List B} {lv nv : Value} {xs : List Value} {F : Nat → Prop}
    (hW : Below w.heap.size w W) (ht : TN N b W w4) (hr : w.heap.size ≤ r ∧ r < N) (hv : N ≤ v) (hO : VObj w4 v base kd ls ns lv nv xs F) (hrd : Rd w4 b s u d) (hb : b < w.heap.size) (ho : Out7 w4 Wf r) :
    ValIs Wf (fun k => w.heap.size ≤ k ∧ k < Wf.heap.size) (.mk kd false [] 0 false ls ns) [.int .i64 kd, .bool false, .string ⟨#[]⟩, .int .i64 0, .bool false, lv, nv] ∧ Rd Wf b s u d ∧ Turn b w Wf := by
  have hlt := hO.lt
  refine ⟨?_, hrd.of_heap (ho.other b (by omega)), ho.turn ⟨ht.os.trans hW.os, ht.tape.trans hW.tape, ht.output.trans hW.output, Nat.le_trans hW.size ht.size, fun k hk h1 => (ht.block k (by omega) h1).trans (hW.block k hk)⟩ hr.1⟩
  exact ValIs.keep (fun j hj => ho.other j (by omega)) (fun j hj => ⟨by omega, by rw [ho.size]; exact hj.2⟩) _ _ (hO.val (F' := fun j => base ≤ j ∧ j < w4.heap.size) (fun j h1 h2 => ⟨h1, h2⟩))
theorem lay_list {n b : Nat} (hb : b < n) (hnb : 5 ≤ b) : Lay (n + 1 + 1) b (n + 1 + 1) (n + 1 + 1 + 1) n none := ⟨by omega, ⟨by omega, by omega⟩, ⟨by omega, by omega, by omega⟩, hnb, fun m mc h => by cases h⟩
theorem lay_obj {n b : Nat} (hb : b < n) (hnb : 5 ≤ b) : Lay (n + 1 + 1) b (n + 1 + 1) (n + 1 + 1 + 1 + 1 + 1) n (some (n + 1 + 1 + 1, n + 1 + 1 + 1 + 1)) := ⟨by omega, ⟨by omega, by omega⟩, ⟨by omega, by omega, by omega⟩, hnb, fun m mc h => by
  simp only [Option.some.injEq, Prod.mk.injEq] at h
  obtain ⟨rfl, rfl⟩ := h
  omega⟩
theorem fresh_obj {W : World} {v base : Nat} {kd : Int} (hv : W.heap[v]? = some (.cells #[.int .i64 kd, .bool false, .string ⟨#[]⟩, .int .i64 0, .bool false, .slice none 0 0, .slice none 0 0] 25 (0, 0))) (hlt : v < base) (hle : base ≤ W.heap.size) : VObj W v base kd [] [] (.slice none 0 0) (.slice none 0 0) [] (fun _ => False) :=
  ⟨hv, ⟨rfl, .inl ⟨rfl, rfl⟩⟩, ⟨rfl, .inl ⟨rfl, rfl⟩⟩, ⟨rfl, fun i t h => by simp at h⟩, fun j h => h.elim, hlt, hle⟩
theorem grow (w : World) (o : Obj) : Below w.heap.size w (w.alloc o) ∧ (w.alloc o).heap.size = w.heap.size + 1 ∧ (w.alloc o).heap[w.heap.size]? = some o := ⟨below_new w o, by simp, heap_alloc_new w o⟩
/-- Three blocks are laid. -/
theorem three_new (w : World) (o1 o2 o3 : Obj) : Below w.heap.size w (((w.alloc o1).alloc o2).alloc o3) ∧ (((w.alloc o1).alloc o2).alloc o3).heap.size = w.heap.size + 1 + 1 + 1 ∧ (((w.alloc o1).alloc o2).alloc o3).heap[w.heap.size]? = some o1 ∧ (((w.alloc o1).alloc o2).alloc o3).heap[w.heap.size + 1]? = some o2 ∧ (((w.alloc o1).alloc o2).alloc o3).heap[w.heap.size + 1 + 1]? = some o3 := by
  obtain ⟨a1, a2, a3⟩ := grow w o1
  obtain ⟨b1, b2, b3⟩ := grow (w.alloc o1) o2
  obtain ⟨c1, c2, c3⟩ := grow ((w.alloc o1).alloc o2) o3
  refine ⟨(a1.trans (b1.mono (by omega))).trans (c1.mono (by omega)), by omega, ?_, ?_, ?_⟩
  · rw [c1.block _ (by omega), b1.block _ (by omega), a3]
  · rw [c1.block _ (by omega), ← a2, b3]
  · rw [← a2, ← b2, c3]
theorem start_list {w : World} {b : Nat} {s : ByteArray} {l : B} {d : Nat} (h : Rd w b s l d) (hE : Env w) {o2 : Obj} {W : World} (hW : W = ((w.alloc (.cells #[.pointer (some ⟨b, 0, none⟩)] 65 (0, 0))).alloc o2).alloc (.cells #[.int .i64 5, .bool false, .string ⟨#[]⟩, .int .i64 0, .bool false, .slice none 0 0, .slice none 0 0] 25 (0, 0))) :
    SI W W (w.heap.size + 1 + 1) b (w.heap.size + 1 + 1) (w.heap.size + 1 + 1 + 1) w.heap.size s d 5 none l ([], []) := by
  obtain ⟨a1, a2, a3, a4, a5⟩ := three_new w (.cells #[.pointer (some ⟨b, 0, none⟩)] 65 (0, 0)) o2 (.cells #[.int .i64 5, .bool false, .string ⟨#[]⟩, .int .i64 0, .bool false, .slice none 0 0, .slice none 0 0] 25 (0, 0))
  rw [← hW] at a1 a2 a3 a4 a5
  exact ⟨h.below a1, ⟨_, _, _, _, fresh_obj a5 (by omega) (by omega)⟩, hE.below a1, ⟨rfl, rfl, rfl, Nat.le_refl _, fun _ _ _ => rfl⟩, a3, fun m mc h => by cases h⟩
theorem start_obj {w : World} {b : Nat} {s : ByteArray} {l : B} {d : Nat} (h : Rd w b s l d) (hE : Env w) {o2 : Obj} {W : World} (hW : W = ((((w.alloc (.cells #[.pointer (some ⟨b, 0, none⟩)] 65 (0, 0))).alloc o2).alloc (.cells #[.int .i64 6, .bool false, .string ⟨#[]⟩, .int .i64 0, .bool false, .slice none 0 0, .slice none 0 0] 25 (0, 0))).alloc (.map #[] 0)).alloc (.cells #[.map (some (w.heap.size + 1 + 1 + 1))] 89 (0, 0))) :
    SI W W (w.heap.size + 1 + 1) b (w.heap.size + 1 + 1) (w.heap.size + 1 + 1 + 1 + 1 + 1) w.heap.size s d 6 (some (w.heap.size + 1 + 1 + 1, w.heap.size + 1 + 1 + 1 + 1)) l ([], []) := by
  obtain ⟨a1, a2, a3, a4, a5⟩ := three_new w (.cells #[.pointer (some ⟨b, 0, none⟩)] 65 (0, 0)) o2 (.cells #[.int .i64 6, .bool false, .string ⟨#[]⟩, .int .i64 0, .bool false, .slice none 0 0, .slice none 0 0] 25 (0, 0))
  obtain ⟨W3, h3⟩ : ∃ W3, W3 = ((w.alloc (.cells #[.pointer (some ⟨b, 0, none⟩)] 65 (0, 0))).alloc o2).alloc (.cells #[.int .i64 6, .bool false, .string ⟨#[]⟩, .int .i64 0, .bool false, .slice none 0 0, .slice none 0 0] 25 (0, 0)) := ⟨_, rfl⟩
  rw [← h3] at a1 a2 a3 a4 a5 hW
  obtain ⟨b1, b2, b3⟩ := grow W3 (.map #[] 0)
  obtain ⟨c1, c2, c3⟩ := grow (W3.alloc (.map #[] 0)) (.cells #[.map (some (w.heap.size + 1 + 1 + 1))] 89 (0, 0))
  rw [← hW] at c1 c2 c3
  have hB : Below W3.heap.size W3 W := b1.trans (c1.mono (by omega))
  have hB0 : Below w.heap.size w W := a1.trans (hB.mono (by omega))
  refine ⟨h.below hB0, ⟨_, _, _, _, fresh_obj (by rw [hB.block _ (by omega)]; exact a5) (by omega) (by omega)⟩, hE.below hB0, ⟨rfl, rfl, rfl, Nat.le_refl _, fun _ _ _ => rfl⟩, by rw [hB.block _ (by omega)]; exact a3, fun m mc hm => ?_⟩
  simp only [Option.some.injEq, Prod.mk.injEq] at hm
  obtain ⟨rfl, rfl⟩ := hm
  refine ⟨?_, by rw [show w.heap.size + 1 + 1 + 1 + 1 = (W3.alloc (.map #[] 0)).heap.size by omega]; exact c3⟩
  have := World.ownsMap.alloc (World.ownsMap_made W3 Tryz.prog 9 (unitElem (H := Unit))) (.cells #[.map (some (w.heap.size + 1 + 1 + 1))] 89 (0, 0))
  rw [← hW, a2] at this
  exact this
theorem five_new (w : World) (o1 o2 o3 o4 o5 : Obj) : (((((w.alloc o1).alloc o2).alloc o3).alloc o4).alloc o5).heap[w.heap.size + 1]? = some o2 := by
  obtain ⟨a1, a2, a3, a4, a5⟩ := three_new w o1 o2 o3
  rw [(below_new _ o5).block _ (by simp), (below_new _ o4).block _ (by omega), a4]
theorem below_five (w : World) (o1 o2 o3 o4 o5 : Obj) : Below w.heap.size w (((((w.alloc o1).alloc o2).alloc o3).alloc o4).alloc o5) := by
  obtain ⟨a1, a2, _⟩ := three_new w o1 o2 o3
  exact (a1.trans ((below_new _ o4).mono (by omega))).trans ((below_new _ o5).mono (by simp; omega))
set_option maxRecDepth 20000 in
set_option maxHeartbeats 4000000 in
theorem list_any {inner : B → Res JV} {w : World} {b : Nat} {s : ByteArray} {l : B} {d : Nat} (h : Rd w b s l d) (hE : Env w) (hnb : 5 ≤ b) (hsz : s.size ≤ 1048576) (hd : d ≤ 32) (hl : ∃ c l1, l = c :: l1) (hS : ShortV inner) (hv : d ≠ 32 → ValOk inner b s (d + 1)) :
    Calls Tryz.prog 51 #[.pointer (some ⟨b, 0, none⟩)] w fun e w' => ToldV (match (if d = 32 then (.err 5 l : Res St) else nestedS (listStep inner) [93] ([], []) (l.drop 1)) with | .err k u => .err k u | .ok x u => .ok (.mk 5 false [] 0 false x.2 x.1) u) b s d w e w' := by
  have HR := hid h
  have HE := hid hE
  have HSZ := hid hsz
  have HD := hid hd
  have HLL := hid hl
  have HL := hid (lay_list h.lt hnb)
  have HSh := hid (list_short hS)
  have HV := hid hv
  clear h hE hsz hd hl hv hS
  cases hT : (if d = 32 then (.err 5 l : Res St) else nestedS (listStep inner) [93] ([], []) (l.drop 1)) with
  | err k u =>
    have HT := hid hT
    clear hT
    simp only
    go_enter Tryz.func51, Tryz.ntmps51
    go_wp2_with (go_at_call 70; (have hcall := nested_list (w0 := _) HL.out HSh.out HSZ.out HD.out ⟨rfl, rfl⟩ (fun h32 => step_list HL.out (HV.out h32)) (start_list (o2 := (.cells #[.int .i64 0, .bool false, .string ⟨#[]⟩, .int .i64 0, .bool false, .slice none 0 0, .slice none 0 0] 25 (0, 0))) HR.out HE.out rfl) HLL.out; (with_reducible refine hcall.mono ?_); clear hcall; intro e w4 hq; rw [HT.out] at hq; obtain ⟨rfl, hz⟩ := hq; have Z := hid hz; clear hz; obtain ⟨⟨d', hrd⟩, ⟨ls, ns, lv, nv, xs, F, hO⟩, _⟩ := Z.out; have HRd := hid hrd; clear hrd; obtain ⟨p5, c5, rfl⟩ := own_slice hO.list; obtain ⟨p6, c6, rfl⟩ := own_slice hO.names; have HO := hid hO; clear hO; have s1 := seven HO.out.row; obtain ⟨a0, a1, a2, a3, a4, a5, a6, _⟩ := s1; have HB := hid ((Z.out.tn.block (w.heap.size + 1) (by omega) (by have := HR.out.lt; omega)).trans (three_new w _ (.cells #[.int .i64 0, .bool false, .string ⟨#[]⟩, .int .i64 0, .bool false, .slice none 0 0, .slice none 0 0] 25 (0, 0)) _ |>.2.2.2.1)); have s2 := seven HB.out; obtain ⟨b0, b1, b2, b3, b4, b5, b6, bz⟩ := s2; have bz0 := bz 0; have bz1 := bz 1; have bz2 := bz 2; have bz3 := bz 3; have bz4 := bz 4; have bz5 := bz 5; have bz6 := bz 6; clear bz))
    (try simp only [Exit.inBlock, Exit.then])
    refine bodyPost_ret (results_val2 rfl _ _ _ 25 _ (0, 0) rfl (seven_put (has_seven HB.out) _ _ _ _ _ _ _) rfl) rfl ?_
    obtain ⟨e1, e2, e3⟩ := nested_end (r := w.heap.size + 1) ((three_new w _ _ _).1) Z.out.tn ⟨by omega, by omega⟩ (Nat.le_refl _) HO.out HRd.out HR.out.lt (out7 w4 _ _ _ _ _ _ _ _)
    exact ⟨_, _, d', rfl, e1, e2, e3⟩
  | ok x u =>
    have HT := hid hT
    clear hT
    simp only
    go_enter Tryz.func51, Tryz.ntmps51
    go_wp2_with (go_at_call 70; (have hcall := nested_list (w0 := _) HL.out HSh.out HSZ.out HD.out ⟨rfl, rfl⟩ (fun h32 => step_list HL.out (HV.out h32)) (start_list (o2 := (.cells #[.int .i64 0, .bool false, .string ⟨#[]⟩, .int .i64 0, .bool false, .slice none 0 0, .slice none 0 0] 25 (0, 0))) HR.out HE.out rfl) HLL.out; (with_reducible refine hcall.mono ?_); clear hcall; intro e w4 hq; rw [HT.out] at hq; obtain ⟨rfl, hz⟩ := hq; have Z := hid hz; clear hz; obtain ⟨lv, nv, xs, F, hO⟩ := Z.out.obj; obtain ⟨p5, c5, rfl⟩ := own_slice hO.list; obtain ⟨p6, c6, rfl⟩ := own_slice hO.names; have HO := hid hO; clear hO; have s1 := seven HO.out.row; obtain ⟨a0, a1, a2, a3, a4, a5, a6, _⟩ := s1; have HB := hid ((Z.out.tn.block (w.heap.size + 1) (by omega) (by have := HR.out.lt; omega)).trans (three_new w _ (.cells #[.int .i64 0, .bool false, .string ⟨#[]⟩, .int .i64 0, .bool false, .slice none 0 0, .slice none 0 0] 25 (0, 0)) _ |>.2.2.2.1)); have s2 := seven HB.out; obtain ⟨b0, b1, b2, b3, b4, b5, b6, bz⟩ := s2; have bz0 := bz 0; have bz1 := bz 1; have bz2 := bz 2; have bz3 := bz 3; have bz4 := bz 4; have bz5 := bz 5; have bz6 := bz 6; clear bz))
    (try simp only [Exit.inBlock, Exit.then])
    refine bodyPost_ret (results_val2 rfl _ _ _ 25 _ (0, 0) rfl (seven_put (has_seven HB.out) _ _ _ _ _ _ _) rfl) rfl ?_
    obtain ⟨e1, e2, e3⟩ := nested_end (r := w.heap.size + 1) ((three_new w _ _ _).1) Z.out.tn ⟨by omega, by omega⟩ (Nat.le_refl _) HO.out Z.out.rd HR.out.lt (out7 w4 _ _ _ _ _ _ _ _)
    exact ⟨_, rfl, e1, e2, e3⟩
set_option maxRecDepth 20000 in
set_option maxHeartbeats 4000000 in
theorem object_any {inner : B → Res JV} {w : World} {b : Nat} {s : ByteArray} {l : B} {d : Nat} (h : Rd w b s l d) (hE : Env w) (hnb : 5 ≤ b) (hsz : s.size ≤ 1048576) (hd : d ≤ 32) (hl : ∃ c l1, l = c :: l1) (hS : ShortV inner) (hv : d ≠ 32 → ValOk inner b s (d + 1)) :
    Calls Tryz.prog 52 #[.pointer (some ⟨b, 0, none⟩)] w fun e w' => ToldV (match (if d = 32 then (.err 5 l : Res St) else nestedS (objStep inner) [125] ([], []) (l.drop 1)) with | .err k u => .err k u | .ok x u => .ok (.mk 6 false [] 0 false x.2 x.1) u) b s d w e w' := by
  have HR := hid h
  have HE := hid hE
  have HSZ := hid hsz
  have HD := hid hd
  have HLL := hid hl
  have HL := hid (lay_obj h.lt hnb)
  have HSh := hid (obj_short hS)
  have HV := hid hv
  clear h hE hsz hd hl hv hS
  have hmm := @run_makeMap Tryz.prog
  cases hT : (if d = 32 then (.err 5 l : Res St) else nestedS (objStep inner) [125] ([], []) (l.drop 1)) with
  | err k u =>
    have HT := hid hT
    clear hT
    simp only
    go_enter Tryz.func52, Tryz.ntmps52
    go_wp2_with (go_at_call 70; (have hcall := nested_obj (w0 := _) HL.out HSh.out HSZ.out HD.out ⟨rfl, rfl⟩ (fun h32 => step_obj HL.out HSZ.out (HV.out h32)) (start_obj (o2 := (.cells #[.int .i64 0, .bool false, .string ⟨#[]⟩, .int .i64 0, .bool false, .slice none 0 0, .slice none 0 0] 25 (0, 0))) HR.out HE.out rfl) HLL.out; (with_reducible refine hcall.mono ?_); clear hcall; intro e w4 hq; rw [HT.out] at hq; obtain ⟨rfl, hz⟩ := hq; have Z := hid hz; clear hz; obtain ⟨⟨d', hrd⟩, ⟨ls, ns, lv, nv, xs, F, hO⟩, _⟩ := Z.out; have HRd := hid hrd; clear hrd; obtain ⟨p5, c5, rfl⟩ := own_slice hO.list; obtain ⟨p6, c6, rfl⟩ := own_slice hO.names; have HO := hid hO; clear hO; have s1 := seven HO.out.row; obtain ⟨a0, a1, a2, a3, a4, a5, a6, _⟩ := s1; have HB := hid ((Z.out.tn.block (w.heap.size + 1) (by omega) (by have := HR.out.lt; omega)).trans (five_new w _ (.cells #[.int .i64 0, .bool false, .string ⟨#[]⟩, .int .i64 0, .bool false, .slice none 0 0, .slice none 0 0] 25 (0, 0)) _ _ _)); have s2 := seven HB.out; obtain ⟨b0, b1, b2, b3, b4, b5, b6, bz⟩ := s2; have bz0 := bz 0; have bz1 := bz 1; have bz2 := bz 2; have bz3 := bz 3; have bz4 := bz 4; have bz5 := bz 5; have bz6 := bz 6; clear bz))
    (try simp only [Exit.inBlock, Exit.then])
    refine bodyPost_ret (results_val2 rfl _ _ _ 25 _ (0, 0) rfl (seven_put (has_seven HB.out) _ _ _ _ _ _ _) rfl) rfl ?_
    obtain ⟨e1, e2, e3⟩ := nested_end (r := w.heap.size + 1) (below_five w _ _ _ _ _) Z.out.tn ⟨by omega, by omega⟩ (Nat.le_refl _) HO.out HRd.out HR.out.lt (out7 w4 _ _ _ _ _ _ _ _)
    exact ⟨_, _, d', rfl, e1, e2, e3⟩
  | ok x u =>
    have HT := hid hT
    clear hT
    simp only
    go_enter Tryz.func52, Tryz.ntmps52
    go_wp2_with (go_at_call 70; (have hcall := nested_obj (w0 := _) HL.out HSh.out HSZ.out HD.out ⟨rfl, rfl⟩ (fun h32 => step_obj HL.out HSZ.out (HV.out h32)) (start_obj (o2 := (.cells #[.int .i64 0, .bool false, .string ⟨#[]⟩, .int .i64 0, .bool false, .slice none 0 0, .slice none 0 0] 25 (0, 0))) HR.out HE.out rfl) HLL.out; (with_reducible refine hcall.mono ?_); clear hcall; intro e w4 hq; rw [HT.out] at hq; obtain ⟨rfl, hz⟩ := hq; have Z := hid hz; clear hz; obtain ⟨lv, nv, xs, F, hO⟩ := Z.out.obj; obtain ⟨p5, c5, rfl⟩ := own_slice hO.list; obtain ⟨p6, c6, rfl⟩ := own_slice hO.names; have HO := hid hO; clear hO; have s1 := seven HO.out.row; obtain ⟨a0, a1, a2, a3, a4, a5, a6, _⟩ := s1; have HB := hid ((Z.out.tn.block (w.heap.size + 1) (by omega) (by have := HR.out.lt; omega)).trans (five_new w _ (.cells #[.int .i64 0, .bool false, .string ⟨#[]⟩, .int .i64 0, .bool false, .slice none 0 0, .slice none 0 0] 25 (0, 0)) _ _ _)); have s2 := seven HB.out; obtain ⟨b0, b1, b2, b3, b4, b5, b6, bz⟩ := s2; have bz0 := bz 0; have bz1 := bz 1; have bz2 := bz 2; have bz3 := bz 3; have bz4 := bz 4; have bz5 := bz 5; have bz6 := bz 6; clear bz))
    (try simp only [Exit.inBlock, Exit.then])
    refine bodyPost_ret (results_val2 rfl _ _ _ 25 _ (0, 0) rfl (seven_put (has_seven HB.out) _ _ _ _ _ _ _) rfl) rfl ?_
    obtain ⟨e1, e2, e3⟩ := nested_end (r := w.heap.size + 1) (below_five w _ _ _ _ _) Z.out.tn ⟨by omega, by omega⟩ (Nat.le_refl _) HO.out Z.out.rd HR.out.lt (out7 w4 _ _ _ _ _ _ _ _)
    exact ⟨_, rfl, e1, e2, e3⟩
end Go.Proofs.YtkoeihliaandeaaGreatDoor
