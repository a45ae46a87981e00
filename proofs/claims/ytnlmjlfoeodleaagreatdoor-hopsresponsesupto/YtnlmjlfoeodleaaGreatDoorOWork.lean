/- A request that goes on, by the program. -/
import Derived.Test.YtnlmjlfoeodleaaGreatDoorOReqP
namespace Go.Proofs.YtnlmjlfoeodleaaGreatDoor
open Go.RowKit

theorem fourCO {w : World} {g : Nat} {T : TypeId} {fr : Nat × Nat} {x0 x1 x2 x3 : Value} (h : w.heap[g]? = some (.cells #[x0, x1, x2, x3] T fr)) (c0 c1 c2 c3 : Value) :
    ((((w.setCell ⟨g, 0, none⟩ c0).setCell ⟨g, 1, none⟩ c1).setCell ⟨g, 2, none⟩ c2).setCell ⟨g, 3, none⟩ c3).heap[g]? = some (.cells #[c0, c1, c2, c3] T fr) := by
  simp [World.setCell, Array.getElem?_modify, h]
structure Cells4O (w : World) (g : Nat) (c0 c1 c2 c3 : Value) : Prop where
  a0 : w.cell? ⟨g, 0, none⟩ = some c0
  a1 : w.cell? ⟨g, 1, none⟩ = some c1
  a2 : w.cell? ⟨g, 2, none⟩ = some c2
  a3 : w.cell? ⟨g, 3, none⟩ = some c3
  z : ∀ j, w.frozen? ⟨g, j, none⟩ = false
theorem cells4O {w : World} {g : Nat} {c0 c1 c2 c3 : Value} {T : TypeId} (h : w.heap[g]? = some (.cells #[c0, c1, c2, c3] T (0, 0))) : Cells4O w g c0 c1 c2 c3 := by
  refine ⟨?_, ?_, ?_, ?_, fun j => by simp [World.frozen?, h]⟩ <;> simp [World.cell?, h]
theorem only4O {F : Nat → Prop} {w : World} {g : Nat} (hg : F g) (c0 c1 c2 c3 : Value) : Only F w ((((w.setCell ⟨g, 0, none⟩ c0).setCell ⟨g, 1, none⟩ c1).setCell ⟨g, 2, none⟩ c2).setCell ⟨g, 3, none⟩ c3) := by
  iterate 4 refine Only.set ?_ hg _
  exact Only.refl _ _
theorem req_sizeO : (Tryz.prog.info? 54).map (·.size) = some 4 := by kernel_rfl
theorem results_reqO {fn : Func} {p u : Tmp} (h : fn.results = #[.cell p 54, .tmp u]) (tmps : Array Value) (w : World) (g : Nat) (t : TypeId) (cs : Array Value) (fr : Nat × Nat)
    (hp : tmps.getD p undef = .pointer (some ⟨g, 0, none⟩)) (hg : w.heap[g]? = some (.cells cs t fr)) (hs : cs.size = 4) : (results fn tmps).run Tryz.prog w = .ok (.tuple #[.agg cs, tmps.getD u undef]) w := by
  have hl := run_loadVar_row (P := Tryz.prog) w g t 54 cs fr _ hg Tryz.underlying54 rfl (by rw [req_sizeO, hs])
  rw [results_cell_tmp h, hp]
  simp [asAddr, Result.andThen, hl]

theorem mem_setR {nm : ByteArray} {x f : B × B} : ∀ {l : List (B × B)} {d : Bool}, f ∈ setR nm x d l → f ∈ l ∨ f = x
  | [], _, h => by unfold setR at h; exact .inl h
  | y :: l, d, h => by
    by_cases hy : isF nm y = true
    · cases d with
      | true =>
        rw [setR_skip hy] at h
        exact (mem_setR h).imp (List.mem_cons_of_mem _) id
      | false =>
        rw [setR_put hy] at h
        rcases List.mem_cons.1 h with h1 | h1
        · exact .inr h1
        · exact (mem_setR h1).imp (List.mem_cons_of_mem _) id
    · rw [setR_no (by simpa using hy)] at h
      rcases List.mem_cons.1 h with h1 | h1
      · exact .inl (by rw [h1]; exact List.mem_cons_self ..)
      · exact (mem_setR h1).imp (List.mem_cons_of_mem _) id
theorem mem_setB {fs : List (B × B)} {nm : ByteArray} {x f : B × B} (h : f ∈ setB fs nm x) : f ∈ fs ∨ f = x := by
  unfold setB at h
  split at h
  · exact mem_setR h
  · rcases List.mem_append.1 h with h1 | h1
    · exact .inl h1
    · simp at h1; exact .inr h1
theorem setB_len (fs : List (B × B)) (nm : ByteArray) (x : B × B) : (setB fs nm x).length ≤ fs.length + 1 := by
  unfold setB
  split
  · exact Nat.le_succ_of_le (setR_len nm x fs false)
  · simp
def szC (C : Nat) (fs : List (B × B)) : Prop := ∀ f ∈ fs, f.1.length ≤ C ∧ f.2.length ≤ C
theorem onQ1_mem {fs : List (B × B)} {f : B × B} (h : f ∈ onQ1 fs) : f ∈ fs := by
  unfold onQ1 framF frmA bareF delB stripF at h
  rw [if_neg (by decide), if_neg (by decide), List.append_nil] at h
  exact (List.mem_filter.1 (List.mem_filter.1 (List.mem_filter.1 (List.mem_filter.1 h).1).1).1).1
theorem fwdV_len {fs : List (B × B)} {cl : B} {C D : Nat} (h : ∀ f ∈ fs, f.2.length ≤ C) (hc : cl.length ≤ D) : (fwdV fs cl).length ≤ C + D + 2 := by
  unfold fwdV
  split
  · omega
  · have h9 := getB_small (nm := str xfB) h
    have h8 : (getB fs (str xfB)).1.data.toList.length = (getB fs (str xfB)).1.size := Array.length_toList
    simp only [List.length_append, h8, List.length_cons, List.length_nil]
    omega
theorem viaV_len (k : Int) : (viaV k).length ≤ 13 := by unfold viaV; split <;> decide
theorem onQ_sz {m : B} {fs : List (B × B)} {cl : B} {k L : Int} (hsz : szN fs) (hc : cl.length ≤ 1048576) (hL0 : -9223372036854775808 ≤ L) (hL1 : L ≤ 9223372036854775807) : szC 4194304 (onQ m fs cl k L) := by
  have h1 : szC 1048576 (onQ1 fs) := fun f hf => hsz f (onQ1_mem hf)
  have h2 : szC 4194304 (fwdF (onQ1 fs) cl) := fun f hf => by
    rcases mem_setB hf with h | h
    · exact ⟨Nat.le_trans (h1 f h).1 (by decide), Nat.le_trans (h1 f h).2 (by decide)⟩
    · subst h
      exact ⟨show xfB.length ≤ 4194304 from by decide, Nat.le_trans (fwdV_len (fun f hf => (h1 f hf).2) hc) (by decide)⟩
  have h3 : szC 4194304 (onQ2 fs cl k) := fun f hf => by
    unfold onQ2 viaF at hf
    rcases List.mem_append.1 hf with h | h
    · exact h2 f h
    · simp at h
      subst h
      exact ⟨show viaN.length ≤ 4194304 from by decide, Nat.le_trans (viaV_len k) (by decide)⟩
  intro f hf
  unfold onQ at hf
  split at hf
  · rcases List.mem_append.1 hf with h | h
    · exact h3 f h
    · simp at h
      subst h
      refine ⟨show clB.length ≤ 4194304 from by decide, ?_⟩
      rcases itoa_few L with h5 | h5
      · exact Nat.le_trans h5 (by decide)
      · omega
  · exact h3 f hf
theorem szC_W {C : Nat} {fs : List (B × B)} (h : szC C fs) (hC : C ≤ 140737488351232) : szW fs := fun f hf => ⟨Nat.le_trans (h f hf).1 hC, Nat.le_trans (h f hf).2 hC⟩
theorem stripF_le (fs : List (B × B)) : (stripF fs).length ≤ fs.length := List.length_filter_le _ _
theorem onQ1_len (fs : List (B × B)) : (onQ1 fs).length ≤ fs.length := by
  unfold onQ1 framF frmA
  rw [if_neg (by decide), if_neg (by decide), List.append_nil]
  exact Nat.le_trans (bareF_len _) (Nat.le_trans (del_le _ _) (stripF_le _))
theorem fwdF_len (fs : List (B × B)) (cl : B) : (fwdF fs cl).length ≤ fs.length + 1 := setB_len _ _ _
theorem wreq_e (m t : B) (k : Int) (fs : List (B × B)) (p : Option Addr) (n c : Nat) (hn : fs.length = n) (w : World) (hE : EnvP w) (hF : FAt w p fs) (hsz : szC 4194304 fs) (hnn : n ≤ 100000) (hm : m.length ≤ 1048576) (ht : t.length ≤ 1048576) : Calls Tryz.prog 45 #[.agg #[.string (str m), .string (str t), .int .i64 k, .slice p n c]] w fun e w' => ∃ v, e = .returned (.tuple #[v, errOf (reqE m t k fs)]) ∧ Below w.heap.size w w' := by
  have hz2 : ∀ f ∈ fs, f.1.length ≤ 140737488355328 ∧ f.2.length ≤ 140737488355328 := fun f hf => ⟨Nat.le_trans (hsz f hf).1 (by decide), Nat.le_trans (hsz f hf).2 (by decide)⟩
  by_cases hl : lineQ m t k = true
  · by_cases hz : wrE (firstQ m t (verC k)) fs = 0
    · refine (wreq_yes m t k fs p n c hn w hE hF hz2 (by omega) (by omega) (by omega) hl hz).mono ?_
      intro e w' h9
      have he : reqE m t k fs = 0 := by unfold reqE; rw [if_pos hl]; exact hz
      rw [he]
      obtain ⟨q9, d9, rfl, _, hb⟩ := h9
      exact ⟨_, rfl, hb⟩
    · refine (wreq_no m t k fs p n c hn w hE hF hz2 (by omega) (by omega) (by omega) hl hz).mono ?_
      intro e w' h9
      have he : reqE m t k fs = wrE (firstQ m t (verC k)) fs := by unfold reqE; rw [if_pos hl]
      rw [he]
      obtain ⟨rfl, hb⟩ := h9
      exact ⟨_, rfl, hb⟩
  · have hl' : lineQ m t k = false := by simpa using hl
    refine (wreq_line m t k p n c w (by omega) (by omega) hl').mono ?_
    rintro e w' ⟨rfl, hb⟩
    have he : reqE m t k fs = 20 := by unfold reqE; rw [if_neg hl]
    rw [he]
    exact ⟨_, rfl, hb⟩
/-- What is carried along: what was handed in, in its box, and the box of the answer. -/
structure RqO (w W : World) (A : Array Value) : Prop where
  low : Below w.heap.size w W
  bx : W.heap[w.heap.size]? = some (.cells A 54 (0, 0))
  rz : W.heap[w.heap.size + 1]? = some (.cells #[.string ⟨#[]⟩, .string ⟨#[]⟩, .int .i64 0, .slice none 0 0] 54 (0, 0))
theorem RqO.next {w W W' : World} {A : Array Value} (h : RqO w W A) (hb : Below W.heap.size W W') : RqO w W' A := ⟨below_out h.low hb, (hb.block _ (lt_of_heap h.bx)).trans h.bx, (hb.block _ (lt_of_heap h.rz)).trans h.rz⟩
theorem RqO.start (w : World) (A : Array Value) : RqO w ((w.alloc (.cells A 54 (0, 0))).alloc (.cells #[.string ⟨#[]⟩, .string ⟨#[]⟩, .int .i64 0, .slice none 0 0] 54 (0, 0))) A := by
  have h1 := below_new (w.alloc (.cells A 54 (0, 0))) (.cells #[.string ⟨#[]⟩, .string ⟨#[]⟩, .int .i64 0, .slice none 0 0] 54 (0, 0))
  have hz : (w.alloc (.cells A 54 (0, 0))).heap.size = w.heap.size + 1 := by simp
  refine ⟨below_out (below_new _ _) h1, (h1.block _ (by omega)).trans (heap_alloc_new w _), ?_⟩
  have h2 := heap_alloc_new (w.alloc (.cells A 54 (0, 0))) (.cells #[.string ⟨#[]⟩, .string ⟨#[]⟩, .int .i64 0, .slice none 0 0] 54 (0, 0))
  rw [hz] at h2
  exact h2
/-- .. and what goes on, in a box of its own. -/
structure RtO (w W : World) (A : Array Value) (gL g9 : Nat) (F : List (B × B)) : Prop where
  low : Below w.heap.size w W
  rz : W.heap[w.heap.size + 1]? = some (.cells #[.string ⟨#[]⟩, .string ⟨#[]⟩, .int .i64 0, .slice none 0 0] 54 (0, 0))
  nw : W.heap[g9]? = some (.cells A 54 (0, 0))
  row : BlkF W gL F
  gl : w.heap.size + 1 < gL
theorem RtO.next {w W W' : World} {A : Array Value} {gL g9 : Nat} {F : List (B × B)} (h : RtO w W A gL g9 F) (hb : Below W.heap.size W W') : RtO w W' A gL g9 F := ⟨below_out h.low hb, (hb.block _ (lt_of_heap h.rz)).trans h.rz, (hb.block _ (lt_of_heap h.nw)).trans h.nw, h.row.next hb, h.gl⟩
theorem blkF_only {W W' : World} {g j : Nat} {F : List (B × B)} (h : BlkF W g F) (ho : Only (fun k => k = j) W W') (hne : g ≠ j) : BlkF W' g F := (ho.block g (lt_of_heap h) hne).trans h
theorem RtO.made {w W : World} {A : Array Value} {gL g9 : Nat} {F : List (B × B)} {x0 x1 x2 x3 : Value} (h : RqO w W A) (hr : BlkF W gL F) (hg : w.heap.size + 1 < gL) (h9 : W.heap[g9]? = some (.cells #[x0, x1, x2, x3] 54 (0, 0))) (hw9 : w.heap.size + 1 < g9) (hne : gL ≠ g9) (c0 c1 c2 c3 : Value) : RtO w ((((W.setCell ⟨g9, 0, none⟩ c0).setCell ⟨g9, 1, none⟩ c1).setCell ⟨g9, 2, none⟩ c2).setCell ⟨g9, 3, none⟩ c3) #[c0, c1, c2, c3] gL g9 F := by
  have ho := only4O (F := fun k => k = g9) (w := W) rfl c0 c1 c2 c3
  refine ⟨?_, (ho.block _ (lt_of_heap h.rz) (fun e => by have e2 : w.heap.size + 1 = g9 := e; omega)).trans h.rz, fourCO h9 c0 c1 c2 c3, blkF_only hr ho hne, hg⟩
  iterate 4 refine Below.setCell ?_ (show w.heap.size ≤ g9 by omega) _
  exact h.low
/-- What Request answers. -/
def QAns (m t : B) (F : List (B × B)) (w : World) (e : Ending) (w' : World) : Prop :=
  (greatE F.length (reqE m t 1 F) ≠ 0 ∧ e = .returned (.tuple #[.agg #[.string ⟨#[]⟩, .string ⟨#[]⟩, .int .i64 0, .slice none 0 0], .iface 72 (.int .i64 (greatE F.length (reqE m t 1 F) : Int))]) ∧ Below w.heap.size w w') ∨
  (greatE F.length (reqE m t 1 F) = 0 ∧ ∃ g, e = .returned (.tuple #[.agg #[.string (str m), .string (str t), .int .i64 1, .slice (some ⟨g, 0, none⟩) F.length F.length], .nilIface]) ∧ w.heap.size ≤ g ∧ BlkF w' g F ∧ Below w.heap.size w w')
theorem keep4O {W : World} {g h j : Nat} {c0 c1 c2 c3 : Value} (hne : g ≠ h) : ((((W.setCell ⟨h, 0, none⟩ c0).setCell ⟨h, 1, none⟩ c1).setCell ⟨h, 2, none⟩ c2).setCell ⟨h, 3, none⟩ c3).cell? ⟨g, j, none⟩ = W.cell? ⟨g, j, none⟩ := by
  simp [World.cell?, World.setCell, Array.getElem?_modify, Ne.symm hne]
theorem keep4Z {W : World} {g h j : Nat} {c0 c1 c2 c3 : Value} (hne : g ≠ h) : ((((W.setCell ⟨h, 0, none⟩ c0).setCell ⟨h, 1, none⟩ c1).setCell ⟨h, 2, none⟩ c2).setCell ⟨h, 3, none⟩ c3).frozen? ⟨g, j, none⟩ = W.frozen? ⟨g, j, none⟩ := by
  simp [World.frozen?, World.setCell, Array.getElem?_modify, Ne.symm hne]
theorem wpAnyD_twoD {P : Program} {ops : Array Oper} {Q : Exit → Act → World → Prop} {md : Region.Mode} {S : World → Prop} {D : Nat → Bool} {i j : Nat} {oi oj : Oper} {fuel : Nat} {listed : Array Bool} {a : Act} {w : World} (hr : Region.ready md ops listed = [i, j]) (hoi : ops[i]? = some oi) (hoj : ops[j]? = some oj)
    (h1 : ∀ K' : Act → World → Prop, (∀ a w, ((D i = false → S w) ∧ wpAnyD P md ops Q S D fuel (listed.setIfInBounds i true) a w) → K' a w) → if Region.wanted oi (yielded ops a.tmps) = true then Oper.wp P oi a w K' Q else K' (a.put oi.dst undef) w)
    (h2 : ∀ K' : Act → World → Prop, (∀ a w, ((D j = false → S w) ∧ wpAnyD P md ops Q S D fuel (listed.setIfInBounds j true) a w) → K' a w) → if Region.wanted oj (yielded ops a.tmps) = true then Oper.wp P oj a w K' Q else K' (a.put oj.dst undef) w) :
    wpAnyD P md ops Q S D (fuel + 1) listed a w := by
  refine ⟨fun h0 => (by rw [hr] at h0; cases h0), fun k hk => ?_⟩
  rw [hr] at hk
  simp only [List.mem_cons, List.not_mem_nil, or_false] at hk
  rcases hk with rfl | rfl
  · exact wpOp_step hoi h1
  · exact wpOp_step hoj h2
set_option maxRecDepth 20000 in
set_option maxHeartbeats 32000000 in
theorem preq_y (m t : B) (k : Int) (fs : List (B × B)) (p : Option Addr) (n c : Nat) (hn : fs.length = n) (cl : B) (L : Int) (w : World) (hF : FAt w p fs) (hsz : szN fs) (hnn : n ≤ 1000) (hm : m.length ≤ 1048576) (ht : t.length ≤ 1048576) (hcl : cl.length ≤ 1048576) (hL0 : -9223372036854775808 ≤ L) (hL1 : L ≤ 9223372036854775807) (hE : EnvP w) (hmx : ∃ m : Int, w.cell? ⟨2, 0, none⟩ = some (.int .i64 m)) (hTl : tellsB m L = true) :
    Calls Tryz.prog 21 #[.agg #[.string (str m), .string (str t), .int .i64 k, .slice p n c], .string (str cl), .int .i64 L] w fun e w' => QAns m t (onQ m fs cl k L) w e w' := by
  have hF1z : szC 4194304 (onQ m fs cl k L) := onQ_sz hsz hcl hL0 hL1
  have h1z : szC 1048576 (onQ1 fs) := fun f hf => hsz f (onQ1_mem hf)
  have h1w := szC_W h1z (by decide)
  have h0w : szW (stripF fs) := fun f hf => szC_W (C := 1048576) hsz (by decide) f (List.mem_filter.1 hf).1
  have hw1 : szW (delB (stripF fs) (str expB)) := szW_del _ h0w
  have HSt := hid (show ∀ W : World, Below w.heap.size w W → _ from fun W hb => pstrip fs p n c hn W (hF.next hb) hsz hnn (hmx.elim fun m h => ⟨m, cell_keep hb h⟩))
  have hl0 := stripF_le fs
  have hl1 := del_le (stripF fs) (str expB)
  have hl2 := onQ1_len fs
  have hl3 := fwdF_len (onQ1 fs) cl
  have HDl0 := hid (show ∀ (W : World) (q : Option Addr) (s d : Nat), (stripF fs).length = s → FAt W q (stripF fs) → _ from fun W q s d hs h => pdel_any (stripF fs) q s d hs expB W h h0w (by decide) (by omega))
  have HDl := hid (show ∀ (W : World) (q : Option Addr) (s d : Nat), (stripF fs).length = s → FAt W q (stripF fs) → Calls Tryz.prog 38 #[.slice q s d, .string (⟨#[69, 120, 112, 101, 99, 116]⟩ : ByteArray)] W _ from HDl0.out)
  have HFr := hid (show ∀ (W : World) (g s : Nat), Below w.heap.size w W → (delB (stripF fs) (str expB)).length = s → BlkF W g (delB (stripF fs) (str expB)) → _ from fun W g s hb hs h => pframing (delB (stripF fs) (str expB)) 0 0 (some ⟨g, 0, none⟩) s s hs W h.fat hw1 (by omega) (by decide) (by decide) (hE.next hb))
  rw [show framF (delB (stripF fs) (str expB)) 0 0 = onQ1 fs from rfl] at HFr
  have HFw := hid (show ∀ (W : World) (g s : Nat), (onQ1 fs).length = s → BlkF W g (onQ1 fs) → _ from fun W g s hs h => pforwarded (onQ1 fs) cl (some ⟨g, 0, none⟩) s s hs (Nat.le_refl _) (fun e => by cases e) (fun ad e => by cases e; rfl) W h.fat h1w (by omega) (Nat.le_trans hcl (by decide)) (fun f hf => Nat.le_trans (h1z f hf).2 (by decide)))
  have hvw : szW (fwdF (onQ1 fs) cl) := fun f hf => by
    rcases mem_setB hf with h | h
    · exact h1w f h
    · subst h
      exact ⟨show xfB.length ≤ 140737488351232 from by decide, Nat.le_trans (fwdV_len (fun f hf => (h1z f hf).2) hcl) (by decide)⟩
  have HVi := hid (show ∀ (W : World) (g s : Nat), Below w.heap.size w W → (fwdF (onQ1 fs) cl).length = s → BlkF W g (fwdF (onQ1 fs) cl) → _ from fun W g s hb hs h => pvia (fwdF (onQ1 fs) cl) k (some ⟨g, 0, none⟩) s s hs (Nat.le_refl _) (fun e => by cases e) (fun ad e => by cases e; rfl) W h.fat hvw (by omega) (hE.next hb))
  rw [show viaF (fwdF (onQ1 fs) cl) k = onQ2 fs cl k from rfl] at HVi
  have hl4 : (onQ2 fs cl k).length ≤ fs.length + 2 := by
    unfold onQ2 viaF
    rw [List.length_append]
    simp only [List.length_cons, List.length_nil]
    omega
  have HTe := hid (show ∀ W : World, _ from fun W => ptells m L W)
  rw [hTl] at HTe
  have hlF : (onQ m fs cl k L).length ≤ 100000 := by
    unfold onQ
    rw [if_pos hTl, List.length_append]
    simp only [List.length_cons, List.length_nil]
    omega
  have HTx := hid (show ∀ W : World, Below w.heap.size w W → _ from fun W hb => ptext L W hL0 hL1 (hE.next hb))
  have h4w : szW (onQ2 fs cl k) := fun f hf => by
    refine szC_W hF1z (by decide) f ?_
    unfold onQ
    rw [if_pos hTl]
    exact List.mem_append_left _ hf
  have HAd0 := hid (show ∀ (W : World) (g s : Nat), (onQ2 fs cl k).length = s → BlkF W g (onQ2 fs cl k) → _ from fun W g s hs h => padd_some (onQ2 fs cl k) g 0 s s hs (Nat.le_refl _) clB (Lib.itoa L) W h.fat h4w (by decide) (itoa_ok hL0 hL1) (by omega))
  obtain ⟨TX, hTX⟩ : ∃ X, str (Lib.itoa L) = X := ⟨_, rfl⟩
  rw [hTX] at HTx HAd0
  have HAd := hid (show ∀ (W : World) (g s : Nat), (onQ2 fs cl k).length = s → BlkF W g (onQ2 fs cl k) → Calls Tryz.prog 42 #[.slice (some ⟨g, 0, none⟩) s s, .string (⟨#[67, 111, 110, 116, 101, 110, 116, 45, 76, 101, 110, 103, 116, 104]⟩ : ByteArray), .string TX] W _ from HAd0.out)
  obtain ⟨F, hFF⟩ : ∃ F, onQ m fs cl k L = F := ⟨_, rfl⟩
  rw [hFF] at hF1z
  rw [hFF]
  have HWr := hid (show ∀ (W : World) (g s : Nat), Below w.heap.size w W → F.length = s → BlkF W g F → _ from fun W g s hb hs h => wreq_e m t 1 F (some ⟨g, 0, none⟩) s s hs W (hE.next hb) h.fat hF1z (by rw [← hs, ← hFF]; exact hlF) hm ht)
  have HC1 := hid (show ∀ W : World, _ from fun W => clone_any (str m) W (by rw [str_size]; omega))
  have HC2 := hid (show ∀ W : World, _ from fun W => clone_any (str t) W (by rw [str_size]; omega))
  have HFe := hid (show onQ2 fs cl k ++ [(clB, Lib.itoa L)] = F from by rw [← hFF]; unfold onQ; rw [if_pos hTl])
  unfold QAns
  obtain ⟨e0, he0⟩ : ∃ e0, reqE m t 1 F = e0 := ⟨_, rfl⟩
  rw [he0] at HWr
  rw [he0]
  obtain ⟨M, hM⟩ : ∃ M, str m = M := ⟨_, rfl⟩
  obtain ⟨T, hT⟩ : ∃ T, str t = T := ⟨_, rfl⟩
  obtain ⟨CC, hCC⟩ : ∃ C, str cl = C := ⟨_, rfl⟩
  rw [hM] at HTe HWr HC1
  rw [hT] at HWr HC2
  rw [hCC] at HFw
  rw [hM, hT, hCC]
  obtain ⟨X0, hX0⟩ : ∃ X, stripF fs = X := ⟨_, rfl⟩
  rw [hX0] at HSt HDl HFr
  obtain ⟨X1, hX1⟩ : ∃ X, delB X0 (str expB) = X := ⟨_, rfl⟩
  rw [hX1] at HDl HFr
  obtain ⟨X2, hX2⟩ : ∃ X, onQ1 fs = X := ⟨_, rfl⟩
  rw [hX2] at HFr HFw HVi
  obtain ⟨X3, hX3⟩ : ∃ X, fwdF X2 cl = X := ⟨_, rfl⟩
  rw [hX3] at HFw HVi
  obtain ⟨X4, hX4⟩ : ∃ X, onQ2 fs cl k = X := ⟨_, rfl⟩
  rw [hX4] at HVi HFe HAd
  have HR0 := hid (RqO.start w #[.string M, .string T, .int .i64 k, .slice p n c])
  clear hF hsz hn hmx hF1z h1z h1w h0w hw1 hl0 hl1 hl2 hl3 hl4 hvw hFF he0 hM hT hCC hX0 hX1 hX2 hX3 hX4 hTl hE hlF HDl0 hm ht hcl hTX h4w HAd0
  go_enter Tryz.func21, Tryz.ntmps21
  obtain ⟨y0, y1, y2, y3, _⟩ := cells4O HR0.out.bx
  go_wp2_with (first | (go_at_call 36; (with_reducible refine (HSt.out _ HR0.out.low).mono ?_); rintro e w1 ⟨v1, rfl, ho, hb⟩; obtain ⟨q1, d1, rfl⟩ := own_slice ho; have HR1 := hid (HR0.out.next hb); have HF1 := hid (OwnF.fat ho); clear hb ho HSt HR0 y0 y1 y2 y3) | (go_at_call 38; (with_reducible refine (HDl.out _ _ _ _ rfl HF1.out).mono ?_); rintro e w2 ⟨g2, m2, rfl, hl, hg, hbk, hb⟩; have HR2 := hid (HR1.out.next hb); have HK2 := hid hbk; have HL2 := hid hl; clear hb hl hg hbk HDl HR1 HF1) | (go_at_call 37; (with_reducible refine (HFr.out _ _ _ HR2.out.low HL2.out HK2.out).mono ?_); rintro e w3 ⟨g3, m3, rfl, hl, hg, hbk, hb⟩; have HR3 := hid (HR2.out.next hb); have HK3 := hid hbk; have HL3 := hid hl; clear hb hl hg hbk HFr HR2 HK2 HL2))
  have HR4 := hid (show RqO w w3.drew #[.string M, .string T, .int .i64 k, .slice p n c] from HR3.out.next ⟨rfl, rfl, rfl, Nat.le_refl _, fun _ _ => rfl⟩)
  have HK4 := hid (show BlkF w3.drew g3 X2 from HK3.out)
  generalize hW4 : w3.drew = w4 at HR4 HK4
  refine wp_region_noPanic ?_
  refine any_begin 7 (by kernel_rfl) (by kernel_rfl) ?_
  rw [hW4]
  clear hW4 HR3 HK3
  refine late_begin (fun U => Cells4O U w.heap.size (.string M) (.string T) (.int .i64 k) (.slice p n c)) (fun _ => false) (show Cells4O w4 w.heap.size (.string M) (.string T) (.int .i64 k) (.slice p n c) from cells4O HR4.out.bx) (fun hS => ?_)
  refine late_take (i := 0) (some 19) rfl rfl (by kernel_rfl) (by kernel_rfl) (by kernel_rfl) (by kernel_rfl) (by kernel_rfl) (fun _ _ _ h => h) (by rfl) (v := ?v0r2) ?hy0r2 hS ?rest0r2
  case hy0r2 => intro w0 hSw; obtain ⟨a0, a1, a2, a3, _⟩ := hSw; go_simp; try with_reducible rfl
  simp only [Act.put, List.setIfInBounds_toArray, List.set_cons_zero, List.set_cons_succ]
  refine late_take (i := 1) (some 20) rfl rfl (by kernel_rfl) (by kernel_rfl) (by kernel_rfl) (by kernel_rfl) (by kernel_rfl) (fun _ _ _ h => h) (by rfl) (v := ?v1r2) ?hy1r2 hS ?rest1r2
  case hy1r2 => intro w0 hSw; obtain ⟨a0, a1, a2, a3, _⟩ := hSw; go_simp; try with_reducible rfl
  simp only [Act.put, List.setIfInBounds_toArray, List.set_cons_zero, List.set_cons_succ]
  refine late_take (i := 3) (some 22) rfl rfl (by kernel_rfl) (by kernel_rfl) (by kernel_rfl) (by kernel_rfl) (by kernel_rfl) (fun _ _ _ h => h) (by rfl) (v := ?v3r2) ?hy3r2 hS ?rest3r2
  case hy3r2 => intro w0 hSw; obtain ⟨a0, a1, a2, a3, _⟩ := hSw; go_simp; try with_reducible rfl
  simp only [Act.put, List.setIfInBounds_toArray, List.set_cons_zero, List.set_cons_succ]
  refine late_take (i := 4) (some 23) rfl rfl (by kernel_rfl) (by kernel_rfl) (by kernel_rfl) (by kernel_rfl) (by kernel_rfl) (fun _ _ _ h => h) (by rfl) (v := ?v4r2) ?hy4r2 hS ?rest4r2
  case hy4r2 => intro w0 hSw; obtain ⟨a0, a1, a2, a3, _⟩ := hSw; go_simp; try with_reducible rfl
  simp only [Act.put, List.setIfInBounds_toArray, List.set_cons_zero, List.set_cons_succ]
  refine wpAnyD_one (i := 2) (by kernel_rfl) rfl (fun K' hK => ?_)
  go_simp
  go_at_call 40
  refine (HFw.out _ _ _ HL3.out HK4.out).mono ?_
  rintro e w5 ⟨g5, m5, rfl, hl, hg, hbk, hb⟩
  have HR5 := hid (HR4.out.next hb)
  have HK5 := hid hbk
  have HL5 := hid hl
  have hS5 : Cells4O w5 w.heap.size (.string M) (.string T) (.int .i64 k) (.slice p n c) := cells4O HR5.out.bx
  refine hK _ _ ⟨fun _ => hS5, ?_⟩
  clear hK K' hb hl hg hbk HFw HR4 HK4 HL3 hS
  refine wpAnyD_one (i := 5) (by kernel_rfl) rfl (fun K' hK => ?_)
  go_simp
  go_at_call 39
  refine (HVi.out _ _ _ HR5.out.low HL5.out HK5.out).mono ?_
  rintro e w6 ⟨g6, m6, rfl, hl, hg, hbk, hb⟩
  have HR6 := hid (HR5.out.next hb)
  have HK6 := hid hbk
  have HL6 := hid hl
  have HG6 := hid (show w.heap.size + 1 < g6 from Nat.lt_of_lt_of_le (lt_of_heap HR5.out.rz) hg)
  have hS6 : Cells4O w6 w.heap.size (.string M) (.string T) (.int .i64 k) (.slice p n c) := cells4O HR6.out.bx
  refine hK _ _ ⟨fun _ => hS6, ?_⟩
  clear hK K' hb hl hg hbk HVi HR5 HK5 HL5 hS5
  refine late_take (i := 6) (some 8) rfl rfl (by kernel_rfl) (by kernel_rfl) (by kernel_rfl) (by kernel_rfl) (by kernel_rfl) (fun _ _ _ h => h) (by rfl) (v := ?v6r2) ?hy6r2 hS6 ?rest6r2
  case hy6r2 => intro w0 hSw; obtain ⟨a0, a1, a2, a3, _⟩ := hSw; go_simp; try with_reducible rfl
  simp only [Act.put, List.setIfInBounds_toArray, List.set_cons_zero, List.set_cons_succ]
  refine late_done (by kernel_rfl) ?_ _
  refine NoPanic.normal ?_
  clear hS6
  obtain ⟨y0, y1, y2, y3, _⟩ := cells4O HR6.out.bx
  go_wp2_with (first | (go_at_call 41; (with_reducible refine (HTe.out _).mono ?_); rintro e w7 ⟨rfl, hw7⟩; subst w7; clear HTe) | (go_at_call 43; (with_reducible refine (HTx.out _ HR6.out.low).mono ?_); rintro e w8 ⟨rfl, hb⟩; have HR8 := hid (HR6.out.next hb); have HK8 := hid (HK6.out.next hb); clear hb HTx HR6 HK6 y0 y1 y2 y3) | (go_at_call 42; (with_reducible refine (HAd.out _ _ _ HL6.out HK8.out).mono ?_); rintro e w9 ⟨g9a, m9a, rfl, hl, hg, hbk, hb⟩; have HR9 := hid (HR8.out.next hb); have HK9 := hid hbk; have HL9 := hid hl; have HG9 := hid (show w.heap.size + 1 < g9a from Nat.lt_of_lt_of_le (lt_of_heap HR8.out.rz) hg); obtain ⟨y0, y1, y2, y3, _⟩ := cells4O HR9.out.bx; clear hb hl hg hbk HAd HR8 HK8))
  rw [HFe.out] at HK9 HL9
  have HR_v0 := hid (show RqO w w9.drew #[.string M, .string T, .int .i64 k, .slice p n c] from HR9.out.next ⟨rfl, rfl, rfl, Nat.le_refl _, fun _ _ => rfl⟩)
  have HK_v0 := hid (show BlkF w9.drew g9a F from HK9.out)
  have HLL := hid (show F.length = m9a from HL9.out)
  have HGL := hid (show w.heap.size + 1 < g9a from HG9.out)
  generalize hW0 : w9.drew = v0 at HR_v0 HK_v0
  obtain ⟨gL, hgL⟩ : ∃ gL, g9a = gL := ⟨_, rfl⟩
  obtain ⟨nL, hnL⟩ : ∃ nL, m9a = nL := ⟨_, rfl⟩
  rw [hgL] at HK_v0 HGL ⊢
  rw [hnL] at HLL ⊢
  refine wp_region_noPanic ?_
  refine any_begin 10 (by kernel_rfl) (by kernel_rfl) ?_
  rw [hW0]
  clear hW0 HR9 HK9 HL9 HG9 hgL hnL y0 y1 y2 y3
  refine late_begin (fun U => Cells4O U w.heap.size (.string M) (.string T) (.int .i64 k) (.slice p n c)) (fun _ => false) (show Cells4O v0 w.heap.size (.string M) (.string T) (.int .i64 k) (.slice p n c) from cells4O HR_v0.out.bx) (fun hS_v0 => ?_)
  refine late_take (i := 0) (some 33) rfl rfl (by kernel_rfl) (by kernel_rfl) (by kernel_rfl) (by kernel_rfl) (by kernel_rfl) (fun _ _ _ h => h) (by rfl) (v := ?v0r5) ?hy0r5 hS_v0 ?rest0r5
  case hy0r5 => intro w0 hSw; obtain ⟨a0, a1, a2, a3, _⟩ := hSw; go_simp; try with_reducible rfl
  simp only [Act.put, List.setIfInBounds_toArray, List.set_cons_zero, List.set_cons_succ]
  refine late_take (i := 1) (some 34) rfl rfl (by kernel_rfl) (by kernel_rfl) (by kernel_rfl) (by kernel_rfl) (by kernel_rfl) (fun _ _ _ h => h) (by rfl) (v := ?v1r5) ?hy1r5 hS_v0 ?rest1r5
  case hy1r5 => intro w0 hSw; obtain ⟨a0, a1, a2, a3, _⟩ := hSw; go_simp; try with_reducible rfl
  simp only [Act.put, List.setIfInBounds_toArray, List.set_cons_zero, List.set_cons_succ]
  refine late_take (i := 3) (some 36) rfl rfl (by kernel_rfl) (by kernel_rfl) (by kernel_rfl) (by kernel_rfl) (by kernel_rfl) (fun _ _ _ h => h) (by rfl) (v := ?v3r5) ?hy3r5 hS_v0 ?rest3r5
  case hy3r5 => intro w0 hSw; obtain ⟨a0, a1, a2, a3, _⟩ := hSw; go_simp; try with_reducible rfl
  simp only [Act.put, List.setIfInBounds_toArray, List.set_cons_zero, List.set_cons_succ]
  refine late_take (i := 4) (some 37) rfl rfl (by kernel_rfl) (by kernel_rfl) (by kernel_rfl) (by kernel_rfl) (by kernel_rfl) (fun _ _ _ h => h) (by rfl) (v := ?v4r5) ?hy4r5 hS_v0 ?rest4r5
  case hy4r5 => intro w0 hSw; obtain ⟨a0, a1, a2, a3, _⟩ := hSw; go_simp; try with_reducible rfl
  simp only [Act.put, List.setIfInBounds_toArray, List.set_cons_zero, List.set_cons_succ]
  refine late_take (i := 6) (some 39) rfl rfl (by kernel_rfl) (by kernel_rfl) (by kernel_rfl) (by kernel_rfl) (by kernel_rfl) (fun _ _ _ h => h) (by rfl) (v := ?v6r5) ?hy6r5 hS_v0 ?rest6r5
  case hy6r5 => intro w0 hSw; obtain ⟨a0, a1, a2, a3, _⟩ := hSw; go_simp; try with_reducible rfl
  simp only [Act.put, List.setIfInBounds_toArray, List.set_cons_zero, List.set_cons_succ]
  refine wpAnyD_twoD (i := 2) (j := 8) (by kernel_rfl) rfl rfl (fun K' hK => ?_) (fun K' hK => ?_)
  · as_aux_lemma =>
      go_simp
      go_at_call 44
      refine (HC1.out _).mono ?_
      rintro e v1 ⟨rfl, hb⟩
      have HR_v1 := hid (HR_v0.out.next hb)
      have HK_v1 := hid (HK_v0.out.next hb)
      have hS_v1 : Cells4O v1 w.heap.size (.string M) (.string T) (.int .i64 k) (.slice p n c) := cells4O HR_v1.out.bx
      refine hK _ _ ⟨fun _ => hS_v1, ?_⟩
      clear hK K' HR_v0 HK_v0 hS_v0
      clear hb
      refine wpAnyD_twoD (i := 5) (j := 8) (by kernel_rfl) rfl rfl (fun K' hK => ?_) (fun K' hK => ?_)
      · as_aux_lemma =>
          go_simp
          go_at_call 44
          refine (HC2.out _).mono ?_
          rintro e v2 ⟨rfl, hb⟩
          have HR_v2 := hid (HR_v1.out.next hb)
          have HK_v2 := hid (HK_v1.out.next hb)
          have hS_v2 : Cells4O v2 w.heap.size (.string M) (.string T) (.int .i64 k) (.slice p n c) := cells4O HR_v2.out.bx
          refine hK _ _ ⟨fun _ => hS_v2, ?_⟩
          clear hK K' HR_v1 HK_v1 hS_v1
          clear hb
          refine late_take (i := 7) (some 40) rfl rfl (by kernel_rfl) (by kernel_rfl) (by kernel_rfl) (by kernel_rfl) (by kernel_rfl) (fun _ _ _ h => h) (by rfl) (v := ?v7r5a) ?hy7r5a hS_v2 ?rest7r5a
          case hy7r5a => intro w0 hSw; obtain ⟨a0, a1, a2, a3, _⟩ := hSw; go_simp; try with_reducible rfl
          simp only [Act.put, List.setIfInBounds_toArray, List.set_cons_zero, List.set_cons_succ]
          refine wpAnyD_one (i := 8) (by kernel_rfl) rfl (fun K' hK => ?_)
          go_simp
          have HN_v3 := hid (heap_alloc_new v2 (.cells #[.string ⟨#[]⟩, .string ⟨#[]⟩, .int .i64 0, .slice none 0 0] 54 (0, 0)))
          have HH9 := hid (show w.heap.size + 1 < v2.heap.size from lt_of_heap HR_v2.out.rz)
          have HJ9 := hid (show gL ≠ v2.heap.size from fun e => Nat.lt_irrefl _ (by have h9 := lt_of_heap HK_v2.out; rw [e] at h9; exact h9))
          have HR_v3 := hid (HR_v2.out.next (below_new v2 (.cells #[.string ⟨#[]⟩, .string ⟨#[]⟩, .int .i64 0, .slice none 0 0] 54 (0, 0))))
          have HK_v3 := hid (HK_v2.out.next (below_new v2 (.cells #[.string ⟨#[]⟩, .string ⟨#[]⟩, .int .i64 0, .slice none 0 0] 54 (0, 0))))
          have hS_v3 : Cells4O (v2.alloc (.cells #[.string ⟨#[]⟩, .string ⟨#[]⟩, .int .i64 0, .slice none 0 0] 54 (0, 0))) w.heap.size (.string M) (.string T) (.int .i64 k) (.slice p n c) := cells4O HR_v3.out.bx
          refine hK _ _ ⟨fun _ => hS_v3, ?_⟩
          clear hK K'
          generalize hB_ : v2.alloc (.cells #[.string ⟨#[]⟩, .string ⟨#[]⟩, .int .i64 0, .slice none 0 0] 54 (0, 0)) = v3 at HN_v3 HR_v3 HK_v3 hS_v3 ⊢
          generalize hg9_ : v2.heap.size = g9 at HN_v3 HH9 HJ9 ⊢
          clear hB_ hg9_ HR_v2 HK_v2 hS_v2
          obtain ⟨z0, z1, z2, z3, zz⟩ := cells4O HN_v3.out
          have zz0 := zz 0; have zz1 := zz 1; have zz2 := zz 2; have zz3 := zz 3
          clear zz
          refine wpAnyD_one (i := 9) (by kernel_rfl) rfl (fun K' hK => ?_)
          go_simp
          have HT5 := hid (RtO.made HR_v3.out HK_v3.out HGL.out HN_v3.out HH9.out HJ9.out (.string M) (.string T) (.int .i64 1) (.slice (some ⟨gL, 0, none⟩) nL nL))
          have hS5 : Cells4O ((((v3.setCell ⟨g9, 0, none⟩ (.string M)).setCell ⟨g9, 1, none⟩ (.string T)).setCell ⟨g9, 2, none⟩ (.int .i64 1)).setCell ⟨g9, 3, none⟩ (.slice (some ⟨gL, 0, none⟩) nL nL)) w.heap.size (.string M) (.string T) (.int .i64 k) (.slice p n c) := ⟨by rw [keep4O (Nat.ne_of_lt (Nat.lt_of_succ_lt HH9.out))]; exact hS_v3.a0, by rw [keep4O (Nat.ne_of_lt (Nat.lt_of_succ_lt HH9.out))]; exact hS_v3.a1, by rw [keep4O (Nat.ne_of_lt (Nat.lt_of_succ_lt HH9.out))]; exact hS_v3.a2, by rw [keep4O (Nat.ne_of_lt (Nat.lt_of_succ_lt HH9.out))]; exact hS_v3.a3, fun j => (keep4Z (Nat.ne_of_lt (Nat.lt_of_succ_lt HH9.out))).trans (hS_v3.z j)⟩
          refine hK _ _ ⟨fun _ => hS5, ?_⟩
          clear hK K'
          generalize hW5 : ((((v3.setCell ⟨g9, 0, none⟩ (.string M)).setCell ⟨g9, 1, none⟩ (.string T)).setCell ⟨g9, 2, none⟩ (.int .i64 1)).setCell ⟨g9, 3, none⟩ (.slice (some ⟨gL, 0, none⟩) nL nL)) = U5 at HT5 hS5 ⊢
          clear hW5 z0 z1 z2 z3 zz0 zz1 zz2 zz3 HR_v3 HK_v3 HN_v3 hS_v3
          refine late_done (by kernel_rfl) ?_ _
          refine NoPanic.normal ?_
          clear hS5
          obtain ⟨c0, c1, c2, c3, _⟩ := cells4O HT5.out.nw
          by_cases hgr : greatE F.length e0 = 0
          · as_aux_lemma =>
              have HGr := hid (show ∀ W : World, Calls Tryz.prog 46 #[.slice (some ⟨gL, 0, none⟩) nL nL, errOf e0] W fun r w' => r = .returned .nilIface ∧ Below W.heap.size W w' from fun W => by
                have h := pgreat (some ⟨gL, 0, none⟩) nL nL e0 W
                rw [← HLL.out, hgr, show errOf 0 = Value.nilIface from rfl] at h
                rw [← HLL.out]
                exact h)
              have HGz := hid hgr
              clear hgr
              go_wp2_with (first | (go_at_call 45; (with_reducible refine (HWr.out _ _ _ HT5.out.low HLL.out HT5.out.row).mono ?_); rintro e w10 ⟨v10, rfl, hb⟩; have HT10 := hid (HT5.out.next hb); clear hb HWr HT5 c0 c1 c2 c3) | (go_at_call 46; (with_reducible refine (HGr.out _).mono ?_); rintro e w11 ⟨rfl, hb⟩; have HT11 := hid (HT10.out.next hb); clear hb HGr HT10; obtain ⟨c0, c1, c2, c3, _⟩ := cells4O HT11.out.nw; obtain ⟨z0, z1, z2, z3, zz⟩ := cells4O HT11.out.rz; have zz0 := zz 0; have zz1 := zz 1; have zz2 := zz 2; have zz3 := zz 3; clear zz))
              (try simp only [Exit.inBlock, Exit.then])
              refine bodyPost_ret (results_reqO rfl _ _ _ 54 _ (0, 0) rfl (fourCO HT11.out.rz _ _ _ _) rfl) rfl ?_
              refine .inr ⟨HGz.out, gL, ?_, Nat.le_of_lt (Nat.lt_of_succ_lt HT11.out.gl), blkF_only HT11.out.row (only4O (F := fun k => k = w.heap.size + 1) rfl _ _ _ _) (by have h9 := HT11.out.gl; omega), ?_⟩
              · rw [HLL.out]
                rfl
              · iterate 4 refine Below.setCell ?_ (Nat.le_succ _) _
                exact HT11.out.low
          · as_aux_lemma =>
              have HGr := hid (show ∀ W : World, Calls Tryz.prog 46 #[.slice (some ⟨gL, 0, none⟩) nL nL, errOf e0] W fun r w' => r = .returned (.iface 72 (.int .i64 (greatE F.length e0 : Int))) ∧ Below W.heap.size W w' from fun W => by
                have h := pgreat (some ⟨gL, 0, none⟩) nL nL e0 W
                rw [← HLL.out, errOf_pos hgr] at h
                rw [← HLL.out]
                exact h)
              have HGz := hid hgr
              obtain ⟨ge, hge⟩ : ∃ ge : Int, (greatE F.length e0 : Int) = ge := ⟨_, rfl⟩
              rw [hge] at HGr
              have HGE := hid hge
              clear hgr hge
              go_wp2_with (first | (go_at_call 45; (with_reducible refine (HWr.out _ _ _ HT5.out.low HLL.out HT5.out.row).mono ?_); rintro e w10 ⟨v10, rfl, hb⟩; have HT10 := hid (HT5.out.next hb); clear hb HWr HT5 c0 c1 c2 c3) | (go_at_call 46; (with_reducible refine (HGr.out _).mono ?_); rintro e w11 ⟨rfl, hb⟩; have HT11 := hid (HT10.out.next hb); clear hb HGr HT10; obtain ⟨z0, z1, z2, z3, zz⟩ := cells4O HT11.out.rz; have zz0 := zz 0; have zz1 := zz 1; have zz2 := zz 2; have zz3 := zz 3; clear zz))
              (try simp only [Exit.inBlock, Exit.then])
              refine bodyPost_ret (results_reqO rfl _ _ _ 54 _ (0, 0) rfl (fourCO HT11.out.rz _ _ _ _) rfl) rfl ?_
              refine .inl ⟨HGz.out, (by rw [HGE.out]; rfl), ?_⟩
              iterate 4 refine Below.setCell ?_ (Nat.le_succ _) _
              exact HT11.out.low
      · as_aux_lemma =>
          go_simp
          have HN_v2 := hid (heap_alloc_new v1 (.cells #[.string ⟨#[]⟩, .string ⟨#[]⟩, .int .i64 0, .slice none 0 0] 54 (0, 0)))
          have HH9 := hid (show w.heap.size + 1 < v1.heap.size from lt_of_heap HR_v1.out.rz)
          have HJ9 := hid (show gL ≠ v1.heap.size from fun e => Nat.lt_irrefl _ (by have h9 := lt_of_heap HK_v1.out; rw [e] at h9; exact h9))
          have HR_v2 := hid (HR_v1.out.next (below_new v1 (.cells #[.string ⟨#[]⟩, .string ⟨#[]⟩, .int .i64 0, .slice none 0 0] 54 (0, 0))))
          have HK_v2 := hid (HK_v1.out.next (below_new v1 (.cells #[.string ⟨#[]⟩, .string ⟨#[]⟩, .int .i64 0, .slice none 0 0] 54 (0, 0))))
          have hS_v2 : Cells4O (v1.alloc (.cells #[.string ⟨#[]⟩, .string ⟨#[]⟩, .int .i64 0, .slice none 0 0] 54 (0, 0))) w.heap.size (.string M) (.string T) (.int .i64 k) (.slice p n c) := cells4O HR_v2.out.bx
          refine hK _ _ ⟨fun _ => hS_v2, ?_⟩
          clear hK K'
          generalize hB_ : v1.alloc (.cells #[.string ⟨#[]⟩, .string ⟨#[]⟩, .int .i64 0, .slice none 0 0] 54 (0, 0)) = v2 at HN_v2 HR_v2 HK_v2 hS_v2 ⊢
          generalize hg9_ : v1.heap.size = g9 at HN_v2 HH9 HJ9 ⊢
          clear hB_ hg9_ HR_v1 HK_v1 hS_v1
          refine wpAnyD_one (i := 5) (by kernel_rfl) rfl (fun K' hK => ?_)
          go_simp
          go_at_call 44
          refine (HC2.out _).mono ?_
          rintro e v3 ⟨rfl, hb⟩
          have HR_v3 := hid (HR_v2.out.next hb)
          have HK_v3 := hid (HK_v2.out.next hb)
          have HN_v3 := hid ((hb.block _ (lt_of_heap HN_v2.out)).trans HN_v2.out)
          have hS_v3 : Cells4O v3 w.heap.size (.string M) (.string T) (.int .i64 k) (.slice p n c) := cells4O HR_v3.out.bx
          refine hK _ _ ⟨fun _ => hS_v3, ?_⟩
          clear hK K' HR_v2 HK_v2 hS_v2 HN_v2
          clear hb
          refine late_take (i := 7) (some 40) rfl rfl (by kernel_rfl) (by kernel_rfl) (by kernel_rfl) (by kernel_rfl) (by kernel_rfl) (fun _ _ _ h => h) (by rfl) (v := ?v7r5b) ?hy7r5b hS_v3 ?rest7r5b
          case hy7r5b => intro w0 hSw; obtain ⟨a0, a1, a2, a3, _⟩ := hSw; go_simp; try with_reducible rfl
          simp only [Act.put, List.setIfInBounds_toArray, List.set_cons_zero, List.set_cons_succ]
          obtain ⟨z0, z1, z2, z3, zz⟩ := cells4O HN_v3.out
          have zz0 := zz 0; have zz1 := zz 1; have zz2 := zz 2; have zz3 := zz 3
          clear zz
          refine wpAnyD_one (i := 9) (by kernel_rfl) rfl (fun K' hK => ?_)
          go_simp
          have HT5 := hid (RtO.made HR_v3.out HK_v3.out HGL.out HN_v3.out HH9.out HJ9.out (.string M) (.string T) (.int .i64 1) (.slice (some ⟨gL, 0, none⟩) nL nL))
          have hS5 : Cells4O ((((v3.setCell ⟨g9, 0, none⟩ (.string M)).setCell ⟨g9, 1, none⟩ (.string T)).setCell ⟨g9, 2, none⟩ (.int .i64 1)).setCell ⟨g9, 3, none⟩ (.slice (some ⟨gL, 0, none⟩) nL nL)) w.heap.size (.string M) (.string T) (.int .i64 k) (.slice p n c) := ⟨by rw [keep4O (Nat.ne_of_lt (Nat.lt_of_succ_lt HH9.out))]; exact hS_v3.a0, by rw [keep4O (Nat.ne_of_lt (Nat.lt_of_succ_lt HH9.out))]; exact hS_v3.a1, by rw [keep4O (Nat.ne_of_lt (Nat.lt_of_succ_lt HH9.out))]; exact hS_v3.a2, by rw [keep4O (Nat.ne_of_lt (Nat.lt_of_succ_lt HH9.out))]; exact hS_v3.a3, fun j => (keep4Z (Nat.ne_of_lt (Nat.lt_of_succ_lt HH9.out))).trans (hS_v3.z j)⟩
          refine hK _ _ ⟨fun _ => hS5, ?_⟩
          clear hK K'
          generalize hW5 : ((((v3.setCell ⟨g9, 0, none⟩ (.string M)).setCell ⟨g9, 1, none⟩ (.string T)).setCell ⟨g9, 2, none⟩ (.int .i64 1)).setCell ⟨g9, 3, none⟩ (.slice (some ⟨gL, 0, none⟩) nL nL)) = U5 at HT5 hS5 ⊢
          clear hW5 z0 z1 z2 z3 zz0 zz1 zz2 zz3 HR_v3 HK_v3 HN_v3 hS_v3
          refine late_done (by kernel_rfl) ?_ _
          refine NoPanic.normal ?_
          clear hS5
          obtain ⟨c0, c1, c2, c3, _⟩ := cells4O HT5.out.nw
          by_cases hgr : greatE F.length e0 = 0
          · as_aux_lemma =>
              have HGr := hid (show ∀ W : World, Calls Tryz.prog 46 #[.slice (some ⟨gL, 0, none⟩) nL nL, errOf e0] W fun r w' => r = .returned .nilIface ∧ Below W.heap.size W w' from fun W => by
                have h := pgreat (some ⟨gL, 0, none⟩) nL nL e0 W
                rw [← HLL.out, hgr, show errOf 0 = Value.nilIface from rfl] at h
                rw [← HLL.out]
                exact h)
              have HGz := hid hgr
              clear hgr
              go_wp2_with (first | (go_at_call 45; (with_reducible refine (HWr.out _ _ _ HT5.out.low HLL.out HT5.out.row).mono ?_); rintro e w10 ⟨v10, rfl, hb⟩; have HT10 := hid (HT5.out.next hb); clear hb HWr HT5 c0 c1 c2 c3) | (go_at_call 46; (with_reducible refine (HGr.out _).mono ?_); rintro e w11 ⟨rfl, hb⟩; have HT11 := hid (HT10.out.next hb); clear hb HGr HT10; obtain ⟨c0, c1, c2, c3, _⟩ := cells4O HT11.out.nw; obtain ⟨z0, z1, z2, z3, zz⟩ := cells4O HT11.out.rz; have zz0 := zz 0; have zz1 := zz 1; have zz2 := zz 2; have zz3 := zz 3; clear zz))
              (try simp only [Exit.inBlock, Exit.then])
              refine bodyPost_ret (results_reqO rfl _ _ _ 54 _ (0, 0) rfl (fourCO HT11.out.rz _ _ _ _) rfl) rfl ?_
              refine .inr ⟨HGz.out, gL, ?_, Nat.le_of_lt (Nat.lt_of_succ_lt HT11.out.gl), blkF_only HT11.out.row (only4O (F := fun k => k = w.heap.size + 1) rfl _ _ _ _) (by have h9 := HT11.out.gl; omega), ?_⟩
              · rw [HLL.out]
                rfl
              · iterate 4 refine Below.setCell ?_ (Nat.le_succ _) _
                exact HT11.out.low
          · as_aux_lemma =>
              have HGr := hid (show ∀ W : World, Calls Tryz.prog 46 #[.slice (some ⟨gL, 0, none⟩) nL nL, errOf e0] W fun r w' => r = .returned (.iface 72 (.int .i64 (greatE F.length e0 : Int))) ∧ Below W.heap.size W w' from fun W => by
                have h := pgreat (some ⟨gL, 0, none⟩) nL nL e0 W
                rw [← HLL.out, errOf_pos hgr] at h
                rw [← HLL.out]
                exact h)
              have HGz := hid hgr
              obtain ⟨ge, hge⟩ : ∃ ge : Int, (greatE F.length e0 : Int) = ge := ⟨_, rfl⟩
              rw [hge] at HGr
              have HGE := hid hge
              clear hgr hge
              go_wp2_with (first | (go_at_call 45; (with_reducible refine (HWr.out _ _ _ HT5.out.low HLL.out HT5.out.row).mono ?_); rintro e w10 ⟨v10, rfl, hb⟩; have HT10 := hid (HT5.out.next hb); clear hb HWr HT5 c0 c1 c2 c3) | (go_at_call 46; (with_reducible refine (HGr.out _).mono ?_); rintro e w11 ⟨rfl, hb⟩; have HT11 := hid (HT10.out.next hb); clear hb HGr HT10; obtain ⟨z0, z1, z2, z3, zz⟩ := cells4O HT11.out.rz; have zz0 := zz 0; have zz1 := zz 1; have zz2 := zz 2; have zz3 := zz 3; clear zz))
              (try simp only [Exit.inBlock, Exit.then])
              refine bodyPost_ret (results_reqO rfl _ _ _ 54 _ (0, 0) rfl (fourCO HT11.out.rz _ _ _ _) rfl) rfl ?_
              refine .inl ⟨HGz.out, (by rw [HGE.out]; rfl), ?_⟩
              iterate 4 refine Below.setCell ?_ (Nat.le_succ _) _
              exact HT11.out.low
  · as_aux_lemma =>
      go_simp
      have HN_v1 := hid (heap_alloc_new v0 (.cells #[.string ⟨#[]⟩, .string ⟨#[]⟩, .int .i64 0, .slice none 0 0] 54 (0, 0)))
      have HH9 := hid (show w.heap.size + 1 < v0.heap.size from lt_of_heap HR_v0.out.rz)
      have HJ9 := hid (show gL ≠ v0.heap.size from fun e => Nat.lt_irrefl _ (by have h9 := lt_of_heap HK_v0.out; rw [e] at h9; exact h9))
      have HR_v1 := hid (HR_v0.out.next (below_new v0 (.cells #[.string ⟨#[]⟩, .string ⟨#[]⟩, .int .i64 0, .slice none 0 0] 54 (0, 0))))
      have HK_v1 := hid (HK_v0.out.next (below_new v0 (.cells #[.string ⟨#[]⟩, .string ⟨#[]⟩, .int .i64 0, .slice none 0 0] 54 (0, 0))))
      have hS_v1 : Cells4O (v0.alloc (.cells #[.string ⟨#[]⟩, .string ⟨#[]⟩, .int .i64 0, .slice none 0 0] 54 (0, 0))) w.heap.size (.string M) (.string T) (.int .i64 k) (.slice p n c) := cells4O HR_v1.out.bx
      refine hK _ _ ⟨fun _ => hS_v1, ?_⟩
      clear hK K'
      generalize hB_ : v0.alloc (.cells #[.string ⟨#[]⟩, .string ⟨#[]⟩, .int .i64 0, .slice none 0 0] 54 (0, 0)) = v1 at HN_v1 HR_v1 HK_v1 hS_v1 ⊢
      generalize hg9_ : v0.heap.size = g9 at HN_v1 HH9 HJ9 ⊢
      clear hB_ hg9_ HR_v0 HK_v0 hS_v0
      refine wpAnyD_one (i := 2) (by kernel_rfl) rfl (fun K' hK => ?_)
      go_simp
      go_at_call 44
      refine (HC1.out _).mono ?_
      rintro e v2 ⟨rfl, hb⟩
      have HR_v2 := hid (HR_v1.out.next hb)
      have HK_v2 := hid (HK_v1.out.next hb)
      have HN_v2 := hid ((hb.block _ (lt_of_heap HN_v1.out)).trans HN_v1.out)
      have hS_v2 : Cells4O v2 w.heap.size (.string M) (.string T) (.int .i64 k) (.slice p n c) := cells4O HR_v2.out.bx
      refine hK _ _ ⟨fun _ => hS_v2, ?_⟩
      clear hK K' HR_v1 HK_v1 hS_v1 HN_v1
      clear hb
      refine wpAnyD_one (i := 5) (by kernel_rfl) rfl (fun K' hK => ?_)
      go_simp
      go_at_call 44
      refine (HC2.out _).mono ?_
      rintro e v3 ⟨rfl, hb⟩
      have HR_v3 := hid (HR_v2.out.next hb)
      have HK_v3 := hid (HK_v2.out.next hb)
      have HN_v3 := hid ((hb.block _ (lt_of_heap HN_v2.out)).trans HN_v2.out)
      have hS_v3 : Cells4O v3 w.heap.size (.string M) (.string T) (.int .i64 k) (.slice p n c) := cells4O HR_v3.out.bx
      refine hK _ _ ⟨fun _ => hS_v3, ?_⟩
      clear hK K' HR_v2 HK_v2 hS_v2 HN_v2
      clear hb
      refine late_take (i := 7) (some 40) rfl rfl (by kernel_rfl) (by kernel_rfl) (by kernel_rfl) (by kernel_rfl) (by kernel_rfl) (fun _ _ _ h => h) (by rfl) (v := ?v7r5c) ?hy7r5c hS_v3 ?rest7r5c
      case hy7r5c => intro w0 hSw; obtain ⟨a0, a1, a2, a3, _⟩ := hSw; go_simp; try with_reducible rfl
      simp only [Act.put, List.setIfInBounds_toArray, List.set_cons_zero, List.set_cons_succ]
      obtain ⟨z0, z1, z2, z3, zz⟩ := cells4O HN_v3.out
      have zz0 := zz 0; have zz1 := zz 1; have zz2 := zz 2; have zz3 := zz 3
      clear zz
      refine wpAnyD_one (i := 9) (by kernel_rfl) rfl (fun K' hK => ?_)
      go_simp
      have HT5 := hid (RtO.made HR_v3.out HK_v3.out HGL.out HN_v3.out HH9.out HJ9.out (.string M) (.string T) (.int .i64 1) (.slice (some ⟨gL, 0, none⟩) nL nL))
      have hS5 : Cells4O ((((v3.setCell ⟨g9, 0, none⟩ (.string M)).setCell ⟨g9, 1, none⟩ (.string T)).setCell ⟨g9, 2, none⟩ (.int .i64 1)).setCell ⟨g9, 3, none⟩ (.slice (some ⟨gL, 0, none⟩) nL nL)) w.heap.size (.string M) (.string T) (.int .i64 k) (.slice p n c) := ⟨by rw [keep4O (Nat.ne_of_lt (Nat.lt_of_succ_lt HH9.out))]; exact hS_v3.a0, by rw [keep4O (Nat.ne_of_lt (Nat.lt_of_succ_lt HH9.out))]; exact hS_v3.a1, by rw [keep4O (Nat.ne_of_lt (Nat.lt_of_succ_lt HH9.out))]; exact hS_v3.a2, by rw [keep4O (Nat.ne_of_lt (Nat.lt_of_succ_lt HH9.out))]; exact hS_v3.a3, fun j => (keep4Z (Nat.ne_of_lt (Nat.lt_of_succ_lt HH9.out))).trans (hS_v3.z j)⟩
      refine hK _ _ ⟨fun _ => hS5, ?_⟩
      clear hK K'
      generalize hW5 : ((((v3.setCell ⟨g9, 0, none⟩ (.string M)).setCell ⟨g9, 1, none⟩ (.string T)).setCell ⟨g9, 2, none⟩ (.int .i64 1)).setCell ⟨g9, 3, none⟩ (.slice (some ⟨gL, 0, none⟩) nL nL)) = U5 at HT5 hS5 ⊢
      clear hW5 z0 z1 z2 z3 zz0 zz1 zz2 zz3 HR_v3 HK_v3 HN_v3 hS_v3
      refine late_done (by kernel_rfl) ?_ _
      refine NoPanic.normal ?_
      clear hS5
      obtain ⟨c0, c1, c2, c3, _⟩ := cells4O HT5.out.nw
      by_cases hgr : greatE F.length e0 = 0
      · as_aux_lemma =>
          have HGr := hid (show ∀ W : World, Calls Tryz.prog 46 #[.slice (some ⟨gL, 0, none⟩) nL nL, errOf e0] W fun r w' => r = .returned .nilIface ∧ Below W.heap.size W w' from fun W => by
            have h := pgreat (some ⟨gL, 0, none⟩) nL nL e0 W
            rw [← HLL.out, hgr, show errOf 0 = Value.nilIface from rfl] at h
            rw [← HLL.out]
            exact h)
          have HGz := hid hgr
          clear hgr
          go_wp2_with (first | (go_at_call 45; (with_reducible refine (HWr.out _ _ _ HT5.out.low HLL.out HT5.out.row).mono ?_); rintro e w10 ⟨v10, rfl, hb⟩; have HT10 := hid (HT5.out.next hb); clear hb HWr HT5 c0 c1 c2 c3) | (go_at_call 46; (with_reducible refine (HGr.out _).mono ?_); rintro e w11 ⟨rfl, hb⟩; have HT11 := hid (HT10.out.next hb); clear hb HGr HT10; obtain ⟨c0, c1, c2, c3, _⟩ := cells4O HT11.out.nw; obtain ⟨z0, z1, z2, z3, zz⟩ := cells4O HT11.out.rz; have zz0 := zz 0; have zz1 := zz 1; have zz2 := zz 2; have zz3 := zz 3; clear zz))
          (try simp only [Exit.inBlock, Exit.then])
          refine bodyPost_ret (results_reqO rfl _ _ _ 54 _ (0, 0) rfl (fourCO HT11.out.rz _ _ _ _) rfl) rfl ?_
          refine .inr ⟨HGz.out, gL, ?_, Nat.le_of_lt (Nat.lt_of_succ_lt HT11.out.gl), blkF_only HT11.out.row (only4O (F := fun k => k = w.heap.size + 1) rfl _ _ _ _) (by have h9 := HT11.out.gl; omega), ?_⟩
          · rw [HLL.out]
            rfl
          · iterate 4 refine Below.setCell ?_ (Nat.le_succ _) _
            exact HT11.out.low
      · as_aux_lemma =>
          have HGr := hid (show ∀ W : World, Calls Tryz.prog 46 #[.slice (some ⟨gL, 0, none⟩) nL nL, errOf e0] W fun r w' => r = .returned (.iface 72 (.int .i64 (greatE F.length e0 : Int))) ∧ Below W.heap.size W w' from fun W => by
            have h := pgreat (some ⟨gL, 0, none⟩) nL nL e0 W
            rw [← HLL.out, errOf_pos hgr] at h
            rw [← HLL.out]
            exact h)
          have HGz := hid hgr
          obtain ⟨ge, hge⟩ : ∃ ge : Int, (greatE F.length e0 : Int) = ge := ⟨_, rfl⟩
          rw [hge] at HGr
          have HGE := hid hge
          clear hgr hge
          go_wp2_with (first | (go_at_call 45; (with_reducible refine (HWr.out _ _ _ HT5.out.low HLL.out HT5.out.row).mono ?_); rintro e w10 ⟨v10, rfl, hb⟩; have HT10 := hid (HT5.out.next hb); clear hb HWr HT5 c0 c1 c2 c3) | (go_at_call 46; (with_reducible refine (HGr.out _).mono ?_); rintro e w11 ⟨rfl, hb⟩; have HT11 := hid (HT10.out.next hb); clear hb HGr HT10; obtain ⟨z0, z1, z2, z3, zz⟩ := cells4O HT11.out.rz; have zz0 := zz 0; have zz1 := zz 1; have zz2 := zz 2; have zz3 := zz 3; clear zz))
          (try simp only [Exit.inBlock, Exit.then])
          refine bodyPost_ret (results_reqO rfl _ _ _ 54 _ (0, 0) rfl (fourCO HT11.out.rz _ _ _ _) rfl) rfl ?_
          refine .inl ⟨HGz.out, (by rw [HGE.out]; rfl), ?_⟩
          iterate 4 refine Below.setCell ?_ (Nat.le_succ _) _
          exact HT11.out.low
set_option maxRecDepth 20000 in
set_option maxHeartbeats 32000000 in
theorem preq_n (m t : B) (k : Int) (fs : List (B × B)) (p : Option Addr) (n c : Nat) (hn : fs.length = n) (cl : B) (L : Int) (w : World) (hF : FAt w p fs) (hsz : szN fs) (hnn : n ≤ 1000) (hm : m.length ≤ 1048576) (ht : t.length ≤ 1048576) (hcl : cl.length ≤ 1048576) (hL0 : -9223372036854775808 ≤ L) (hL1 : L ≤ 9223372036854775807) (hE : EnvP w) (hmx : ∃ m : Int, w.cell? ⟨2, 0, none⟩ = some (.int .i64 m)) (hTl : tellsB m L = false) :
    Calls Tryz.prog 21 #[.agg #[.string (str m), .string (str t), .int .i64 k, .slice p n c], .string (str cl), .int .i64 L] w fun e w' => QAns m t (onQ m fs cl k L) w e w' := by
  have hF1z : szC 4194304 (onQ m fs cl k L) := onQ_sz hsz hcl hL0 hL1
  have h1z : szC 1048576 (onQ1 fs) := fun f hf => hsz f (onQ1_mem hf)
  have h1w := szC_W h1z (by decide)
  have h0w : szW (stripF fs) := fun f hf => szC_W (C := 1048576) hsz (by decide) f (List.mem_filter.1 hf).1
  have hw1 : szW (delB (stripF fs) (str expB)) := szW_del _ h0w
  have HSt := hid (show ∀ W : World, Below w.heap.size w W → _ from fun W hb => pstrip fs p n c hn W (hF.next hb) hsz hnn (hmx.elim fun m h => ⟨m, cell_keep hb h⟩))
  have hl0 := stripF_le fs
  have hl1 := del_le (stripF fs) (str expB)
  have hl2 := onQ1_len fs
  have hl3 := fwdF_len (onQ1 fs) cl
  have HDl0 := hid (show ∀ (W : World) (q : Option Addr) (s d : Nat), (stripF fs).length = s → FAt W q (stripF fs) → _ from fun W q s d hs h => pdel_any (stripF fs) q s d hs expB W h h0w (by decide) (by omega))
  have HDl := hid (show ∀ (W : World) (q : Option Addr) (s d : Nat), (stripF fs).length = s → FAt W q (stripF fs) → Calls Tryz.prog 38 #[.slice q s d, .string (⟨#[69, 120, 112, 101, 99, 116]⟩ : ByteArray)] W _ from HDl0.out)
  have HFr := hid (show ∀ (W : World) (g s : Nat), Below w.heap.size w W → (delB (stripF fs) (str expB)).length = s → BlkF W g (delB (stripF fs) (str expB)) → _ from fun W g s hb hs h => pframing (delB (stripF fs) (str expB)) 0 0 (some ⟨g, 0, none⟩) s s hs W h.fat hw1 (by omega) (by decide) (by decide) (hE.next hb))
  rw [show framF (delB (stripF fs) (str expB)) 0 0 = onQ1 fs from rfl] at HFr
  have HFw := hid (show ∀ (W : World) (g s : Nat), (onQ1 fs).length = s → BlkF W g (onQ1 fs) → _ from fun W g s hs h => pforwarded (onQ1 fs) cl (some ⟨g, 0, none⟩) s s hs (Nat.le_refl _) (fun e => by cases e) (fun ad e => by cases e; rfl) W h.fat h1w (by omega) (Nat.le_trans hcl (by decide)) (fun f hf => Nat.le_trans (h1z f hf).2 (by decide)))
  have hvw : szW (fwdF (onQ1 fs) cl) := fun f hf => by
    rcases mem_setB hf with h | h
    · exact h1w f h
    · subst h
      exact ⟨show xfB.length ≤ 140737488351232 from by decide, Nat.le_trans (fwdV_len (fun f hf => (h1z f hf).2) hcl) (by decide)⟩
  have HVi := hid (show ∀ (W : World) (g s : Nat), Below w.heap.size w W → (fwdF (onQ1 fs) cl).length = s → BlkF W g (fwdF (onQ1 fs) cl) → _ from fun W g s hb hs h => pvia (fwdF (onQ1 fs) cl) k (some ⟨g, 0, none⟩) s s hs (Nat.le_refl _) (fun e => by cases e) (fun ad e => by cases e; rfl) W h.fat hvw (by omega) (hE.next hb))
  rw [show viaF (fwdF (onQ1 fs) cl) k = onQ2 fs cl k from rfl] at HVi
  have hl4 : (onQ2 fs cl k).length ≤ fs.length + 2 := by
    unfold onQ2 viaF
    rw [List.length_append]
    simp only [List.length_cons, List.length_nil]
    omega
  have HTe := hid (show ∀ W : World, _ from fun W => ptells m L W)
  rw [hTl] at HTe
  have hlF : (onQ m fs cl k L).length ≤ 100000 := by
    unfold onQ
    rw [if_neg (by rw [hTl]; decide)]
    omega
  obtain ⟨F, hFF⟩ : ∃ F, onQ m fs cl k L = F := ⟨_, rfl⟩
  rw [hFF] at hF1z
  rw [hFF]
  have HWr := hid (show ∀ (W : World) (g s : Nat), Below w.heap.size w W → F.length = s → BlkF W g F → _ from fun W g s hb hs h => wreq_e m t 1 F (some ⟨g, 0, none⟩) s s hs W (hE.next hb) h.fat hF1z (by rw [← hs, ← hFF]; exact hlF) hm ht)
  have HC1 := hid (show ∀ W : World, _ from fun W => clone_any (str m) W (by rw [str_size]; omega))
  have HC2 := hid (show ∀ W : World, _ from fun W => clone_any (str t) W (by rw [str_size]; omega))
  have HFe := hid (show onQ2 fs cl k = F from by rw [← hFF]; unfold onQ; rw [if_neg (by rw [hTl]; decide)])
  unfold QAns
  obtain ⟨e0, he0⟩ : ∃ e0, reqE m t 1 F = e0 := ⟨_, rfl⟩
  rw [he0] at HWr
  rw [he0]
  obtain ⟨M, hM⟩ : ∃ M, str m = M := ⟨_, rfl⟩
  obtain ⟨T, hT⟩ : ∃ T, str t = T := ⟨_, rfl⟩
  obtain ⟨CC, hCC⟩ : ∃ C, str cl = C := ⟨_, rfl⟩
  rw [hM] at HTe HWr HC1
  rw [hT] at HWr HC2
  rw [hCC] at HFw
  rw [hM, hT, hCC]
  obtain ⟨X0, hX0⟩ : ∃ X, stripF fs = X := ⟨_, rfl⟩
  rw [hX0] at HSt HDl HFr
  obtain ⟨X1, hX1⟩ : ∃ X, delB X0 (str expB) = X := ⟨_, rfl⟩
  rw [hX1] at HDl HFr
  obtain ⟨X2, hX2⟩ : ∃ X, onQ1 fs = X := ⟨_, rfl⟩
  rw [hX2] at HFr HFw HVi
  obtain ⟨X3, hX3⟩ : ∃ X, fwdF X2 cl = X := ⟨_, rfl⟩
  rw [hX3] at HFw HVi
  obtain ⟨X4, hX4⟩ : ∃ X, onQ2 fs cl k = X := ⟨_, rfl⟩
  rw [hX4] at HVi HFe
  have HR0 := hid (RqO.start w #[.string M, .string T, .int .i64 k, .slice p n c])
  clear hF hsz hn hmx hF1z h1z h1w h0w hw1 hl0 hl1 hl2 hl3 hl4 hvw hFF he0 hM hT hCC hX0 hX1 hX2 hX3 hX4 hTl hE hlF HDl0 hm ht hcl
  go_enter Tryz.func21, Tryz.ntmps21
  obtain ⟨y0, y1, y2, y3, _⟩ := cells4O HR0.out.bx
  go_wp2_with (first | (go_at_call 36; (with_reducible refine (HSt.out _ HR0.out.low).mono ?_); rintro e w1 ⟨v1, rfl, ho, hb⟩; obtain ⟨q1, d1, rfl⟩ := own_slice ho; have HR1 := hid (HR0.out.next hb); have HF1 := hid (OwnF.fat ho); clear hb ho HSt HR0 y0 y1 y2 y3) | (go_at_call 38; (with_reducible refine (HDl.out _ _ _ _ rfl HF1.out).mono ?_); rintro e w2 ⟨g2, m2, rfl, hl, hg, hbk, hb⟩; have HR2 := hid (HR1.out.next hb); have HK2 := hid hbk; have HL2 := hid hl; clear hb hl hg hbk HDl HR1 HF1) | (go_at_call 37; (with_reducible refine (HFr.out _ _ _ HR2.out.low HL2.out HK2.out).mono ?_); rintro e w3 ⟨g3, m3, rfl, hl, hg, hbk, hb⟩; have HR3 := hid (HR2.out.next hb); have HK3 := hid hbk; have HL3 := hid hl; clear hb hl hg hbk HFr HR2 HK2 HL2))
  have HR4 := hid (show RqO w w3.drew #[.string M, .string T, .int .i64 k, .slice p n c] from HR3.out.next ⟨rfl, rfl, rfl, Nat.le_refl _, fun _ _ => rfl⟩)
  have HK4 := hid (show BlkF w3.drew g3 X2 from HK3.out)
  generalize hW4 : w3.drew = w4 at HR4 HK4
  refine wp_region_noPanic ?_
  refine any_begin 7 (by kernel_rfl) (by kernel_rfl) ?_
  rw [hW4]
  clear hW4 HR3 HK3
  refine late_begin (fun U => Cells4O U w.heap.size (.string M) (.string T) (.int .i64 k) (.slice p n c)) (fun _ => false) (show Cells4O w4 w.heap.size (.string M) (.string T) (.int .i64 k) (.slice p n c) from cells4O HR4.out.bx) (fun hS => ?_)
  refine late_take (i := 0) (some 19) rfl rfl (by kernel_rfl) (by kernel_rfl) (by kernel_rfl) (by kernel_rfl) (by kernel_rfl) (fun _ _ _ h => h) (by rfl) (v := ?v0r2) ?hy0r2 hS ?rest0r2
  case hy0r2 => intro w0 hSw; obtain ⟨a0, a1, a2, a3, _⟩ := hSw; go_simp; try with_reducible rfl
  simp only [Act.put, List.setIfInBounds_toArray, List.set_cons_zero, List.set_cons_succ]
  refine late_take (i := 1) (some 20) rfl rfl (by kernel_rfl) (by kernel_rfl) (by kernel_rfl) (by kernel_rfl) (by kernel_rfl) (fun _ _ _ h => h) (by rfl) (v := ?v1r2) ?hy1r2 hS ?rest1r2
  case hy1r2 => intro w0 hSw; obtain ⟨a0, a1, a2, a3, _⟩ := hSw; go_simp; try with_reducible rfl
  simp only [Act.put, List.setIfInBounds_toArray, List.set_cons_zero, List.set_cons_succ]
  refine late_take (i := 3) (some 22) rfl rfl (by kernel_rfl) (by kernel_rfl) (by kernel_rfl) (by kernel_rfl) (by kernel_rfl) (fun _ _ _ h => h) (by rfl) (v := ?v3r2) ?hy3r2 hS ?rest3r2
  case hy3r2 => intro w0 hSw; obtain ⟨a0, a1, a2, a3, _⟩ := hSw; go_simp; try with_reducible rfl
  simp only [Act.put, List.setIfInBounds_toArray, List.set_cons_zero, List.set_cons_succ]
  refine late_take (i := 4) (some 23) rfl rfl (by kernel_rfl) (by kernel_rfl) (by kernel_rfl) (by kernel_rfl) (by kernel_rfl) (fun _ _ _ h => h) (by rfl) (v := ?v4r2) ?hy4r2 hS ?rest4r2
  case hy4r2 => intro w0 hSw; obtain ⟨a0, a1, a2, a3, _⟩ := hSw; go_simp; try with_reducible rfl
  simp only [Act.put, List.setIfInBounds_toArray, List.set_cons_zero, List.set_cons_succ]
  refine wpAnyD_one (i := 2) (by kernel_rfl) rfl (fun K' hK => ?_)
  go_simp
  go_at_call 40
  refine (HFw.out _ _ _ HL3.out HK4.out).mono ?_
  rintro e w5 ⟨g5, m5, rfl, hl, hg, hbk, hb⟩
  have HR5 := hid (HR4.out.next hb)
  have HK5 := hid hbk
  have HL5 := hid hl
  have hS5 : Cells4O w5 w.heap.size (.string M) (.string T) (.int .i64 k) (.slice p n c) := cells4O HR5.out.bx
  refine hK _ _ ⟨fun _ => hS5, ?_⟩
  clear hK K' hb hl hg hbk HFw HR4 HK4 HL3 hS
  refine wpAnyD_one (i := 5) (by kernel_rfl) rfl (fun K' hK => ?_)
  go_simp
  go_at_call 39
  refine (HVi.out _ _ _ HR5.out.low HL5.out HK5.out).mono ?_
  rintro e w6 ⟨g6, m6, rfl, hl, hg, hbk, hb⟩
  have HR6 := hid (HR5.out.next hb)
  have HK6 := hid hbk
  have HL6 := hid hl
  have HG6 := hid (show w.heap.size + 1 < g6 from Nat.lt_of_lt_of_le (lt_of_heap HR5.out.rz) hg)
  have hS6 : Cells4O w6 w.heap.size (.string M) (.string T) (.int .i64 k) (.slice p n c) := cells4O HR6.out.bx
  refine hK _ _ ⟨fun _ => hS6, ?_⟩
  clear hK K' hb hl hg hbk HVi HR5 HK5 HL5 hS5
  refine late_take (i := 6) (some 8) rfl rfl (by kernel_rfl) (by kernel_rfl) (by kernel_rfl) (by kernel_rfl) (by kernel_rfl) (fun _ _ _ h => h) (by rfl) (v := ?v6r2) ?hy6r2 hS6 ?rest6r2
  case hy6r2 => intro w0 hSw; obtain ⟨a0, a1, a2, a3, _⟩ := hSw; go_simp; try with_reducible rfl
  simp only [Act.put, List.setIfInBounds_toArray, List.set_cons_zero, List.set_cons_succ]
  refine late_done (by kernel_rfl) ?_ _
  refine NoPanic.normal ?_
  clear hS6
  obtain ⟨y0, y1, y2, y3, _⟩ := cells4O HR6.out.bx
  go_wp2_with (go_at_call 41; (with_reducible refine (HTe.out _).mono ?_); rintro e w7 ⟨rfl, hw7⟩; subst w7; clear HTe)
  rw [HFe.out] at HK6 HL6
  have HR_v0 := hid (show RqO w w6.drew #[.string M, .string T, .int .i64 k, .slice p n c] from HR6.out.next ⟨rfl, rfl, rfl, Nat.le_refl _, fun _ _ => rfl⟩)
  have HK_v0 := hid (show BlkF w6.drew g6 F from HK6.out)
  have HLL := hid (show F.length = m6 from HL6.out)
  have HGL := hid (show w.heap.size + 1 < g6 from HG6.out)
  generalize hW0 : w6.drew = v0 at HR_v0 HK_v0
  obtain ⟨gL, hgL⟩ : ∃ gL, g6 = gL := ⟨_, rfl⟩
  obtain ⟨nL, hnL⟩ : ∃ nL, m6 = nL := ⟨_, rfl⟩
  rw [hgL] at HK_v0 HGL ⊢
  rw [hnL] at HLL ⊢
  refine wp_region_noPanic ?_
  refine any_begin 10 (by kernel_rfl) (by kernel_rfl) ?_
  rw [hW0]
  clear hW0 HR6 HK6 HL6 HG6 hgL hnL y0 y1 y2 y3
  refine late_begin (fun U => Cells4O U w.heap.size (.string M) (.string T) (.int .i64 k) (.slice p n c)) (fun _ => false) (show Cells4O v0 w.heap.size (.string M) (.string T) (.int .i64 k) (.slice p n c) from cells4O HR_v0.out.bx) (fun hS_v0 => ?_)
  refine late_take (i := 0) (some 33) rfl rfl (by kernel_rfl) (by kernel_rfl) (by kernel_rfl) (by kernel_rfl) (by kernel_rfl) (fun _ _ _ h => h) (by rfl) (v := ?v0r5) ?hy0r5 hS_v0 ?rest0r5
  case hy0r5 => intro w0 hSw; obtain ⟨a0, a1, a2, a3, _⟩ := hSw; go_simp; try with_reducible rfl
  simp only [Act.put, List.setIfInBounds_toArray, List.set_cons_zero, List.set_cons_succ]
  refine late_take (i := 1) (some 34) rfl rfl (by kernel_rfl) (by kernel_rfl) (by kernel_rfl) (by kernel_rfl) (by kernel_rfl) (fun _ _ _ h => h) (by rfl) (v := ?v1r5) ?hy1r5 hS_v0 ?rest1r5
  case hy1r5 => intro w0 hSw; obtain ⟨a0, a1, a2, a3, _⟩ := hSw; go_simp; try with_reducible rfl
  simp only [Act.put, List.setIfInBounds_toArray, List.set_cons_zero, List.set_cons_succ]
  refine late_take (i := 3) (some 36) rfl rfl (by kernel_rfl) (by kernel_rfl) (by kernel_rfl) (by kernel_rfl) (by kernel_rfl) (fun _ _ _ h => h) (by rfl) (v := ?v3r5) ?hy3r5 hS_v0 ?rest3r5
  case hy3r5 => intro w0 hSw; obtain ⟨a0, a1, a2, a3, _⟩ := hSw; go_simp; try with_reducible rfl
  simp only [Act.put, List.setIfInBounds_toArray, List.set_cons_zero, List.set_cons_succ]
  refine late_take (i := 4) (some 37) rfl rfl (by kernel_rfl) (by kernel_rfl) (by kernel_rfl) (by kernel_rfl) (by kernel_rfl) (fun _ _ _ h => h) (by rfl) (v := ?v4r5) ?hy4r5 hS_v0 ?rest4r5
  case hy4r5 => intro w0 hSw; obtain ⟨a0, a1, a2, a3, _⟩ := hSw; go_simp; try with_reducible rfl
  simp only [Act.put, List.setIfInBounds_toArray, List.set_cons_zero, List.set_cons_succ]
  refine late_take (i := 6) (some 39) rfl rfl (by kernel_rfl) (by kernel_rfl) (by kernel_rfl) (by kernel_rfl) (by kernel_rfl) (fun _ _ _ h => h) (by rfl) (v := ?v6r5) ?hy6r5 hS_v0 ?rest6r5
  case hy6r5 => intro w0 hSw; obtain ⟨a0, a1, a2, a3, _⟩ := hSw; go_simp; try with_reducible rfl
  simp only [Act.put, List.setIfInBounds_toArray, List.set_cons_zero, List.set_cons_succ]
  refine wpAnyD_twoD (i := 2) (j := 8) (by kernel_rfl) rfl rfl (fun K' hK => ?_) (fun K' hK => ?_)
  · as_aux_lemma =>
      go_simp
      go_at_call 44
      refine (HC1.out _).mono ?_
      rintro e v1 ⟨rfl, hb⟩
      have HR_v1 := hid (HR_v0.out.next hb)
      have HK_v1 := hid (HK_v0.out.next hb)
      have hS_v1 : Cells4O v1 w.heap.size (.string M) (.string T) (.int .i64 k) (.slice p n c) := cells4O HR_v1.out.bx
      refine hK _ _ ⟨fun _ => hS_v1, ?_⟩
      clear hK K' HR_v0 HK_v0 hS_v0
      clear hb
      refine wpAnyD_twoD (i := 5) (j := 8) (by kernel_rfl) rfl rfl (fun K' hK => ?_) (fun K' hK => ?_)
      · as_aux_lemma =>
          go_simp
          go_at_call 44
          refine (HC2.out _).mono ?_
          rintro e v2 ⟨rfl, hb⟩
          have HR_v2 := hid (HR_v1.out.next hb)
          have HK_v2 := hid (HK_v1.out.next hb)
          have hS_v2 : Cells4O v2 w.heap.size (.string M) (.string T) (.int .i64 k) (.slice p n c) := cells4O HR_v2.out.bx
          refine hK _ _ ⟨fun _ => hS_v2, ?_⟩
          clear hK K' HR_v1 HK_v1 hS_v1
          clear hb
          refine late_take (i := 7) (some 40) rfl rfl (by kernel_rfl) (by kernel_rfl) (by kernel_rfl) (by kernel_rfl) (by kernel_rfl) (fun _ _ _ h => h) (by rfl) (v := ?v7r5a) ?hy7r5a hS_v2 ?rest7r5a
          case hy7r5a => intro w0 hSw; obtain ⟨a0, a1, a2, a3, _⟩ := hSw; go_simp; try with_reducible rfl
          simp only [Act.put, List.setIfInBounds_toArray, List.set_cons_zero, List.set_cons_succ]
          refine wpAnyD_one (i := 8) (by kernel_rfl) rfl (fun K' hK => ?_)
          go_simp
          have HN_v3 := hid (heap_alloc_new v2 (.cells #[.string ⟨#[]⟩, .string ⟨#[]⟩, .int .i64 0, .slice none 0 0] 54 (0, 0)))
          have HH9 := hid (show w.heap.size + 1 < v2.heap.size from lt_of_heap HR_v2.out.rz)
          have HJ9 := hid (show gL ≠ v2.heap.size from fun e => Nat.lt_irrefl _ (by have h9 := lt_of_heap HK_v2.out; rw [e] at h9; exact h9))
          have HR_v3 := hid (HR_v2.out.next (below_new v2 (.cells #[.string ⟨#[]⟩, .string ⟨#[]⟩, .int .i64 0, .slice none 0 0] 54 (0, 0))))
          have HK_v3 := hid (HK_v2.out.next (below_new v2 (.cells #[.string ⟨#[]⟩, .string ⟨#[]⟩, .int .i64 0, .slice none 0 0] 54 (0, 0))))
          have hS_v3 : Cells4O (v2.alloc (.cells #[.string ⟨#[]⟩, .string ⟨#[]⟩, .int .i64 0, .slice none 0 0] 54 (0, 0))) w.heap.size (.string M) (.string T) (.int .i64 k) (.slice p n c) := cells4O HR_v3.out.bx
          refine hK _ _ ⟨fun _ => hS_v3, ?_⟩
          clear hK K'
          generalize hB_ : v2.alloc (.cells #[.string ⟨#[]⟩, .string ⟨#[]⟩, .int .i64 0, .slice none 0 0] 54 (0, 0)) = v3 at HN_v3 HR_v3 HK_v3 hS_v3 ⊢
          generalize hg9_ : v2.heap.size = g9 at HN_v3 HH9 HJ9 ⊢
          clear hB_ hg9_ HR_v2 HK_v2 hS_v2
          obtain ⟨z0, z1, z2, z3, zz⟩ := cells4O HN_v3.out
          have zz0 := zz 0; have zz1 := zz 1; have zz2 := zz 2; have zz3 := zz 3
          clear zz
          refine wpAnyD_one (i := 9) (by kernel_rfl) rfl (fun K' hK => ?_)
          go_simp
          have HT5 := hid (RtO.made HR_v3.out HK_v3.out HGL.out HN_v3.out HH9.out HJ9.out (.string M) (.string T) (.int .i64 1) (.slice (some ⟨gL, 0, none⟩) nL nL))
          have hS5 : Cells4O ((((v3.setCell ⟨g9, 0, none⟩ (.string M)).setCell ⟨g9, 1, none⟩ (.string T)).setCell ⟨g9, 2, none⟩ (.int .i64 1)).setCell ⟨g9, 3, none⟩ (.slice (some ⟨gL, 0, none⟩) nL nL)) w.heap.size (.string M) (.string T) (.int .i64 k) (.slice p n c) := ⟨by rw [keep4O (Nat.ne_of_lt (Nat.lt_of_succ_lt HH9.out))]; exact hS_v3.a0, by rw [keep4O (Nat.ne_of_lt (Nat.lt_of_succ_lt HH9.out))]; exact hS_v3.a1, by rw [keep4O (Nat.ne_of_lt (Nat.lt_of_succ_lt HH9.out))]; exact hS_v3.a2, by rw [keep4O (Nat.ne_of_lt (Nat.lt_of_succ_lt HH9.out))]; exact hS_v3.a3, fun j => (keep4Z (Nat.ne_of_lt (Nat.lt_of_succ_lt HH9.out))).trans (hS_v3.z j)⟩
          refine hK _ _ ⟨fun _ => hS5, ?_⟩
          clear hK K'
          generalize hW5 : ((((v3.setCell ⟨g9, 0, none⟩ (.string M)).setCell ⟨g9, 1, none⟩ (.string T)).setCell ⟨g9, 2, none⟩ (.int .i64 1)).setCell ⟨g9, 3, none⟩ (.slice (some ⟨gL, 0, none⟩) nL nL)) = U5 at HT5 hS5 ⊢
          clear hW5 z0 z1 z2 z3 zz0 zz1 zz2 zz3 HR_v3 HK_v3 HN_v3 hS_v3
          refine late_done (by kernel_rfl) ?_ _
          refine NoPanic.normal ?_
          clear hS5
          obtain ⟨c0, c1, c2, c3, _⟩ := cells4O HT5.out.nw
          by_cases hgr : greatE F.length e0 = 0
          · as_aux_lemma =>
              have HGr := hid (show ∀ W : World, Calls Tryz.prog 46 #[.slice (some ⟨gL, 0, none⟩) nL nL, errOf e0] W fun r w' => r = .returned .nilIface ∧ Below W.heap.size W w' from fun W => by
                have h := pgreat (some ⟨gL, 0, none⟩) nL nL e0 W
                rw [← HLL.out, hgr, show errOf 0 = Value.nilIface from rfl] at h
                rw [← HLL.out]
                exact h)
              have HGz := hid hgr
              clear hgr
              go_wp2_with (first | (go_at_call 45; (with_reducible refine (HWr.out _ _ _ HT5.out.low HLL.out HT5.out.row).mono ?_); rintro e w10 ⟨v10, rfl, hb⟩; have HT10 := hid (HT5.out.next hb); clear hb HWr HT5 c0 c1 c2 c3) | (go_at_call 46; (with_reducible refine (HGr.out _).mono ?_); rintro e w11 ⟨rfl, hb⟩; have HT11 := hid (HT10.out.next hb); clear hb HGr HT10; obtain ⟨c0, c1, c2, c3, _⟩ := cells4O HT11.out.nw; obtain ⟨z0, z1, z2, z3, zz⟩ := cells4O HT11.out.rz; have zz0 := zz 0; have zz1 := zz 1; have zz2 := zz 2; have zz3 := zz 3; clear zz))
              (try simp only [Exit.inBlock, Exit.then])
              refine bodyPost_ret (results_reqO rfl _ _ _ 54 _ (0, 0) rfl (fourCO HT11.out.rz _ _ _ _) rfl) rfl ?_
              refine .inr ⟨HGz.out, gL, ?_, Nat.le_of_lt (Nat.lt_of_succ_lt HT11.out.gl), blkF_only HT11.out.row (only4O (F := fun k => k = w.heap.size + 1) rfl _ _ _ _) (by have h9 := HT11.out.gl; omega), ?_⟩
              · rw [HLL.out]
                rfl
              · iterate 4 refine Below.setCell ?_ (Nat.le_succ _) _
                exact HT11.out.low
          · as_aux_lemma =>
              have HGr := hid (show ∀ W : World, Calls Tryz.prog 46 #[.slice (some ⟨gL, 0, none⟩) nL nL, errOf e0] W fun r w' => r = .returned (.iface 72 (.int .i64 (greatE F.length e0 : Int))) ∧ Below W.heap.size W w' from fun W => by
                have h := pgreat (some ⟨gL, 0, none⟩) nL nL e0 W
                rw [← HLL.out, errOf_pos hgr] at h
                rw [← HLL.out]
                exact h)
              have HGz := hid hgr
              obtain ⟨ge, hge⟩ : ∃ ge : Int, (greatE F.length e0 : Int) = ge := ⟨_, rfl⟩
              rw [hge] at HGr
              have HGE := hid hge
              clear hgr hge
              go_wp2_with (first | (go_at_call 45; (with_reducible refine (HWr.out _ _ _ HT5.out.low HLL.out HT5.out.row).mono ?_); rintro e w10 ⟨v10, rfl, hb⟩; have HT10 := hid (HT5.out.next hb); clear hb HWr HT5 c0 c1 c2 c3) | (go_at_call 46; (with_reducible refine (HGr.out _).mono ?_); rintro e w11 ⟨rfl, hb⟩; have HT11 := hid (HT10.out.next hb); clear hb HGr HT10; obtain ⟨z0, z1, z2, z3, zz⟩ := cells4O HT11.out.rz; have zz0 := zz 0; have zz1 := zz 1; have zz2 := zz 2; have zz3 := zz 3; clear zz))
              (try simp only [Exit.inBlock, Exit.then])
              refine bodyPost_ret (results_reqO rfl _ _ _ 54 _ (0, 0) rfl (fourCO HT11.out.rz _ _ _ _) rfl) rfl ?_
              refine .inl ⟨HGz.out, (by rw [HGE.out]; rfl), ?_⟩
              iterate 4 refine Below.setCell ?_ (Nat.le_succ _) _
              exact HT11.out.low
      · as_aux_lemma =>
          go_simp
          have HN_v2 := hid (heap_alloc_new v1 (.cells #[.string ⟨#[]⟩, .string ⟨#[]⟩, .int .i64 0, .slice none 0 0] 54 (0, 0)))
          have HH9 := hid (show w.heap.size + 1 < v1.heap.size from lt_of_heap HR_v1.out.rz)
          have HJ9 := hid (show gL ≠ v1.heap.size from fun e => Nat.lt_irrefl _ (by have h9 := lt_of_heap HK_v1.out; rw [e] at h9; exact h9))
          have HR_v2 := hid (HR_v1.out.next (below_new v1 (.cells #[.string ⟨#[]⟩, .string ⟨#[]⟩, .int .i64 0, .slice none 0 0] 54 (0, 0))))
          have HK_v2 := hid (HK_v1.out.next (below_new v1 (.cells #[.string ⟨#[]⟩, .string ⟨#[]⟩, .int .i64 0, .slice none 0 0] 54 (0, 0))))
          have hS_v2 : Cells4O (v1.alloc (.cells #[.string ⟨#[]⟩, .string ⟨#[]⟩, .int .i64 0, .slice none 0 0] 54 (0, 0))) w.heap.size (.string M) (.string T) (.int .i64 k) (.slice p n c) := cells4O HR_v2.out.bx
          refine hK _ _ ⟨fun _ => hS_v2, ?_⟩
          clear hK K'
          generalize hB_ : v1.alloc (.cells #[.string ⟨#[]⟩, .string ⟨#[]⟩, .int .i64 0, .slice none 0 0] 54 (0, 0)) = v2 at HN_v2 HR_v2 HK_v2 hS_v2 ⊢
          generalize hg9_ : v1.heap.size = g9 at HN_v2 HH9 HJ9 ⊢
          clear hB_ hg9_ HR_v1 HK_v1 hS_v1
          refine wpAnyD_one (i := 5) (by kernel_rfl) rfl (fun K' hK => ?_)
          go_simp
          go_at_call 44
          refine (HC2.out _).mono ?_
          rintro e v3 ⟨rfl, hb⟩
          have HR_v3 := hid (HR_v2.out.next hb)
          have HK_v3 := hid (HK_v2.out.next hb)
          have HN_v3 := hid ((hb.block _ (lt_of_heap HN_v2.out)).trans HN_v2.out)
          have hS_v3 : Cells4O v3 w.heap.size (.string M) (.string T) (.int .i64 k) (.slice p n c) := cells4O HR_v3.out.bx
          refine hK _ _ ⟨fun _ => hS_v3, ?_⟩
          clear hK K' HR_v2 HK_v2 hS_v2 HN_v2
          clear hb
          refine late_take (i := 7) (some 40) rfl rfl (by kernel_rfl) (by kernel_rfl) (by kernel_rfl) (by kernel_rfl) (by kernel_rfl) (fun _ _ _ h => h) (by rfl) (v := ?v7r5b) ?hy7r5b hS_v3 ?rest7r5b
          case hy7r5b => intro w0 hSw; obtain ⟨a0, a1, a2, a3, _⟩ := hSw; go_simp; try with_reducible rfl
          simp only [Act.put, List.setIfInBounds_toArray, List.set_cons_zero, List.set_cons_succ]
          obtain ⟨z0, z1, z2, z3, zz⟩ := cells4O HN_v3.out
          have zz0 := zz 0; have zz1 := zz 1; have zz2 := zz 2; have zz3 := zz 3
          clear zz
          refine wpAnyD_one (i := 9) (by kernel_rfl) rfl (fun K' hK => ?_)
          go_simp
          have HT5 := hid (RtO.made HR_v3.out HK_v3.out HGL.out HN_v3.out HH9.out HJ9.out (.string M) (.string T) (.int .i64 1) (.slice (some ⟨gL, 0, none⟩) nL nL))
          have hS5 : Cells4O ((((v3.setCell ⟨g9, 0, none⟩ (.string M)).setCell ⟨g9, 1, none⟩ (.string T)).setCell ⟨g9, 2, none⟩ (.int .i64 1)).setCell ⟨g9, 3, none⟩ (.slice (some ⟨gL, 0, none⟩) nL nL)) w.heap.size (.string M) (.string T) (.int .i64 k) (.slice p n c) := ⟨by rw [keep4O (Nat.ne_of_lt (Nat.lt_of_succ_lt HH9.out))]; exact hS_v3.a0, by rw [keep4O (Nat.ne_of_lt (Nat.lt_of_succ_lt HH9.out))]; exact hS_v3.a1, by rw [keep4O (Nat.ne_of_lt (Nat.lt_of_succ_lt HH9.out))]; exact hS_v3.a2, by rw [keep4O (Nat.ne_of_lt (Nat.lt_of_succ_lt HH9.out))]; exact hS_v3.a3, fun j => (keep4Z (Nat.ne_of_lt (Nat.lt_of_succ_lt HH9.out))).trans (hS_v3.z j)⟩
          refine hK _ _ ⟨fun _ => hS5, ?_⟩
          clear hK K'
          generalize hW5 : ((((v3.setCell ⟨g9, 0, none⟩ (.string M)).setCell ⟨g9, 1, none⟩ (.string T)).setCell ⟨g9, 2, none⟩ (.int .i64 1)).setCell ⟨g9, 3, none⟩ (.slice (some ⟨gL, 0, none⟩) nL nL)) = U5 at HT5 hS5 ⊢
          clear hW5 z0 z1 z2 z3 zz0 zz1 zz2 zz3 HR_v3 HK_v3 HN_v3 hS_v3
          refine late_done (by kernel_rfl) ?_ _
          refine NoPanic.normal ?_
          clear hS5
          obtain ⟨c0, c1, c2, c3, _⟩ := cells4O HT5.out.nw
          by_cases hgr : greatE F.length e0 = 0
          · as_aux_lemma =>
              have HGr := hid (show ∀ W : World, Calls Tryz.prog 46 #[.slice (some ⟨gL, 0, none⟩) nL nL, errOf e0] W fun r w' => r = .returned .nilIface ∧ Below W.heap.size W w' from fun W => by
                have h := pgreat (some ⟨gL, 0, none⟩) nL nL e0 W
                rw [← HLL.out, hgr, show errOf 0 = Value.nilIface from rfl] at h
                rw [← HLL.out]
                exact h)
              have HGz := hid hgr
              clear hgr
              go_wp2_with (first | (go_at_call 45; (with_reducible refine (HWr.out _ _ _ HT5.out.low HLL.out HT5.out.row).mono ?_); rintro e w10 ⟨v10, rfl, hb⟩; have HT10 := hid (HT5.out.next hb); clear hb HWr HT5 c0 c1 c2 c3) | (go_at_call 46; (with_reducible refine (HGr.out _).mono ?_); rintro e w11 ⟨rfl, hb⟩; have HT11 := hid (HT10.out.next hb); clear hb HGr HT10; obtain ⟨c0, c1, c2, c3, _⟩ := cells4O HT11.out.nw; obtain ⟨z0, z1, z2, z3, zz⟩ := cells4O HT11.out.rz; have zz0 := zz 0; have zz1 := zz 1; have zz2 := zz 2; have zz3 := zz 3; clear zz))
              (try simp only [Exit.inBlock, Exit.then])
              refine bodyPost_ret (results_reqO rfl _ _ _ 54 _ (0, 0) rfl (fourCO HT11.out.rz _ _ _ _) rfl) rfl ?_
              refine .inr ⟨HGz.out, gL, ?_, Nat.le_of_lt (Nat.lt_of_succ_lt HT11.out.gl), blkF_only HT11.out.row (only4O (F := fun k => k = w.heap.size + 1) rfl _ _ _ _) (by have h9 := HT11.out.gl; omega), ?_⟩
              · rw [HLL.out]
                rfl
              · iterate 4 refine Below.setCell ?_ (Nat.le_succ _) _
                exact HT11.out.low
          · as_aux_lemma =>
              have HGr := hid (show ∀ W : World, Calls Tryz.prog 46 #[.slice (some ⟨gL, 0, none⟩) nL nL, errOf e0] W fun r w' => r = .returned (.iface 72 (.int .i64 (greatE F.length e0 : Int))) ∧ Below W.heap.size W w' from fun W => by
                have h := pgreat (some ⟨gL, 0, none⟩) nL nL e0 W
                rw [← HLL.out, errOf_pos hgr] at h
                rw [← HLL.out]
                exact h)
              have HGz := hid hgr
              obtain ⟨ge, hge⟩ : ∃ ge : Int, (greatE F.length e0 : Int) = ge := ⟨_, rfl⟩
              rw [hge] at HGr
              have HGE := hid hge
              clear hgr hge
              go_wp2_with (first | (go_at_call 45; (with_reducible refine (HWr.out _ _ _ HT5.out.low HLL.out HT5.out.row).mono ?_); rintro e w10 ⟨v10, rfl, hb⟩; have HT10 := hid (HT5.out.next hb); clear hb HWr HT5 c0 c1 c2 c3) | (go_at_call 46; (with_reducible refine (HGr.out _).mono ?_); rintro e w11 ⟨rfl, hb⟩; have HT11 := hid (HT10.out.next hb); clear hb HGr HT10; obtain ⟨z0, z1, z2, z3, zz⟩ := cells4O HT11.out.rz; have zz0 := zz 0; have zz1 := zz 1; have zz2 := zz 2; have zz3 := zz 3; clear zz))
              (try simp only [Exit.inBlock, Exit.then])
              refine bodyPost_ret (results_reqO rfl _ _ _ 54 _ (0, 0) rfl (fourCO HT11.out.rz _ _ _ _) rfl) rfl ?_
              refine .inl ⟨HGz.out, (by rw [HGE.out]; rfl), ?_⟩
              iterate 4 refine Below.setCell ?_ (Nat.le_succ _) _
              exact HT11.out.low
  · as_aux_lemma =>
      go_simp
      have HN_v1 := hid (heap_alloc_new v0 (.cells #[.string ⟨#[]⟩, .string ⟨#[]⟩, .int .i64 0, .slice none 0 0] 54 (0, 0)))
      have HH9 := hid (show w.heap.size + 1 < v0.heap.size from lt_of_heap HR_v0.out.rz)
      have HJ9 := hid (show gL ≠ v0.heap.size from fun e => Nat.lt_irrefl _ (by have h9 := lt_of_heap HK_v0.out; rw [e] at h9; exact h9))
      have HR_v1 := hid (HR_v0.out.next (below_new v0 (.cells #[.string ⟨#[]⟩, .string ⟨#[]⟩, .int .i64 0, .slice none 0 0] 54 (0, 0))))
      have HK_v1 := hid (HK_v0.out.next (below_new v0 (.cells #[.string ⟨#[]⟩, .string ⟨#[]⟩, .int .i64 0, .slice none 0 0] 54 (0, 0))))
      have hS_v1 : Cells4O (v0.alloc (.cells #[.string ⟨#[]⟩, .string ⟨#[]⟩, .int .i64 0, .slice none 0 0] 54 (0, 0))) w.heap.size (.string M) (.string T) (.int .i64 k) (.slice p n c) := cells4O HR_v1.out.bx
      refine hK _ _ ⟨fun _ => hS_v1, ?_⟩
      clear hK K'
      generalize hB_ : v0.alloc (.cells #[.string ⟨#[]⟩, .string ⟨#[]⟩, .int .i64 0, .slice none 0 0] 54 (0, 0)) = v1 at HN_v1 HR_v1 HK_v1 hS_v1 ⊢
      generalize hg9_ : v0.heap.size = g9 at HN_v1 HH9 HJ9 ⊢
      clear hB_ hg9_ HR_v0 HK_v0 hS_v0
      refine wpAnyD_one (i := 2) (by kernel_rfl) rfl (fun K' hK => ?_)
      go_simp
      go_at_call 44
      refine (HC1.out _).mono ?_
      rintro e v2 ⟨rfl, hb⟩
      have HR_v2 := hid (HR_v1.out.next hb)
      have HK_v2 := hid (HK_v1.out.next hb)
      have HN_v2 := hid ((hb.block _ (lt_of_heap HN_v1.out)).trans HN_v1.out)
      have hS_v2 : Cells4O v2 w.heap.size (.string M) (.string T) (.int .i64 k) (.slice p n c) := cells4O HR_v2.out.bx
      refine hK _ _ ⟨fun _ => hS_v2, ?_⟩
      clear hK K' HR_v1 HK_v1 hS_v1 HN_v1
      clear hb
      refine wpAnyD_one (i := 5) (by kernel_rfl) rfl (fun K' hK => ?_)
      go_simp
      go_at_call 44
      refine (HC2.out _).mono ?_
      rintro e v3 ⟨rfl, hb⟩
      have HR_v3 := hid (HR_v2.out.next hb)
      have HK_v3 := hid (HK_v2.out.next hb)
      have HN_v3 := hid ((hb.block _ (lt_of_heap HN_v2.out)).trans HN_v2.out)
      have hS_v3 : Cells4O v3 w.heap.size (.string M) (.string T) (.int .i64 k) (.slice p n c) := cells4O HR_v3.out.bx
      refine hK _ _ ⟨fun _ => hS_v3, ?_⟩
      clear hK K' HR_v2 HK_v2 hS_v2 HN_v2
      clear hb
      refine late_take (i := 7) (some 40) rfl rfl (by kernel_rfl) (by kernel_rfl) (by kernel_rfl) (by kernel_rfl) (by kernel_rfl) (fun _ _ _ h => h) (by rfl) (v := ?v7r5c) ?hy7r5c hS_v3 ?rest7r5c
      case hy7r5c => intro w0 hSw; obtain ⟨a0, a1, a2, a3, _⟩ := hSw; go_simp; try with_reducible rfl
      simp only [Act.put, List.setIfInBounds_toArray, List.set_cons_zero, List.set_cons_succ]
      obtain ⟨z0, z1, z2, z3, zz⟩ := cells4O HN_v3.out
      have zz0 := zz 0; have zz1 := zz 1; have zz2 := zz 2; have zz3 := zz 3
      clear zz
      refine wpAnyD_one (i := 9) (by kernel_rfl) rfl (fun K' hK => ?_)
      go_simp
      have HT5 := hid (RtO.made HR_v3.out HK_v3.out HGL.out HN_v3.out HH9.out HJ9.out (.string M) (.string T) (.int .i64 1) (.slice (some ⟨gL, 0, none⟩) nL nL))
      have hS5 : Cells4O ((((v3.setCell ⟨g9, 0, none⟩ (.string M)).setCell ⟨g9, 1, none⟩ (.string T)).setCell ⟨g9, 2, none⟩ (.int .i64 1)).setCell ⟨g9, 3, none⟩ (.slice (some ⟨gL, 0, none⟩) nL nL)) w.heap.size (.string M) (.string T) (.int .i64 k) (.slice p n c) := ⟨by rw [keep4O (Nat.ne_of_lt (Nat.lt_of_succ_lt HH9.out))]; exact hS_v3.a0, by rw [keep4O (Nat.ne_of_lt (Nat.lt_of_succ_lt HH9.out))]; exact hS_v3.a1, by rw [keep4O (Nat.ne_of_lt (Nat.lt_of_succ_lt HH9.out))]; exact hS_v3.a2, by rw [keep4O (Nat.ne_of_lt (Nat.lt_of_succ_lt HH9.out))]; exact hS_v3.a3, fun j => (keep4Z (Nat.ne_of_lt (Nat.lt_of_succ_lt HH9.out))).trans (hS_v3.z j)⟩
      refine hK _ _ ⟨fun _ => hS5, ?_⟩
      clear hK K'
      generalize hW5 : ((((v3.setCell ⟨g9, 0, none⟩ (.string M)).setCell ⟨g9, 1, none⟩ (.string T)).setCell ⟨g9, 2, none⟩ (.int .i64 1)).setCell ⟨g9, 3, none⟩ (.slice (some ⟨gL, 0, none⟩) nL nL)) = U5 at HT5 hS5 ⊢
      clear hW5 z0 z1 z2 z3 zz0 zz1 zz2 zz3 HR_v3 HK_v3 HN_v3 hS_v3
      refine late_done (by kernel_rfl) ?_ _
      refine NoPanic.normal ?_
      clear hS5
      obtain ⟨c0, c1, c2, c3, _⟩ := cells4O HT5.out.nw
      by_cases hgr : greatE F.length e0 = 0
      · as_aux_lemma =>
          have HGr := hid (show ∀ W : World, Calls Tryz.prog 46 #[.slice (some ⟨gL, 0, none⟩) nL nL, errOf e0] W fun r w' => r = .returned .nilIface ∧ Below W.heap.size W w' from fun W => by
            have h := pgreat (some ⟨gL, 0, none⟩) nL nL e0 W
            rw [← HLL.out, hgr, show errOf 0 = Value.nilIface from rfl] at h
            rw [← HLL.out]
            exact h)
          have HGz := hid hgr
          clear hgr
          go_wp2_with (first | (go_at_call 45; (with_reducible refine (HWr.out _ _ _ HT5.out.low HLL.out HT5.out.row).mono ?_); rintro e w10 ⟨v10, rfl, hb⟩; have HT10 := hid (HT5.out.next hb); clear hb HWr HT5 c0 c1 c2 c3) | (go_at_call 46; (with_reducible refine (HGr.out _).mono ?_); rintro e w11 ⟨rfl, hb⟩; have HT11 := hid (HT10.out.next hb); clear hb HGr HT10; obtain ⟨c0, c1, c2, c3, _⟩ := cells4O HT11.out.nw; obtain ⟨z0, z1, z2, z3, zz⟩ := cells4O HT11.out.rz; have zz0 := zz 0; have zz1 := zz 1; have zz2 := zz 2; have zz3 := zz 3; clear zz))
          (try simp only [Exit.inBlock, Exit.then])
          refine bodyPost_ret (results_reqO rfl _ _ _ 54 _ (0, 0) rfl (fourCO HT11.out.rz _ _ _ _) rfl) rfl ?_
          refine .inr ⟨HGz.out, gL, ?_, Nat.le_of_lt (Nat.lt_of_succ_lt HT11.out.gl), blkF_only HT11.out.row (only4O (F := fun k => k = w.heap.size + 1) rfl _ _ _ _) (by have h9 := HT11.out.gl; omega), ?_⟩
          · rw [HLL.out]
            rfl
          · iterate 4 refine Below.setCell ?_ (Nat.le_succ _) _
            exact HT11.out.low
      · as_aux_lemma =>
          have HGr := hid (show ∀ W : World, Calls Tryz.prog 46 #[.slice (some ⟨gL, 0, none⟩) nL nL, errOf e0] W fun r w' => r = .returned (.iface 72 (.int .i64 (greatE F.length e0 : Int))) ∧ Below W.heap.size W w' from fun W => by
            have h := pgreat (some ⟨gL, 0, none⟩) nL nL e0 W
            rw [← HLL.out, errOf_pos hgr] at h
            rw [← HLL.out]
            exact h)
          have HGz := hid hgr
          obtain ⟨ge, hge⟩ : ∃ ge : Int, (greatE F.length e0 : Int) = ge := ⟨_, rfl⟩
          rw [hge] at HGr
          have HGE := hid hge
          clear hgr hge
          go_wp2_with (first | (go_at_call 45; (with_reducible refine (HWr.out _ _ _ HT5.out.low HLL.out HT5.out.row).mono ?_); rintro e w10 ⟨v10, rfl, hb⟩; have HT10 := hid (HT5.out.next hb); clear hb HWr HT5 c0 c1 c2 c3) | (go_at_call 46; (with_reducible refine (HGr.out _).mono ?_); rintro e w11 ⟨rfl, hb⟩; have HT11 := hid (HT10.out.next hb); clear hb HGr HT10; obtain ⟨z0, z1, z2, z3, zz⟩ := cells4O HT11.out.rz; have zz0 := zz 0; have zz1 := zz 1; have zz2 := zz 2; have zz3 := zz 3; clear zz))
          (try simp only [Exit.inBlock, Exit.then])
          refine bodyPost_ret (results_reqO rfl _ _ _ 54 _ (0, 0) rfl (fourCO HT11.out.rz _ _ _ _) rfl) rfl ?_
          refine .inl ⟨HGz.out, (by rw [HGE.out]; rfl), ?_⟩
          iterate 4 refine Below.setCell ?_ (Nat.le_succ _) _
          exact HT11.out.low
theorem preq (m t : B) (k : Int) (fs : List (B × B)) (p : Option Addr) (n c : Nat) (hn : fs.length = n) (cl : B) (L : Int) (w : World) (hF : FAt w p fs) (hsz : szN fs) (hnn : n ≤ 1000) (hm : m.length ≤ 1048576) (ht : t.length ≤ 1048576) (hcl : cl.length ≤ 1048576) (hL0 : -9223372036854775808 ≤ L) (hL1 : L ≤ 9223372036854775807) (hE : EnvP w) (hmx : ∃ m : Int, w.cell? ⟨2, 0, none⟩ = some (.int .i64 m)) :
    Calls Tryz.prog 21 #[.agg #[.string (str m), .string (str t), .int .i64 k, .slice p n c], .string (str cl), .int .i64 L] w fun e w' => QAns m t (onQ m fs cl k L) w e w' := by
  cases h : tellsB m L with
  | true => exact preq_y m t k fs p n c hn cl L w hF hsz hnn hm ht hcl hL0 hL1 hE hmx h
  | false => exact preq_n m t k fs p n c hn cl L w hF hsz hnn hm ht hcl hL0 hL1 hE hmx h
end Go.Proofs.YtnlmjlfoeodleaaGreatDoor
/- What must come whatever the input is; fields copied. -/
namespace Go.Proofs.YtnlmjlfoeodleaaGreatDoor
open Go.RowKit

set_option maxRecDepth 20000 in
set_option maxHeartbeats 8000000 in
theorem twin14 (fs : List (B × B)) (p : Option Addr) (n c : Nat) (hn : fs.length = n) (w : World) (hF : FAt w p fs) (hnn : n ≤ 1048576) : Calls Tryz.prog 20 #[.slice p n c] w fun e w' => ∃ q d, e = .returned (.slice q n d) ∧ OwnF w' w.heap.size (.slice q n d) fs ∧ Below w.heap.size w w' := by
  obtain ⟨i0, hi0, hz0, hz1, hz2⟩ := info_parts infoF
  cases p with
  | none =>
    have hfs : fs = [] := by
      cases fs with
      | nil => rfl
      | cons f l => obtain ⟨g, o, e, _⟩ := hF 0 f rfl; cases e
    subst hfs
    subst hn
    clear hF
    go_enter Tryz.func20, Tryz.ntmps20
    go_wp2
    go_ret
    exact ⟨none, 0, rfl, OwnF.nil _ _, by first | exact Below.refl _ _ | exact (Below.refl _ _).drew⟩
  | some ad =>
    have HNw := hid hF.newsW
    have HL := hid hn
    clear hF hn
    go_enter Tryz.func20, Tryz.ntmps20
    go_wp2_with (at_builtin; refine wpList_append_own_at w rfl (.tmp 4) (.tmp 5) 33 rfl w.heap.size 88 i0 _ 2 32 Tryz.underlying33 hi0 hz0 hz1 hz2 rfl (by decide) (.slice none 0 0) 0 [] (by go_simp) (OwnF.nil _ _) ad n c (fldC fs) (by go_simp) (by rw [fldC_len, HL.out]) HNw.out (fldC_oneW fs) (by unfold maxLen; omega) (by omega) (Nat.le_refl _) ?_; intro v' w1 hown hgr _ _; rw [Nat.zero_add, List.nil_append] at hown; obtain ⟨q, d, rfl⟩ := own_slice hown; have HO := hid (show OwnF w1 w.heap.size (.slice q n d) fs from by unfold OwnF; rw [HL.out]; exact hown); have HB := hid (below_grown hgr); clear hown hgr)
    go_ret
    exact ⟨q, d, rfl, HO.out, HB.out⟩
def wkF : List (B × B) := [([67, 111, 110, 110, 101, 99, 116, 105, 111, 110], [99, 108, 111, 115, 101, 44, 32, 88, 45, 65]), ([88, 45, 65], [49]), ([88, 45, 66], [50])]
def wkG : List (B × B) := [([72, 111, 115, 116], [97]), ([84, 69], [116, 114, 97, 105, 108, 101, 114, 115])]
def wkR : List (B × B) := [([72, 111, 115, 116], [97]), ([88, 45, 70, 111, 114, 119, 97, 114, 100, 101, 100, 45, 70, 111, 114], [55]), ([86, 105, 97], [49, 46, 48, 32, 116, 117, 114, 110, 115, 116, 105, 108, 101])]
theorem wk_strip : stripF wkF = [([88, 45, 66], [50])] := by decide +kernel
theorem wk_on : onQ [71, 69, 84] wkG [55] 0 0 = wkR := by decide +kernel
theorem wk_great : greatE wkR.length (reqE [71, 69, 84] [47] 1 wkR) = 0 := by decide +kernel
theorem wk_fat {W : World} {fs : List (B × B)} {g : Nat} {cs : Array Value} (h : W.heap[g]? = some (.cells cs 88 (0, 0))) (hc : (fldC fs).toArray = cs) : FAt W (some ⟨g, 0, none⟩) fs := by
  subst hc
  exact arr_fat (Z := []) (by rw [List.append_nil]; exact h)
theorem wk_cells {W : World} {g : Nat} (h : BlkF W g wkR) : (W.cell? ⟨g, 2, none⟩ = some (.string (⟨#[88, 45, 70, 111, 114, 119, 97, 114, 100, 101, 100, 45, 70, 111, 114]⟩ : ByteArray)) ∧ W.cell? ⟨g, 3, none⟩ = some (.string (⟨#[55]⟩ : ByteArray))) ∧ W.cell? ⟨g, 4, none⟩ = some (.string (⟨#[86, 105, 97]⟩ : ByteArray)) ∧ W.cell? ⟨g, 5, none⟩ = some (.string (⟨#[49, 46, 48, 32, 116, 117, 114, 110, 115, 116, 105, 108, 101]⟩ : ByteArray)) := by
  have h2 : W.heap[g]? = some (.cells #[.string ⟨#[72, 111, 115, 116]⟩, .string ⟨#[97]⟩, .string ⟨#[88, 45, 70, 111, 114, 119, 97, 114, 100, 101, 100, 45, 70, 111, 114]⟩, .string ⟨#[55]⟩, .string ⟨#[86, 105, 97]⟩, .string ⟨#[49, 46, 48, 32, 116, 117, 114, 110, 115, 116, 105, 108, 101]⟩] 88 (0, 0)) := h
  refine ⟨⟨?_, ?_⟩, ?_, ?_⟩ <;> simp [World.cell?, h2]
set_option maxRecDepth 20000 in
set_option maxHeartbeats 16000000 in
theorem works14 (w : World) (hE : EnvP w) (hmx : ∃ m : Int, w.cell? ⟨2, 0, none⟩ = some (.int .i64 m)) :
    Calls Tryz.prog 19 #[] w fun e w' => e = .returned (.bool true) ∧ Below w.heap.size w w' := by
  have hb0 := below_new w (.cells #[.string ⟨#[67, 111, 110, 110, 101, 99, 116, 105, 111, 110]⟩, .string ⟨#[99, 108, 111, 115, 101, 44, 32, 88, 45, 65]⟩, .string ⟨#[88, 45, 65]⟩, .string ⟨#[49]⟩, .string ⟨#[88, 45, 66]⟩, .string ⟨#[50]⟩] 88 (0, 0))
  have HB0 := hid hb0
  have HSt := hid (pstrip wkF (some ⟨w.heap.size, 0, none⟩) 3 3 rfl (w.alloc (.cells #[.string ⟨#[67, 111, 110, 110, 101, 99, 116, 105, 111, 110]⟩, .string ⟨#[99, 108, 111, 115, 101, 44, 32, 88, 45, 65]⟩, .string ⟨#[88, 45, 65]⟩, .string ⟨#[49]⟩, .string ⟨#[88, 45, 66]⟩, .string ⟨#[50]⟩] 88 (0, 0))) (wk_fat (heap_alloc_new w _) rfl) (by unfold szN wkF; decide) (by decide) (hmx.elim fun m h => ⟨m, cell_keep hb0 h⟩))
  rw [wk_strip] at HSt
  have HRq := hid (show ∀ W : World, Below w.heap.size w W → _ from fun W hb => preq [71, 69, 84] [47] 0 wkG (some ⟨W.heap.size, 0, none⟩) 2 2 rfl [55] 0 (W.alloc (.cells #[.string ⟨#[72, 111, 115, 116]⟩, .string ⟨#[97]⟩, .string ⟨#[84, 69]⟩, .string ⟨#[116, 114, 97, 105, 108, 101, 114, 115]⟩] 88 (0, 0))) (wk_fat (heap_alloc_new W _) rfl) (by unfold szN wkG; decide) (by decide) (by decide) (by decide) (by decide) (by decide) (by decide) (hE.next (below_out hb (below_new _ _))) (hmx.elim fun m h => ⟨m, cell_keep (below_out hb (below_new _ _)) h⟩))
  rw [wk_on] at HRq
  have HRs := hid (show ∀ W : World, Below w.heap.size w W → Calls Tryz.prog 21 #[.agg #[.string (⟨#[71, 69, 84]⟩ : ByteArray), .string (⟨#[47]⟩ : ByteArray), .int .i64 0, .slice (some ⟨W.heap.size, 0, none⟩) 2 2], .string (⟨#[55]⟩ : ByteArray), .int .i64 0] (W.alloc (.cells #[.string ⟨#[72, 111, 115, 116]⟩, .string ⟨#[97]⟩, .string ⟨#[84, 69]⟩, .string ⟨#[116, 114, 97, 105, 108, 101, 114, 115]⟩] 88 (0, 0))) fun e w' => ∃ g, e = .returned (.tuple #[.agg #[.string (⟨#[71, 69, 84]⟩ : ByteArray), .string (⟨#[47]⟩ : ByteArray), .int .i64 1, .slice (some ⟨g, 0, none⟩) 3 3], .nilIface]) ∧ BlkF w' g wkR ∧ Below (W.alloc (.cells #[.string ⟨#[72, 111, 115, 116]⟩, .string ⟨#[97]⟩, .string ⟨#[84, 69]⟩, .string ⟨#[116, 114, 97, 105, 108, 101, 114, 115]⟩] 88 (0, 0))).heap.size (W.alloc (.cells #[.string ⟨#[72, 111, 115, 116]⟩, .string ⟨#[97]⟩, .string ⟨#[84, 69]⟩, .string ⟨#[116, 114, 97, 105, 108, 101, 114, 115]⟩] 88 (0, 0))) w' from fun W hb => (HRq.out W hb).mono (by
    rintro e w' (⟨h1, _⟩ | ⟨_, g, rfl, _, h3, h4⟩)
    · exact absurd wk_great h1
    · exact ⟨g, rfl, h3, h4⟩))
  clear hb0 hE hmx HRq
  go_enter Tryz.func19, Tryz.ntmps19
  go_wp2_with (first | (go_at_call 36; (with_reducible refine HSt.out.mono ?_); rintro e w1 ⟨v1, rfl, ho, hb⟩; obtain ⟨q1, d1, rfl⟩ := own_slice ho; obtain ⟨g1, o1, rfl, k1, _⟩ := OwnF.at (j := 0) ho rfl; have HB1 := hid (below_out HB0.out hb); have K1 := hid (show w1.cell? ⟨g1, o1, none⟩ = some (.string (⟨#[88, 45, 66]⟩ : ByteArray)) from k1); clear hb ho HSt HB0 k1) | (go_at_call 21; (with_reducible refine (HRs.out _ HB1.out).mono ?_); rintro e w2 ⟨g2, rfl, hbk, hb⟩; have HB2 := hid (below_out (below_out HB1.out (below_new _ _)) hb); have hn2 := below_new w2 (.cells #[.string (⟨#[71, 69, 84]⟩ : ByteArray), .string (⟨#[47]⟩ : ByteArray), .int .i64 1, .slice (some ⟨g2, 0, none⟩) 3 3] 54 (0, 0)); obtain ⟨⟨k2, k3⟩, k4, k5⟩ := wk_cells (hbk.next hn2); have k1 := cell_keep hn2 (cell_keep hb (cell_keep (below_new w1 _) K1.out)); clear hn2; clear hb hbk HRs))
  go_ret
  exact ⟨rfl, below_out HB2.out (below_new _ _)⟩
end Go.Proofs.YtnlmjlfoeodleaaGreatDoor
